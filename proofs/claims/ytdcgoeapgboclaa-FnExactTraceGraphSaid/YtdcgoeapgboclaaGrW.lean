/- Graphs as words: edges that were handed in; the model's check of an edge. -/
import Derived.Test.YtdcgoeapgboclaaTmS0
import Derived.Test.YtdcgoeapgboclaaFdWalks
import Derived.Test.YtdcgoeapgboclaaRow
namespace Go.Proofs.Ytdcgoeapgboclaa
set_option maxRecDepth 100000
open Go Go.RowKit Go.Deep

abbrev tEd : TypeId := 79
/-- An edge: kind, value, input and output wires. -/
structure Ed where
  k : Int
  v : Int
  i : List Int
  o : List Int
def ed0 : Ed := ⟨0, 0, [], []⟩
/-- A graph: wires, edges, the lists of its interface. -/
structure Gf where
  n : Int
  e : List Ed
  i : List Int
  o : List Int
/-- The slice v reads as the edges es, in blocks of S. -/
def RdEs (w : World) (S : Nat → Prop) (v : Value) (es : List Ed) : Prop :=
  ∃ A c, v = .slice A es.length c ∧ es.length ≤ c ∧ ∀ k, k < es.length → ∃ b o A1 c1 A2 c2, A = some ⟨b, o, none⟩ ∧ S b ∧ w.cell? ⟨b, o + k * 4, none⟩ = some (.int .i64 (es.getD k ed0).k) ∧ w.cell? ⟨b, o + k * 4 + 1, none⟩ = some (.int .i64 (es.getD k ed0).v) ∧
    w.cell? ⟨b, o + k * 4 + 2, none⟩ = some (.slice A1 (es.getD k ed0).i.length c1) ∧ w.cell? ⟨b, o + k * 4 + 3, none⟩ = some (.slice A2 (es.getD k ed0).o.length c2) ∧ RdS w S (.slice A1 (es.getD k ed0).i.length c1) (es.getD k ed0).i ∧ RdS w S (.slice A2 (es.getD k ed0).o.length c2) (es.getD k ed0).o
theorem RdEs.mono {w : World} {S T : Nat → Prop} {v : Value} {es : List Ed} (h : RdEs w S v es) (hs : ∀ q, S q → T q) : RdEs w T v es := by
  obtain ⟨A, c, e, hc, h⟩ := h
  refine ⟨A, c, e, hc, fun k hk => ?_⟩
  obtain ⟨b, o, A1, c1, A2, c2, e2, h3, h4, h5, h6, h7, h8, h9⟩ := h k hk
  exact ⟨b, o, A1, c1, A2, c2, e2, hs _ h3, h4, h5, h6, h7, h8.mono hs, h9.mono hs⟩
theorem RdEs.blocks {w w' : World} {S : Nat → Prop} {v : Value} {es : List Ed} (h : RdEs w S v es) (hb : ∀ q, S q → w'.heap[q]? = w.heap[q]?) : RdEs w' S v es := by
  obtain ⟨A, c, e, hc, h⟩ := h
  refine ⟨A, c, e, hc, fun k hk => ?_⟩
  obtain ⟨b, o, A1, c1, A2, c2, e2, h3, h4, h5, h6, h7, h8, h9⟩ := h k hk
  exact ⟨b, o, A1, c1, A2, c2, e2, h3, (World.cell?_of_block (w := w) (hb b h3)).trans h4, (World.cell?_of_block (w := w) (hb b h3)).trans h5, (World.cell?_of_block (w := w) (hb b h3)).trans h6, (World.cell?_of_block (w := w) (hb b h3)).trans h7, h8.blocks hb, h9.blocks hb⟩
theorem RdEs.nil (w : World) (S : Nat → Prop) (A : Option Addr) (c : Nat) : RdEs w S (.slice A 0 c) [] := ⟨A, c, rfl, Nat.zero_le c, fun k hk => absurd hk (Nat.not_lt_zero k)⟩
/-- The slice v reads as the edges es, below block B. -/
def RdE (w : World) (B : Nat) (v : Value) (es : List Ed) : Prop := RdEs w (fun q => q < B) v es
theorem RdE.below {w w' : World} {B B' : Nat} {v : Value} {es : List Ed} (h : RdE w B v es) (hb : Below B' w w') (hB : B ≤ B') : RdE w' B v es := by
  obtain ⟨A, c, e, hc, h⟩ := h
  refine ⟨A, c, e, hc, fun k hk => ?_⟩
  obtain ⟨b, o, A1, c1, A2, c2, e2, h3, h4, h5, h6, h7, h8, h9⟩ := h k hk
  have hlt : b < B' := Nat.lt_of_lt_of_le h3 hB
  exact ⟨b, o, A1, c1, A2, c2, e2, h3, (hb.cell (p := ⟨b, o + k * 4, none⟩) hlt).trans h4, (hb.cell (p := ⟨b, o + k * 4 + 1, none⟩) hlt).trans h5, (hb.cell (p := ⟨b, o + k * 4 + 2, none⟩) hlt).trans h6, (hb.cell (p := ⟨b, o + k * 4 + 3, none⟩) hlt).trans h7, h8.below hb hB, h9.below hb hB⟩
theorem RdE.mono {w : World} {B B' : Nat} {v : Value} {es : List Ed} (h : RdE w B v es) (hB : B ≤ B') : RdE w B' v es := by
  obtain ⟨A, c, e, hc, h⟩ := h
  refine ⟨A, c, e, hc, fun k hk => ?_⟩
  obtain ⟨b, o, A1, c1, A2, c2, e2, h3, h4, h5, h6, h7, h8, h9⟩ := h k hk
  exact ⟨b, o, A1, c1, A2, c2, e2, Nat.lt_of_lt_of_le h3 hB, h4, h5, h6, h7, h8.mono fun _ hq => Nat.lt_of_lt_of_le hq hB, h9.mono fun _ hq => Nat.lt_of_lt_of_le hq hB⟩
theorem RdE.len {w : World} {B : Nat} {v : Value} {es : List Ed} (h : RdE w B v es) : ∃ A c, v = .slice A es.length c := by
  obtain ⟨A, c, e, _⟩ := h
  exact ⟨A, c, e⟩
theorem RdE.at {w : World} {B : Nat} {A : Option Addr} {n c : Nat} {es : List Ed} (h : RdE w B (.slice A n c) es) {k : Nat} (hk : k < es.length) :
    ∃ b o A1 c1 A2 c2, A = some ⟨b, o, none⟩ ∧ b < B ∧ w.cell? ⟨b, o + k * 4, none⟩ = some (.int .i64 (es.getD k ed0).k) ∧ w.cell? ⟨b, o + k * 4 + 1, none⟩ = some (.int .i64 (es.getD k ed0).v) ∧
    w.cell? ⟨b, o + k * 4 + 2, none⟩ = some (.slice A1 (es.getD k ed0).i.length c1) ∧ w.cell? ⟨b, o + k * 4 + 3, none⟩ = some (.slice A2 (es.getD k ed0).o.length c2) ∧ RdS w (fun q => q < B) (.slice A1 (es.getD k ed0).i.length c1) (es.getD k ed0).i ∧ RdS w (fun q => q < B) (.slice A2 (es.getD k ed0).o.length c2) (es.getD k ed0).o := by
  obtain ⟨A', c', e, _, h⟩ := h
  obtain ⟨rfl, -, -⟩ := sliceEq e
  exact h k hk
theorem l1In_any (n lo hi : Int) (w : World) : Calls Try.prog 41 #[.int .i64 n, .int .i64 lo, .int .i64 hi] w fun e w' => e = .returned (.bool (decide (lo ≤ n) && decide (n ≤ hi))) ∧ w = w' := by
  by_cases h : lo ≤ n ∧ n ≤ hi
  · refine (l1In_t n lo hi w h.1 h.2).mono ?_
    rintro e w' ⟨rfl, rfl⟩
    exact ⟨by simp [h.1, h.2], rfl⟩
  · refine (l1In_f n lo hi w (by omega)).mono ?_
    rintro e w' ⟨rfl, rfl⟩
    refine ⟨?_, rfl⟩
    have : (decide (lo ≤ n) && decide (n ≤ hi)) = false := by
      simp only [Bool.and_eq_false_iff, decide_eq_false_iff_not]
      omega
    rw [this]
theorem CellsAt.four {w : World} {b : Nat} {t : TypeId} {x0 x1 x2 x3 : Value} (h : CellsAt w b t [x0, x1, x2, x3]) : w.cell? ⟨b, 0, none⟩ = some x0 ∧ w.cell? ⟨b, 1, none⟩ = some x1 ∧ w.cell? ⟨b, 2, none⟩ = some x2 ∧ w.cell? ⟨b, 3, none⟩ = some x3 ∧ b < w.heap.size :=
  ⟨h.cell (i := 0) (by simp), h.cell (i := 1) (by simp), h.cell (i := 2) (by simp), h.cell (i := 3) (by simp), h.lt⟩
/-- All of the list from lo to hi. -/
def allL (xs : List Int) (lo hi : Int) : Bool := xs.all (between lo hi)
/-- The model's check of an edge of a graph with n wires. -/
def edB (n : Int) (e : Ed) : Bool := decide (3 ≤ e.k) && decide (e.k ≤ 14) && isLeafB ⟨e.k, e.v, ByteArray.empty⟩ && decide ((e.i.length : Int) = (kindW e.k).1) && decide ((e.o.length : Int) = (kindW e.k).2) && allL e.i 0 (n - 1) && allL e.o 0 (n - 1)
set_option maxRecDepth 100000 in
set_option maxHeartbeats 3200000 in
theorem hgEdge_any (w : World) (B : Nat) (e : Ed) (n : Int) (A1 : Option Addr) (c1 : Nat) (A2 : Option Addr) (c2 : Nat) (h1 : RdS w (fun q => q < B) (.slice A1 e.i.length c1) e.i) (h2 : RdS w (fun q => q < B) (.slice A2 e.o.length c2) e.o) (hB : B ≤ w.heap.size) (hn0 : 0 ≤ n) (hn1 : n ≤ 1000) (hl1 : e.i.length ≤ 9223372036854775807) (hl2 : e.o.length ≤ 9223372036854775807) :
    Calls Try.prog 55 #[.agg #[.int .i64 e.k, .int .i64 e.v, .slice A1 e.i.length c1, .slice A2 e.o.length c2], .int .i64 n] w fun x w' => x = .returned (.bool (edB n e)) ∧ Below w.heap.size w w' := by
  have HX := Lib.hid (cellsAt_new w #[.int .i64 e.k, .int .i64 e.v, .slice A1 e.i.length c1, .slice A2 e.o.length c2] tEd)
  have HBW := Lib.hid (show Below w.heap.size w (w.alloc (.cells #[.int .i64 e.k, .int .i64 e.v, .slice A1 e.i.length c1, .slice A2 e.o.length c2] tEd)) from (Below.refl _ _).alloc (Nat.le_refl _) _)
  have H1 := Lib.hid (h1.below HBW.out hB)
  have H2 := Lib.hid (h2.below HBW.out hB)
  have HB := Lib.hid hB
  have HED := Lib.hid (show edB n e = (decide (3 ≤ e.k) && decide (e.k ≤ 14) && isLeafB ⟨e.k, e.v, ByteArray.empty⟩ && decide ((e.i.length : Int) = (kindW e.k).1) && decide ((e.o.length : Int) = (kindW e.k).2) && allL e.i 0 (n - 1) && allL e.o 0 (n - 1)) from rfl)
  have hw1 : IntKind.i64.wrap (n - 1) = n - 1 := Go.IntWalk.i64_in _ ⟨by omega, by omega⟩
  clear h1 h2 hB
  go_enter Try.func55, Try.ntmps55
  go_wp2_with fail
  refine (l1In_any _ _ _ _).mono ?_
  rintro x w' ⟨rfl, rfl⟩
  generalize w.alloc (.cells #[.int .i64 e.k, .int .i64 e.v, .slice A1 e.i.length c1, .slice A2 e.o.length c2] tEd) = W at HX HBW H1 H2 ⊢
  obtain ⟨hx0, hx1, hx2, hx3, hxl⟩ := HX.out.four
  cases hb1 : (decide (3 ≤ e.k) && decide (e.k ≤ 14)) with
  | false =>
    have HE := Lib.hid (show edB n e = false by rw [HED.out, hb1]; rfl)
    clear hb1
    go_wp2
    go_ret
    rw [HE.out]
    exact ⟨rfl, HBW.out⟩
  | true =>
    rw [hb1] at HED
    clear hb1
    go_wp2_with fail
    refine (tmLeaf_any _ ⟨e.k, e.v, ByteArray.empty⟩).mono ?_
    rintro x w2 ⟨rfl, b2⟩
    have HX2 := Lib.hid (HX.out.below b2 HX.out.lt)
    have HB2 := Lib.hid (HBW.out.trans (b2.mono HBW.out.size))
    have H12 := Lib.hid (H1.out.below b2 (Nat.le_trans HB.out HBW.out.size))
    have H22 := Lib.hid (H2.out.below b2 (Nat.le_trans HB.out HBW.out.size))
    clear b2 hx0 hx1 hx2 hx3
    obtain ⟨hx0, hx1, hx2, hx3, hxl⟩ := HX2.out.four
    cases hb2 : isLeafB ⟨e.k, e.v, ByteArray.empty⟩ with
    | false =>
      have HE := Lib.hid (show edB n e = false by rw [HED.out, hb2]; rfl)
      clear hb2
      go_wp2
      go_ret
      rw [HE.out]
      exact ⟨rfl, HB2.out⟩
    | true =>
      rw [hb2] at HED
      clear hb2
      go_wp2_with fail
      refine (tmKind_any _ e.k).mono ?_
      rintro x w' ⟨rfl, rfl⟩
      unfold pairV
      generalize (kindW e.k).1 = k1 at HED ⊢
      generalize (kindW e.k).2 = k2 at HED ⊢
      by_cases hb3 : (e.i.length : Int) = k1
      · by_cases hb4 : (e.o.length : Int) = k2
        · subst hb3 hb4
          go_wp2_with fail
          refine (l1All_any _ B _ e.i 0 (n - 1) H12.out (by omega)).mono ?_
          rintro x w' ⟨rfl, rfl⟩
          cases hb5 : e.i.all (between 0 (n - 1)) with
          | false =>
            have HE := Lib.hid (show edB n e = false by rw [HED.out]; unfold allL; simp [hb5])
            clear hb5
            go_wp2
            go_ret
            rw [HE.out]
            exact ⟨rfl, HB2.out⟩
          | true =>
            have H5 := Lib.hid hb5
            clear hb5
            go_wp2_with fail
            refine (l1All_any _ B _ e.o 0 (n - 1) H22.out (by omega)).mono ?_
            rintro x w' ⟨rfl, rfl⟩
            have HE := Lib.hid (show edB n e = e.o.all (between 0 (n - 1)) by rw [HED.out]; unfold allL; simp [H5.out])
            generalize e.o.all (between 0 (n - 1)) = bo at HE ⊢
            go_wp2
            go_ret
            rw [HE.out]
            exact ⟨rfl, HB2.out⟩
        · have HE := Lib.hid (show edB n e = false by rw [HED.out]; simp [hb4])
          go_wp2
          go_ret
          rw [HE.out]
          exact ⟨rfl, HB2.out⟩
      · have HE := Lib.hid (show edB n e = false by rw [HED.out]; simp [hb3])
        go_wp2
        go_ret
        rw [HE.out]
        exact ⟨rfl, HB2.out⟩
/-- How often each wire is in a list. -/
def cntRow (n : Nat) (l : List Int) : List Int := (List.range n).map fun k : Nat => ((l.count (k : Int) : Nat) : Int)
theorem cntRow_len (n : Nat) (l : List Int) : (cntRow n l).length = n := by simp [cntRow]
theorem cntRow_at {n k : Nat} (l : List Int) (h : k < n) : (cntRow n l).getD k 0 = ((l.count (k : Int) : Nat) : Int) := by
  unfold cntRow
  rw [List.getD_eq_getElem?_getD, List.getElem?_map, List.getElem?_range h]
  rfl
theorem cntRow_nil (n : Nat) : cntRow n [] = List.replicate n 0 := by
  refine ext_getD 0 (by simp [cntRow]) fun i hi => ?_
  rw [cntRow_len] at hi
  rw [cntRow_at _ hi, repl_getD]
  rfl
theorem cntRow_step {n k : Nat} {l : List Int} {x : Int} (hk : (k : Int) = x) (h : k < n) : (cntRow n l).set k ((cntRow n l).getD k 0 + 1) = cntRow n (l ++ [x]) := by
  subst hk
  refine ext_getD 0 (by rw [List.length_set, cntRow_len, cntRow_len]) fun i hi => ?_
  rw [List.length_set, cntRow_len] at hi
  rw [set_getD _ _ _ _ _ (by rw [cntRow_len]; exact h), cntRow_at _ hi, cntRow_at _ hi, cntRow_at _ h, List.count_append, List.count_singleton]
  by_cases c : k = i
  · subst c
    simp
  · have hc : ((k : Int) == (i : Int)) = false := by simp; omega
    simp [c, hc]
end Go.Proofs.Ytdcgoeapgboclaa
