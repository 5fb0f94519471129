/- LeafN LeafT in one text. -/
import Derived.Test.YtiealgnmhjebeaaLeaf
import Derived.Test.YtiealgnmhjebeaaTr
import Derived.Deep.RegionHeld3
import Derived.Laws.BytesArg
/-! Lists of nodes that came in, or are the call's own; what the laws' helpers do with them. -/
namespace Go.Proofs.Ytiealgnmhjebeaa
set_option maxRecDepth 100000
open Go Go.RowKit Go.Deep

abbrev tNd : TypeId := 87
/-- A node as a value. -/
def ndV (n : Nd) : Value := .agg #[.int .i64 n.k, .int .i64 n.v, .string n.s]
/-- The slice v reads as the nodes xs. -/
def RdN (w : World) (S : Nat → Prop) (v : Value) (xs : List Nd) : Prop :=
  ∃ A c, v = .slice A xs.length c ∧ xs.length ≤ c ∧ ∀ k, k < xs.length → ∃ b o, A = some ⟨b, o, none⟩ ∧ S b ∧ w.cell? ⟨b, o + k * 3, none⟩ = some (.int .i64 (xs.getD k nd0).k) ∧ w.cell? ⟨b, o + k * 3 + 1, none⟩ = some (.int .i64 (xs.getD k nd0).v) ∧ w.cell? ⟨b, o + k * 3 + 2, none⟩ = some (.string (xs.getD k nd0).s)
/-- The slice v is the call's own, of the nodes xs. -/
def OwN (w : World) (S : Nat → Prop) (v : Value) (xs : List Nd) : Prop :=
  ∃ A c, v = .slice A xs.length c ∧ xs.length ≤ c ∧ (xs = [] ∨ ∃ b, A = some ⟨b, 0, none⟩ ∧ S b ∧ CellsAt w b tNd (ncells xs))
theorem RdN.mono {w : World} {S T : Nat → Prop} {v : Value} {xs : List Nd} (h : RdN w S v xs) (hs : ∀ k, S k → T k) : RdN w T v xs := by
  obtain ⟨A, c, e, hc, h⟩ := h
  refine ⟨A, c, e, hc, fun k hk => ?_⟩
  obtain ⟨b, o, e2, h3, h4⟩ := h k hk
  exact ⟨b, o, e2, hs b h3, h4⟩
theorem RdN.blocks {w w' : World} {S : Nat → Prop} {v : Value} {xs : List Nd} (h : RdN w S v xs) (hb : ∀ k, S k → w'.heap[k]? = w.heap[k]?) : RdN w' S v xs := by
  obtain ⟨A, c, e, hc, h⟩ := h
  refine ⟨A, c, e, hc, fun k hk => ?_⟩
  obtain ⟨b, o, e2, h3, h4, h5, h6⟩ := h k hk
  exact ⟨b, o, e2, h3, (World.cell?_of_block (w := w) (hb b h3)).trans h4, (World.cell?_of_block (w := w) (hb b h3)).trans h5, (World.cell?_of_block (w := w) (hb b h3)).trans h6⟩
theorem RdN.below {w w' : World} {B B' : Nat} {v : Value} {xs : List Nd} (h : RdN w (fun b => b < B) v xs) (hb : Below B' w w') (hB : B ≤ B') : RdN w' (fun b => b < B) v xs :=
  h.blocks fun k hk => hb.block k (Nat.lt_of_lt_of_le hk hB)
theorem RdN.len {w : World} {S : Nat → Prop} {v : Value} {xs : List Nd} (h : RdN w S v xs) : ∃ A c, v = .slice A xs.length c := by
  obtain ⟨A, c, e, _⟩ := h
  exact ⟨A, c, e⟩
theorem RdN.at {w : World} {S : Nat → Prop} {A : Option Addr} {n c : Nat} {xs : List Nd} (h : RdN w S (.slice A n c) xs) {k : Nat} (hk : k < xs.length) :
    ∃ b o, A = some ⟨b, o, none⟩ ∧ S b ∧ w.cell? ⟨b, o + k * 3, none⟩ = some (.int .i64 (xs.getD k nd0).k) ∧ w.cell? ⟨b, o + k * 3 + 1, none⟩ = some (.int .i64 (xs.getD k nd0).v) ∧ w.cell? ⟨b, o + k * 3 + 2, none⟩ = some (.string (xs.getD k nd0).s) := by
  obtain ⟨A', c', e, _, h⟩ := h
  obtain ⟨b, o, e2, h3⟩ := h k hk
  obtain ⟨rfl, -, -⟩ := sliceEq e
  exact ⟨b, o, e2, h3⟩
theorem OwN.len {w : World} {S : Nat → Prop} {v : Value} {xs : List Nd} (h : OwN w S v xs) : ∃ A c, v = .slice A xs.length c := by
  obtain ⟨A, c, e, _⟩ := h
  exact ⟨A, c, e⟩
theorem OwN.mono {w : World} {S T : Nat → Prop} {v : Value} {xs : List Nd} (h : OwN w S v xs) (hs : ∀ k, S k → k < w.heap.size → T k) : OwN w T v xs := by
  obtain ⟨A, c, e, hc, h⟩ := h
  refine ⟨A, c, e, hc, ?_⟩
  rcases h with h | ⟨b, e2, h3, h4⟩
  · exact Or.inl h
  · exact Or.inr ⟨b, e2, hs b h3 h4.lt, h4⟩
theorem OwN.blocks {w w' : World} {S : Nat → Prop} {v : Value} {xs : List Nd} (h : OwN w S v xs) (hb : ∀ k, S k → k < w.heap.size → w'.heap[k]? = w.heap[k]?) : OwN w' S v xs := by
  obtain ⟨A, c, e, hc, h⟩ := h
  refine ⟨A, c, e, hc, ?_⟩
  rcases h with h | ⟨b, e2, h3, h4⟩
  · exact Or.inl h
  · exact Or.inr ⟨b, e2, h3, h4.of_block (hb b h3 h4.lt)⟩
theorem OwN.readB {w : World} {S : Nat → Prop} {v : Value} {xs : List Nd} (h : OwN w S v xs) : RdN w (fun b => b < w.heap.size) v xs := by
  obtain ⟨A, c, e, hc, h⟩ := h
  refine ⟨A, c, e, hc, fun k hk => ?_⟩
  rcases h with h | ⟨b, e2, h3, h4⟩
  · rw [h] at hk
    exact absurd hk (Nat.not_lt_zero k)
  · have hl := ncells_len xs
    obtain ⟨c1, c2, c3⟩ := ncells_at hk
    refine ⟨b, 0, e2, h4.lt, ?_, ?_, ?_⟩
    · rw [Nat.zero_add, h4.cell (i := k * 3) (by omega), ← c1, List.getElem?_eq_getElem (by omega)]
    · rw [Nat.zero_add, h4.cell (i := k * 3 + 1) (by omega), ← c2, List.getElem?_eq_getElem (by omega)]
    · rw [Nat.zero_add, h4.cell (i := k * 3 + 2) (by omega), ← c3, List.getElem?_eq_getElem (by omega)]
/-! ### In the form of the harness -/
def LfN (w : World) (B : Nat) (v : Value) (xs : List Nd) : Prop := RdN w (fun b => b < B) v xs ∧ xs.length ≤ 9223372036854775807 ∧ ∀ k, k < xs.length → (xs.getD k nd0).s.size ≤ 9223372036854775807
theorem LfN.below {w w' : World} {B B' : Nat} {v : Value} {x : List Nd} (h : LfN w B v x) (hb : Below B' w w') (hB : B ≤ B') : LfN w' B v x := ⟨h.1.below hb hB, h.2⟩
theorem LfN.mono {w : World} {B B' : Nat} {v : Value} {x : List Nd} (h : LfN w B v x) (hB : B ≤ B') : LfN w B' v x := ⟨h.1.mono fun _ hk => Nat.lt_of_lt_of_le hk hB, h.2⟩
theorem LfN.len {w : World} {B : Nat} {v : Value} {x : List Nd} (h : LfN w B v x) : ∃ A c, v = .slice A x.length c := h.1.len
def szN (x : List Nd) : Nat := szNs x
def cntN (x : List Nd) : Nat := x.length * 3
def OwnN (w : World) (S : Nat → Prop) (v : Value) (x : List Nd) : Prop := OwN w S v x ∧ cntN x ≤ 1099511627776 ∧ ∀ k, k < x.length → (x.getD k nd0).s.size ≤ 9223372036854775807
theorem cntN_le (x : List Nd) : cntN x ≤ 3 * szN x := by unfold cntN szN szNs; omega
theorem sum_take (ns : List Nd) (k : Nat) : ((ns.take k).map fun n => n.s.size).sum ≤ (ns.map fun n => n.s.size).sum := by
  conv => rhs; rw [← List.take_append_drop k ns, List.map_append, List.sum_append]
  omega
theorem sum_at : ∀ {ns : List Nd} {k : Nat}, k < ns.length → (ns.getD k nd0).s.size ≤ (ns.map fun n => n.s.size).sum
  | n :: ns, 0, _ => by simp
  | n :: ns, k + 1, h => by
    have := sum_at (ns := ns) (k := k) (by simp at h; omega)
    simp only [List.getD_cons_succ, List.map_cons, List.sum_cons]
    omega
theorem sum_step : ∀ {ns : List Nd} {k : Nat}, k < ns.length → ((ns.take (k + 1)).map fun n => n.s.size).sum = ((ns.take k).map fun n => n.s.size).sum + (ns.getD k nd0).s.size
  | n :: ns, 0, _ => by simp
  | n :: ns, k + 1, h => by
    have := sum_step (ns := ns) (k := k) (by simp at h; omega)
    simp only [List.take_succ_cons, List.getD_cons_succ, List.map_cons, List.sum_cons] at this ⊢
    omega
theorem OwnN.rd {w : World} {S : Nat → Prop} {v : Value} {x : List Nd} (h : OwnN w S v x) : LfN w w.heap.size v x :=
  ⟨h.1.readB, by have := h.2.1; unfold cntN at this; omega, h.2.2⟩
theorem OwnN.mono {w : World} {S T : Nat → Prop} {v : Value} {x : List Nd} (h : OwnN w S v x) (hs : ∀ k, S k → k < w.heap.size → T k) : OwnN w T v x := ⟨h.1.mono hs, h.2⟩
theorem OwnN.blocks {w w' : World} {S : Nat → Prop} {v : Value} {x : List Nd} (h : OwnN w S v x) (hb : ∀ k, S k → k < w.heap.size → w'.heap[k]? = w.heap[k]?) : OwnN w' S v x := ⟨h.1.blocks hb, h.2⟩
theorem OwnN.below {w w' : World} {S : Nat → Prop} {B : Nat} {v : Value} {x : List Nd} (h : OwnN w S v x) (hb : Below B w w') (hs : ∀ k, S k → k < w.heap.size → k < B) : OwnN w' S v x := h.blocks fun k hk hl => hb.block k (hs k hk hl)
theorem OwnN.len {w : World} {S : Nat → Prop} {v : Value} {x : List Nd} (h : OwnN w S v x) : ∃ A c, v = .slice A x.length c := h.1.len
set_option maxHeartbeats 800000 in
theorem toNode_any (w : World) (n : Nd) : Calls Try.prog 71 #[ndV n] w fun e w' => e = .returned (ndV n) ∧ Below w.heap.size w w' := by
  unfold ndV
  go_enter Try.func71, Try.ntmps71
  go_wp2
  refine bodyPost_ret (v := .agg #[.int .i64 n.k, .int .i64 n.v, .string n.s]) (by simp [results, Try.results71, go_sem]) rfl ?_
  exact ⟨rfl, by repeat' (first | exact Below.refl _ _ | apply Below.drew | apply Below.setCell | apply Below.alloc | (simp; done) | omega | (simp; omega))⟩
set_option maxHeartbeats 800000 in
theorem szNode_any (w : World) (n : Nd) (left : Int) (h0 : 0 ≤ left) (h1 : left ≤ 1000000000) (hs : n.s.size ≤ 9223372036854775807) : Calls Try.prog 63 #[ndV n, .int .i64 left] w (SzB left n.s.size w) := by
  unfold ndV
  by_cases c : left - (n.s.size : Int) < 0
  · go_enter Try.func63, Try.ntmps63
    go_wp2
    go_ret
    exact ⟨by repeat' (first | exact Below.refl _ _ | apply Below.drew | apply Below.setCell | apply Below.alloc | (simp; done) | omega | (simp; omega)), Or.inl rfl⟩
  · go_enter Try.func63, Try.ntmps63
    go_wp2
    go_ret
    exact ⟨by repeat' (first | exact Below.refl _ _ | apply Below.drew | apply Below.setCell | apply Below.alloc | (simp; done) | omega | (simp; omega)), Or.inr ⟨by omega, rfl⟩⟩
theorem RdN.lt {w : World} {S : Nat → Prop} {v : Value} {xs : List Nd} (h : RdN w S v xs) : RdN w (fun b => S b ∧ b < w.heap.size) v xs := by
  obtain ⟨A, c, e, hc, h⟩ := h
  refine ⟨A, c, e, hc, fun k hk => ?_⟩
  obtain ⟨b, o, e2, h3, h4⟩ := h k hk
  exact ⟨b, o, e2, ⟨h3, World.block_lt_of_cell? w _ h4.1⟩, h4⟩
theorem RdN.all {w : World} {S : Nat → Prop} {v : Value} {xs : List Nd} (h : RdN w S v xs) : RdN w (fun b => b < w.heap.size) v xs := h.lt.mono fun _ hk => hk.2
set_option maxHeartbeats 1600000 in
theorem szN_any (w : World) (B : Nat) (v : Value) (x : List Nd) (left : Int) (hv : LfN w B v x) (h0 : 0 ≤ left) (h1 : left ≤ 1000000000) :
    Calls Try.prog 31 #[v, .int .i64 left] w (SzB left (szN x) w) := by
  obtain ⟨A, c, rfl⟩ := hv.len
  have HV := Lib.hid hv.1.all
  have hl := hv.2.1
  have HS := Lib.hid hv.2.2
  clear hv
  unfold szN szNs
  by_cases c0 : left - (x.length : Int) < 0
  · go_enter Try.func31, Try.ntmps31
    go_wp2
    go_ret
    exact ⟨Below.refl _ _, Or.inl rfl⟩
  · have hle : (x.length : Int) ≤ left := by omega
    go_enter Try.func31, Try.ntmps31
    go_wp2
    go_loopw [5, 1] (fun i l wr => ∃ (k : Nat) (z : Int), k ≤ x.length ∧ i = .int .i64 k ∧ l = .int .i64 z ∧ Hid (z = left - x.length - ((((x.take k).map fun n => n.s.size).sum : Nat) : Int)) ∧ 0 ≤ z ∧ z ≤ 1000000000 ∧ Hid (Below w.heap.size w wr)) (fun i _ _ => x.length - (intOf i).toNat)
    case atStart => exact ⟨0, _, Nat.zero_le _, rfl, rfl, Lib.hid (by simp), by omega, by omega, Lib.hid (Below.refl _ _)⟩
    case round =>
      obtain ⟨k, z, hk, rfl, rfl, HZ, hz0, hz1, HB⟩ := hrel
      by_cases hlt : k < x.length
      · obtain ⟨b, o, rfl, hb, hc0, hc1, hc2⟩ := (HV.out.below HB.out (Nat.le_refl _)).at hlt
        have hss := HS.out k hlt
        have HST := Lib.hid (sum_step hlt)
        have HSU := Lib.hid (sum_take x (k + 1))
        generalize x.getD k nd0 = nd at hc0 hc1 hc2 hss HST
        have hkI : (k : Int) < (x.length : Int) := by omega
        go_wp2_with fail
        refine (szNode_any _ nd z hz0 hz1 hss).mono ?_
        rintro e w2 ⟨b2, h2⟩
        have HB2 := Lib.hid (HB.out.trans (b2.mono HB.out.size))
        clear b2 hc0 hc1 hc2
        rcases h2 with rfl | ⟨hle2, rfl⟩
        · have HBIG := Lib.hid HB2.out
          go_wp2
          go_ret
          exact ⟨HBIG.out, Or.inl rfl⟩
        · have hz2 : 0 ≤ z - (nd.s.size : Int) := by omega
          obtain ⟨z2, HZ2, hz3, hz4, hze⟩ : ∃ z2 : Int, Hid (z2 = z - (nd.s.size : Int)) ∧ 0 ≤ z2 ∧ z2 ≤ 1000000000 ∧ z - (nd.s.size : Int) = z2 := ⟨_, Lib.hid rfl, hz2, by omega, rfl⟩
          rw [hze]
          clear hze
          go_wp2
          go_roundw
          case rel => exact ⟨k + 1, z2, by omega, by go_num, rfl, Lib.hid (by have := HZ.out; have := HZ2.out; have := HST.out; omega), hz3, hz4, HB2⟩
          case measure => simp [intOf]; omega
      · have hk2 : k = x.length := by omega
        have HK := Lib.hid (show x.take k = x from List.take_of_length_le (by omega))
        rw [HK.out] at HZ
        have hkI : ¬ (k : Int) < (x.length : Int) := by omega
        go_wp2
        go_ret
        refine ⟨HB.out, Or.inr ⟨by have := HZ.out; omega, ?_⟩⟩
        have h : z = left - ((x.length + (x.map fun n => n.s.size).sum : Nat) : Int) := by have := HZ.out; omega
        rw [h]
        rfl
def MkN (w : World) (x : List Nd) (e : Ending) (w' : World) : Prop := ∃ v, e = .returned v ∧ Below w.heap.size w w' ∧ OwnN w' (fun b => w.heap.size ≤ b) v x
set_option maxHeartbeats 800000 in
theorem eqNode_any (w : World) (n : Nd) : Calls Try.prog 73 #[ndV n, ndV n] w (SaysYes w) := by
  unfold ndV
  have h0 : (n.k != n.k) = false := by simp
  have h1 : (n.v != n.v) = false := by simp
  go_enter Try.func73, Try.ntmps73
  go_wp2
  go_ret
  exact ⟨rfl, by repeat' (first | exact Below.refl _ _ | apply Below.drew | apply Below.setCell | apply Below.alloc | (simp; done) | omega | (simp; omega))⟩
theorem infoN : (Try.prog.info? 87).map (fun i => (i.zero, i.size, i.bytes)) = some (some (.agg #[.int .i64 0, .int .i64 0, .string ByteArray.empty]), 3, 32) := by kernel_rfl
/-- make([]Node, n) -/
theorem make_nodes (n : Nat) (hn : n ≤ 1000000000) (w : World) : (Instr.makeSlice 26 (.int .i64 (n : Int)) (.int .i64 (n : Int))).run Try.prog w = .ok (.slice (some ⟨w.heap.size, 0, none⟩) n n) (w.alloc (.cells (madeCells #[.int .i64 0, .int .i64 0, .string ByteArray.empty] (n * 3)) 87)) := by
  obtain ⟨i, hi, hzz⟩ := Option.map_eq_some_iff.1 infoN
  simp only [Prod.mk.injEq] at hzz
  obtain ⟨hz, hs, hb⟩ := hzz
  have h := run_make (P := Try.prog) w 26 87 i _ Try.underlying26 hi hz .i64 .i64 n n (by omega) (Int.le_refl _) (by rw [hb]; omega) (by omega)
  rw [hs] at h
  simpa [Value.cells] using h
theorem made_cells (n : Nat) : (madeCells #[.int .i64 0, .int .i64 0, .string ByteArray.empty] (n * 3)).toList = ncells (List.replicate n nd0) := by
  apply List.ext_getElem?
  intro j
  by_cases hj : j < n * 3
  · have hq : j / 3 < (List.replicate n nd0).length := by rw [List.length_replicate]; omega
    obtain ⟨c0, c1, c2⟩ := ncells_at hq
    rw [repl_getD' _ _ _ _ (by omega)] at c0 c1 c2
    have hm : j % 3 = 0 ∨ j % 3 = 1 ∨ j % 3 = 2 := by omega
    rcases hm with h | h | h
    · rw [show j = j / 3 * 3 by omega, c0]
      simp [madeCells, nd0, show j / 3 * 3 < n * 3 by omega]
    · rw [show j = j / 3 * 3 + 1 by omega, c1]
      simp [madeCells, nd0, show j / 3 * 3 + 1 < n * 3 by omega, show (j / 3 * 3 + 1) % 3 = 1 by omega]
    · rw [show j = j / 3 * 3 + 2 by omega, c2]
      simp [madeCells, nd0, show j / 3 * 3 + 2 < n * 3 by omega, show (j / 3 * 3 + 2) % 3 = 2 by omega]
  · rw [List.getElem?_eq_none (by simp [madeCells]; omega), List.getElem?_eq_none (by rw [ncells_len, List.length_replicate]; omega)]
theorem made_nodes (w : World) (n : Nat) : CellsAt (w.alloc (.cells (madeCells #[.int .i64 0, .int .i64 0, .string ByteArray.empty] (n * 3)) 87)) w.heap.size tNd (ncells (List.replicate n nd0)) := by
  have := cellsAt_new w (madeCells #[.int .i64 0, .int .i64 0, .string ByteArray.empty] (n * 3)) 87
  rw [made_cells] at this
  exact this
theorem tk_step {x : List Nd} {k : Nat} (h : k < x.length) : (x.take k ++ List.replicate (x.length - k) nd0).set k (x.getD k nd0) = x.take (k + 1) ++ List.replicate (x.length - (k + 1)) nd0 := by
  have hl : (x.take k).length = k := by rw [List.length_take]; omega
  rw [List.set_append_right _ _ (by omega), hl, Nat.sub_self, show x.length - k = x.length - (k + 1) + 1 by omega, List.replicate_succ, List.set_cons_zero]
  have e : x.take (k + 1) = x.take k ++ [x.getD k nd0] := by
    rw [List.take_add_one, List.getD_eq_getElem?_getD, List.getElem?_eq_getElem h]
    rfl
  rw [e, List.append_assoc]
  rfl
set_option maxHeartbeats 1600000 in
theorem toN_any (w : World) (B : Nat) (v : Value) (x : List Nd) (hv : LfN w B v x) (hB : B ≤ w.heap.size) (hl : szN x ≤ 1048576) :
    Calls Try.prog 34 #[v] w (MkN w x) := by
  obtain ⟨A, c, rfl⟩ := hv.len
  have hlen : x.length ≤ 1048576 := by unfold szN szNs at hl; omega
  have hmk := make_nodes x.length (by omega)
  have HV := Lib.hid hv.1
  have HB := Lib.hid hB
  have HSZ := Lib.hid (show cntN x ≤ 1099511627776 ∧ ∀ k, k < x.length → (x.getD k nd0).s.size ≤ 9223372036854775807 from ⟨by unfold cntN; omega, fun k hk => by have := sum_at hk; unfold szN szNs at hl; omega⟩)
  clear hv hB hl
  go_enter Try.func34, Try.ntmps34
  go_wp2
  go_loopw [4] (fun i wr => ∃ k : Nat, k ≤ x.length ∧ i = .int .i64 k ∧ Hid (Below w.heap.size w wr) ∧ Hid (CellsAt wr w.heap.size tNd (ncells (x.take k ++ List.replicate (x.length - k) nd0)))) (fun i _ => x.length - (intOf i).toNat)
  case atStart => exact ⟨0, Nat.zero_le _, rfl, Lib.hid ((Below.refl _ _).alloc (Nat.le_refl _) _), Lib.hid (by rw [List.take_zero, List.nil_append, Nat.sub_zero]; exact made_nodes w x.length)⟩
  case round =>
    obtain ⟨k, hk, rfl, HB2, HO⟩ := hrel
    have hos := HO.out.lt
    by_cases hlt : k < x.length
    · obtain ⟨b, o, rfl, hb, hc0, hc1, hc2⟩ := (HV.out.below HB2.out HB.out).at hlt
      have HST := Lib.hid (tk_step hlt)
      have hlc : k * 3 + 3 ≤ (ncells (x.take k ++ List.replicate (x.length - k) nd0)).length := by rw [ncells_len]; simp; omega
      have HNS := Lib.hid (ncells_set (ns := x.take k ++ List.replicate (x.length - k) nd0) (i := k) (x := x.getD k nd0) (by simp; omega))
      rw [HST.out] at HNS
      generalize x.take k ++ List.replicate (x.length - k) nd0 = ys at HO HNS hlc HST
      generalize x.getD k nd0 = nd at hc0 hc1 hc2 HNS HST
      have hkI : (k : Int) < (x.length : Int) := by omega
      go_wp2_with fail
      refine (toNode_any _ nd).mono ?_
      rintro e w2 ⟨rfl, b2⟩
      have HO2 := Lib.hid (HO.out.below b2 hos)
      have HB3 := Lib.hid (HB2.out.trans (b2.mono HB2.out.size))
      obtain ⟨u0, hu0⟩ : ∃ u, w2.cell? ⟨w.heap.size, k * 3, none⟩ = some u := ⟨_, (HO2.out.cell (i := k * 3) (by omega)).trans (List.getElem?_eq_getElem (by omega))⟩
      obtain ⟨u1, hu1⟩ : ∃ u, w2.cell? ⟨w.heap.size, k * 3 + 1, none⟩ = some u := ⟨_, (HO2.out.cell (i := k * 3 + 1) (by omega)).trans (List.getElem?_eq_getElem (by omega))⟩
      obtain ⟨u2, hu2⟩ : ∃ u, w2.cell? ⟨w.heap.size, k * 3 + 2, none⟩ = some u := ⟨_, (HO2.out.cell (i := k * 3 + 2) (by omega)).trans (List.getElem?_eq_getElem (by omega))⟩
      have hf := HO2.out.frozen
      clear b2 hc0 hc1 hc2
      unfold ndV
      go_wp2
      go_roundw
      case rel => exact ⟨k + 1, by omega, by go_num, Lib.hid (by repeat' (first | exact HB3.out | apply Below.setCell | exact Nat.le_refl _)), Lib.hid (by rw [← HNS.out]; exact ((HO2.out.set (k * 3) _).set (k * 3 + 1) _).set (k * 3 + 2) _)⟩
      case measure => simp [intOf]; omega
    · have hk2 : x.take k ++ List.replicate (x.length - k) nd0 = x := by
        rw [List.take_of_length_le (by omega), show x.length - k = 0 by omega]
        simp
      rw [hk2] at HO
      clear hk2
      go_wp2
      go_ret
      exact ⟨_, rfl, HB2.out, ⟨_, _, rfl, Nat.le_refl _, Or.inr ⟨_, rfl, Nat.le_refl _, HO.out⟩⟩, HSZ.out⟩
set_option maxHeartbeats 3200000 in
theorem eqN_any (w : World) (B : Nat) (v u : Value) (x : List Nd) (hv : LfN w B v x) (hu : LfN w B u x) :
    Calls Try.prog 37 #[v, u] w (SaysYes w) := by
  obtain ⟨A, c, rfl⟩ := hv.len
  obtain ⟨A2, c2, rfl⟩ := hu.len
  have HV := Lib.hid hv.1.all
  have HU := Lib.hid hu.1.all
  have hl := hv.2.1
  clear hv hu
  have hq : ((x.length : Int) != (x.length : Int)) = false := by simp
  go_enter Try.func37, Try.ntmps37
  go_wp2
  go_loopw [5] (fun i wr => ∃ k : Nat, k ≤ x.length ∧ i = .int .i64 k ∧ Hid (Below w.heap.size w wr)) (fun i _ => x.length - (intOf i).toNat)
  case atStart => exact ⟨0, Nat.zero_le _, rfl, Lib.hid (Below.refl _ _)⟩
  case round =>
    obtain ⟨k, hk, rfl, HB2⟩ := hrel
    by_cases hlt : k < x.length
    · obtain ⟨b, o, rfl, hb, hc0, hc1, hc2⟩ := (HV.out.below HB2.out (Nat.le_refl _)).at hlt
      obtain ⟨b', o', rfl, hb', hd0, hd1, hd2⟩ := (HU.out.below HB2.out (Nat.le_refl _)).at hlt
      generalize x.getD k nd0 = nd at hc0 hc1 hc2 hd0 hd1 hd2
      have hkI : (k : Int) < (x.length : Int) := by omega
      have i0 : (0 : Int) ≤ (k : Int) := by omega
      have hs2 : w.heap.size ≤ wr.heap.size := HB2.out.size
      have HELD : Hid (∀ w' : World, Below wr.heap.size wr w' → w'.cell? ⟨b, o + k * 3, none⟩ = some (.int .i64 nd.k) ∧ w'.cell? ⟨b, o + k * 3 + 1, none⟩ = some (.int .i64 nd.v) ∧ w'.cell? ⟨b, o + k * 3 + 2, none⟩ = some (.string nd.s) ∧ w'.cell? ⟨b', o' + k * 3, none⟩ = some (.int .i64 nd.k) ∧ w'.cell? ⟨b', o' + k * 3 + 1, none⟩ = some (.int .i64 nd.v) ∧ w'.cell? ⟨b', o' + k * 3 + 2, none⟩ = some (.string nd.s)) :=
        Lib.hid (fun w' H => ⟨(H.cell (p := ⟨b, o + k * 3, none⟩) (by dsimp only; omega)).trans hc0, (H.cell (p := ⟨b, o + k * 3 + 1, none⟩) (by dsimp only; omega)).trans hc1, (H.cell (p := ⟨b, o + k * 3 + 2, none⟩) (by dsimp only; omega)).trans hc2, (H.cell (p := ⟨b', o' + k * 3, none⟩) (by dsimp only; omega)).trans hd0, (H.cell (p := ⟨b', o' + k * 3 + 1, none⟩) (by dsimp only; omega)).trans hd1, (H.cell (p := ⟨b', o' + k * 3 + 2, none⟩) (by dsimp only; omega)).trans hd2⟩)
      have HD0 := Lib.hid (HELD.out wr.drew (Below.refl _ _).drew)
      clear hc0 hc1 hc2 hd0 hd1 hd2
      go_wp2
      go_region_held3 (fun w' => w'.cell? ⟨b, o + k * 3, none⟩ = some (.int .i64 nd.k) ∧ w'.cell? ⟨b, o + k * 3 + 1, none⟩ = some (.int .i64 nd.v) ∧ w'.cell? ⟨b, o + k * 3 + 2, none⟩ = some (.string nd.s) ∧ w'.cell? ⟨b', o' + k * 3, none⟩ = some (.int .i64 nd.k) ∧ w'.cell? ⟨b', o' + k * 3 + 1, none⟩ = some (.int .i64 nd.v) ∧ w'.cell? ⟨b', o' + k * 3 + 2, none⟩ = some (.string nd.s))
        (first | with_reducible exact HD0.out | with_reducible exact HD1.out | fail)
        (first
          | (go_at_call 73; go_split_ands; refine (eqNode_any wr.drew nd).mono ?_; rintro e w2 ⟨rfl, b2⟩; have HB3 : Hid (Below wr.heap.size wr w2) := Lib.hid ((Below.refl _ _).drew.trans b2); have HD1 := Lib.hid (HELD.out w2 HB3.out); clear b2)
          | fail)
      have HB4 := Lib.hid (HB2.out.trans (HB3.out.mono hs2))
      go_wp2
      go_roundw
      case rel => exact ⟨k + 1, by omega, by go_num, HB4⟩
      case measure => simp [intOf]; omega
    · have hkI : ¬ (k : Int) < (x.length : Int) := by omega
      go_wp2
      go_ret
      exact ⟨rfl, HB2.out⟩
end Go.Proofs.Ytiealgnmhjebeaa

/-! What the laws' helpers do with a mark of a string and with a slice of nodes: they mark it, and say whether it bears the marks still. -/
namespace Go.Proofs.Ytiealgnmhjebeaa
open Go Go.RowKit Go.Deep

/-- The digits of k ahead of out. -/
def digs (k : Nat) (out : ByteArray) : ByteArray :=
  if k = 0 then out else digs (k / 10) (strOfNums [48 + (k : Int) % 10] ++ out)
termination_by k
decreasing_by omega
def mtx (k : Int) : ByteArray := if k ≤ 0 then ByteArray.mk #[109, 48] else ByteArray.mk #[109] ++ digs k.toNat ByteArray.empty
theorem digs_size (k : Nat) (out : ByteArray) : (digs k out).size ≤ out.size + k := by
  rw [digs]
  split
  · omega
  · have := digs_size (k / 10) (strOfNums [48 + (k : Int) % 10] ++ out)
    have h1 : (strOfNums [48 + (k : Int) % 10]).size = 1 := rfl
    rw [ByteArray.size_append, h1] at this
    omega
termination_by k
decreasing_by omega
theorem mtx_size (k : Int) (hk : k ≤ 9223372036854775807) : (mtx k).size ≤ 9223372036854775807 := by
  unfold mtx
  split
  · exact Nat.le_trans (show (ByteArray.mk #[109, 48]).size ≤ 2 from Nat.le_refl 2) (by omega)
  · have h1 : (ByteArray.mk #[109]).size = 1 := rfl
    have h2 : (strOfNums [48 + (k.toNat : Int) % 10]).size = 1 := rfl
    have h3 : ByteArray.empty.size = 0 := rfl
    rw [ByteArray.size_append, h1, digs, if_neg (by omega)]
    have := digs_size (k.toNat / 10) (strOfNums [48 + (k.toNat : Int) % 10] ++ ByteArray.empty)
    rw [ByteArray.size_append, h2, h3] at this
    omega

set_option maxRecDepth 100000 in
set_option maxHeartbeats 800000 in
theorem markText_any (w : World) (k : Int) (hk : 0 ≤ k) (hk2 : k ≤ 9223372036854775806) : Calls Try.prog 74 #[.int .i64 k] w fun e w' => e = .returned (.string (mtx k)) ∧ Below w.heap.size w w' := by
  by_cases h0 : k ≤ 0
  · have HM := Lib.hid (show mtx k = ByteArray.mk #[109, 48] by unfold mtx; rw [if_pos h0])
    rw [HM.out]
    go_enter Try.func74, Try.ntmps74
    go_wp2
    go_ret
    exact ⟨rfl, Below.refl _ _⟩
  · obtain ⟨n, rfl⟩ : ∃ n : Nat, k = (n : Int) := ⟨k.toNat, by omega⟩
    have HM := Lib.hid (show mtx (n : Int) = ByteArray.mk #[109] ++ digs n ByteArray.empty by unfold mtx; rw [if_neg h0]; simp)
    rw [HM.out]
    go_enter Try.func74, Try.ntmps74
    go_wp2
    go_loopw [0, 3] (fun tk tx wr => ∃ (q : Nat) (out : ByteArray), tk = .int .i64 q ∧ tx = .string out ∧ q ≤ 9223372036854775807 ∧ Hid (out.size + q ≤ n) ∧ Hid (digs q out = digs n ByteArray.empty) ∧ Hid (Below w.heap.size w wr)) (fun tk _ _ => (intOf tk).toNat)
    case atStart => exact ⟨n, ByteArray.empty, rfl, rfl, by omega, Lib.hid (by rw [show ByteArray.empty.size = 0 from rfl]; omega), Lib.hid rfl, Lib.hid (Below.refl _ _)⟩
    case round =>
      obtain ⟨q, out, rfl, rfl, hq, HZ, HD, HW⟩ := hrel
      by_cases h1 : q = 0
      · have hd : digs q out = out := by rw [digs, if_pos h1]
        have HE := Lib.hid (hd.symm.trans HD.out)
        have hqI : ¬ (0 : Int) < (q : Int) := by omega
        have hz1 : ¬ 9223372036854775807 < (ByteArray.mk #[109]).size + out.size := by have := HZ.out; rw [show (ByteArray.mk #[109]).size = 1 from rfl]; omega
        clear hd
        go_wp2
        refine bodyPost_ret (v := .string (ByteArray.mk #[109] ++ out)) (by simp [results, Try.results74, go_sem]) rfl ?_
        exact ⟨by rw [HE.out], HW.out⟩
      · have hqI : (0 : Int) < (q : Int) := by omega
        have hd : digs q out = digs (q / 10) (strOfNums [48 + (q : Int) % 10] ++ out) := by rw [digs, if_neg h1]
        have HE := Lib.hid (hd.symm.trans HD.out)
        have hcv := run_convert_bytes_arg (P := Try.prog) (wr.alloc (.cells #[.int .u8 (48 + (q : Int) % 10)] 5)) 145 5 Try.underlying145 Try.underlying5 wr.heap.size 0 1 1 [48 + (q : Int) % 10] rfl (fun i hi => by
          have e : i = 0 := by omega
          subst e
          simp) 9 Try.underlying9
        have hz1 : ¬ 9223372036854775807 < (strOfNums [48 + (q : Int) % 10]).size + out.size := by have := HZ.out; rw [show (strOfNums [48 + (q : Int) % 10]).size = 1 from rfl]; omega
        clear hd
        go_wp2
        go_roundw
        case rel => exact ⟨q / 10, _, by go_num, rfl, by omega, Lib.hid (by have := HZ.out; rw [ByteArray.size_append, show (strOfNums [48 + (q : Int) % 10]).size = 1 from rfl]; omega), HE, Lib.hid (HW.out.alloc HW.out.size _)⟩
        case measure => simp [intOf]; omega
/-- The nodes that bear the marks from k on. -/
def mkNd (k : Int) (i : Nat) : Nd := ⟨k + (i : Int) * 3, k + (i : Int) * 3 + 1, mtx (k + (i : Int) * 3 + 2)⟩
def mkN (k : Int) (x : List Nd) : List Nd := (List.range x.length).map (mkNd k)
theorem mkN_len (k : Int) (x : List Nd) : (mkN k x).length = x.length := by simp [mkN]
theorem mkN_at (k : Int) (x : List Nd) {i : Nat} (h : i < x.length) : (mkN k x).getD i nd0 = mkNd k i := by simp [mkN, List.getD_eq_getElem?_getD, h]
theorem mkN_step (k : Int) (x : List Nd) {i : Nat} (h : i < x.length) : ((mkN k x).take i ++ x.drop i).set i (mkNd k i) = (mkN k x).take (i + 1) ++ x.drop (i + 1) := by
  refine List.ext_getElem? fun j => ?_
  have hl : (mkN k x).length = x.length := mkN_len k x
  have hi : (mkN k x)[i]? = some (mkNd k i) := by simp [mkN, h]
  rw [List.getElem?_set]
  by_cases h1 : i = j
  · subst h1
    rw [if_pos rfl, if_pos (by simp [hl]; omega), List.getElem?_append_left (by simp [hl]; omega), List.getElem?_take_of_lt (by omega), hi]
  · rw [if_neg h1]
    by_cases h2 : j < i
    · rw [List.getElem?_append_left (by simp [hl]; omega), List.getElem?_append_left (by simp [hl]; omega), List.getElem?_take_of_lt h2, List.getElem?_take_of_lt (by omega)]
    · rw [List.getElem?_append_right (by simp [hl]; omega), List.getElem?_append_right (by simp [hl]; omega), List.getElem?_drop, List.getElem?_drop]
      congr 1
      simp [hl]
      omega
def MarkedN (w : World) (S : Nat → Prop) (v : Value) (k : Int) (x : List Nd) (e : Ending) (w' : World) : Prop := e = .returned (.int .i64 (k + (cntN x : Nat))) ∧ Touch S w w' ∧ OwnN w' S v (mkN k x)
theorem ownN_marks {w : World} {S : Nat → Prop} {A : Option Addr} {c : Nat} {x : List Nd} (k : Int) (hc : x.length ≤ c) (hx : cntN x ≤ 1099511627776) (hl : k + (cntN x : Nat) ≤ 9223372036854775807)
    (h : x = [] ∨ ∃ b, A = some ⟨b, 0, none⟩ ∧ S b ∧ CellsAt w b tNd (ncells (mkN k x))) : OwnN w S (.slice A x.length c) (mkN k x) := by
  refine ⟨⟨A, c, by rw [mkN_len], by rw [mkN_len]; exact hc, ?_⟩, by unfold cntN at *; rw [mkN_len]; exact hx, fun j hj => ?_⟩
  · rcases h with h | h
    · left
      subst h
      rfl
    · exact Or.inr h
  · rw [mkN_len] at hj
    rw [mkN_at k x hj]
    exact mtx_size _ (by unfold cntN at hl; omega)

set_option maxRecDepth 100000 in
set_option maxHeartbeats 1600000 in
theorem markedN_any (w : World) (S : Nat → Prop) (v : Value) (x : List Nd) (k : Int) (hv : OwnN w S v x) (h0 : 0 ≤ k) (hl : k + (cntN x : Nat) ≤ 9223372036854775807) :
    Calls Try.prog 38 #[v, .int .i64 k] w (MarkedN w S v k x) := by
  obtain ⟨⟨A, c, rfl, hc, hx⟩, hcn, -⟩ := hv
  have HFIN : Hid (∀ w', (x = [] ∨ ∃ b, A = some ⟨b, 0, none⟩ ∧ S b ∧ CellsAt w' b tNd (ncells (mkN k x))) → OwnN w' S (.slice A x.length c) (mkN k x)) := Lib.hid (fun w' h => ownN_marks k hc hcn hl h)
  rcases hx with rfl | ⟨b, rfl, hS, hB⟩
  · go_enter Try.func38, Try.ntmps38
    go_wp2
    refine wp_loop_rounds 1 ?_
    rw [rounds_succ]
    go_wp2
    go_ret
    exact ⟨by simp [cntN], Touch.refl _ _, HFIN.out _ (by simp)⟩
  · have HC : Hid (CellsAt w b tNd (ncells x)) := Lib.hid hB
    have HS := Lib.hid hS
    have HL : Hid (cntN x = x.length * 3) := Lib.hid rfl
    have HCN := Lib.hid hcn
    have hl2 : k + (x.length : Int) * 3 ≤ 9223372036854775807 := by have := HL.out; omega
    have hlen : x.length ≤ 1099511627776 := by have := HL.out; omega
    clear hB hS hcn hl
    go_enter Try.func38, Try.ntmps38
    go_wp2
    go_loopw [1, 5] (fun tk ti wr => ∃ i : Nat, i ≤ x.length ∧ ti = .int .i64 i ∧ tk = .int .i64 (k + (i : Int) * 3) ∧ Hid (Touch S w wr) ∧ Hid (CellsAt wr b tNd (ncells ((mkN k x).take i ++ x.drop i)))) (fun _ ti _ => x.length - (intOf ti).toNat)
    case atStart => exact ⟨0, Nat.zero_le _, rfl, by go_num, Lib.hid (Touch.refl _ _), Lib.hid (by simpa using HC.out)⟩
    case round =>
      obtain ⟨i, hi, rfl, rfl, HT, HO⟩ := hrel
      by_cases hlt : i < x.length
      · have hll : ((mkN k x).take i ++ x.drop i).length = x.length := by rw [List.length_append, List.length_take, List.length_drop, mkN_len]; omega
        have HNS := Lib.hid (ncells_set (ns := (mkN k x).take i ++ x.drop i) (i := i) (x := mkNd k i) (by omega))
        rw [mkN_step k x hlt] at HNS
        have hlc : i * 3 + 3 ≤ (ncells ((mkN k x).take i ++ x.drop i)).length := by rw [ncells_len]; omega
        clear hll
        generalize (mkN k x).take i ++ x.drop i = ys at HO HNS hlc
        have hxI : (i : Int) < (x.length : Int) := by omega
        have hos := HO.out.lt
        obtain ⟨m, hm⟩ : ∃ m : Int, k + (i : Int) * 3 = m := ⟨_, rfl⟩
        have hw1 : IntKind.i64.wrap (m + 1) = m + 1 := Go.IntWalk.i64_in _ ⟨by omega, by omega⟩
        have hw2 : IntKind.i64.wrap (m + 1 + 1) = m + 1 + 1 := Go.IntWalk.i64_in _ ⟨by omega, by omega⟩
        have hw3 : IntKind.i64.wrap (m + 1 + 1 + 1) = m + 1 + 1 + 1 := Go.IntWalk.i64_in _ ⟨by omega, by omega⟩
        have hmk : 0 ≤ m ∧ m + 3 ≤ 9223372036854775807 := ⟨by omega, by omega⟩
        obtain ⟨hm0, hm3⟩ := hmk
        have HM := Lib.hid hm
        have HND : Hid (mkNd k i = ⟨m, m + 1, mtx (m + 1 + 1)⟩) := Lib.hid (by unfold mkNd; rw [hm, show m + 1 + 1 = m + 2 by omega])
        rw [HND.out] at HNS
        rw [hm]
        clear hm
        obtain ⟨u0, hu0⟩ : ∃ u, wr.cell? ⟨b, i * 3, none⟩ = some u := ⟨_, (HO.out.cell (i := i * 3) (by omega)).trans (List.getElem?_eq_getElem (by omega))⟩
        obtain ⟨u1, hu1⟩ : ∃ u, wr.cell? ⟨b, i * 3 + 1, none⟩ = some u := ⟨_, (HO.out.cell (i := i * 3 + 1) (by omega)).trans (List.getElem?_eq_getElem (by omega))⟩
        have hf := HO.out.frozen
        have HO1 := Lib.hid ((HO.out.set (i * 3) (.int .i64 m)).set (i * 3 + 1) (.int .i64 (m + 1)))
        have HT1 := Lib.hid ((HT.out.setCell (p := ⟨b, i * 3, none⟩) (Or.inl HS.out) (.int .i64 m)).setCell (p := ⟨b, i * 3 + 1, none⟩) (Or.inl HS.out) (.int .i64 (m + 1)))
        have hlc1 : ((((ncells ys).set (i * 3) (.int .i64 m)).set (i * 3 + 1) (.int .i64 (m + 1))).length = (ncells ys).length) := by simp
        have hm2a : 0 ≤ m + 1 + 1 := by omega
        have hm2b : m + 1 + 1 ≤ 9223372036854775806 := by omega
        go_wp2_with fail
        refine (markText_any _ (m + 1 + 1) hm2a hm2b).mono ?_
        rintro e w2 ⟨rfl, b2⟩
        have HO2 := Lib.hid (HO1.out.below b2 HO1.out.lt)
        have HT2 := Lib.hid (HT1.out.trans (Touch.of_below b2 (fun q h1 h2 => absurd h2 (by omega))))
        obtain ⟨u2, hu2⟩ : ∃ u, w2.cell? ⟨b, i * 3 + 2, none⟩ = some u := ⟨_, (HO2.out.cell (i := i * 3 + 2) (by omega)).trans (List.getElem?_eq_getElem (by omega))⟩
        have hf2 := HO2.out.frozen
        clear b2 hu0 hu1 hf
        go_wp2
        go_roundw
        case rel => exact ⟨i + 1, by omega, by go_num, by have := HM.out; go_num, Lib.hid (HT2.out.setCell (p := ⟨b, i * 3 + 2, none⟩) (Or.inl HS.out) _), Lib.hid (by rw [← HNS.out]; exact HO2.out.set (i * 3 + 2) _)⟩
        case measure => simp [intOf]; omega
      · have hin : i = x.length := by omega
        have hxI : ¬ (i : Int) < (x.length : Int) := by omega
        have HF := Lib.hid (show (mkN k x).take i ++ x.drop i = mkN k x by rw [hin, List.take_of_length_le (by rw [mkN_len]; omega), List.drop_length, List.append_nil])
        have HI := Lib.hid (show k + (i : Int) * 3 = k + (cntN x : Nat) by rw [hin, HL.out]; omega)
        rw [HF.out] at HO
        clear hin
        go_wp2
        go_ret
        exact ⟨congrArg (fun z : Int => Ending.returned (.int .i64 z)) HI.out, HT.out, HFIN.out _ (Or.inr ⟨b, rfl, HS.out, HO.out⟩)⟩
set_option maxRecDepth 100000 in
set_option maxHeartbeats 3200000 in
theorem heldN_any (w : World) (B : Nat) (v : Value) (x : List Nd) (k : Int) (hv : LfN w B v (mkN k x)) (h0 : 0 ≤ k) (hl : k + (cntN x : Nat) ≤ 9223372036854775807) :
    Calls Try.prog 39 #[v, .int .i64 k] w (Found w k (cntN x)) := by
  obtain ⟨A, c, rfl⟩ := hv.len
  have HV := Lib.hid hv.1.all
  have hlen0 := hv.2.1
  rw [mkN_len] at hlen0
  have HL : Hid (cntN x = x.length * 3) := Lib.hid rfl
  have hl2 : k + (x.length : Int) * 3 ≤ 9223372036854775807 := by have := HL.out; omega
  rw [mkN_len]
  rw [mkN_len] at HV
  clear hv hl
  go_enter Try.func39, Try.ntmps39
  go_wp2
  go_loopw [1, 5] (fun tk ti wr => ∃ i : Nat, i ≤ x.length ∧ ti = .int .i64 i ∧ tk = .int .i64 (k + (i : Int) * 3) ∧ Hid (Below w.heap.size w wr)) (fun _ ti _ => x.length - (intOf ti).toNat)
  case atStart => exact ⟨0, Nat.zero_le _, rfl, by go_num, Lib.hid (Below.refl _ _)⟩
  case round =>
    obtain ⟨i, hi, rfl, rfl, HB2⟩ := hrel
    by_cases hlt : i < x.length
    · obtain ⟨b, o, rfl, hb, hc0, hc1, hc2⟩ := (HV.out.below HB2.out (Nat.le_refl _)).at (k := i) (by rw [mkN_len]; exact hlt)
      rw [mkN_at k x hlt] at hc0 hc1 hc2
      have hxI : (i : Int) < (x.length : Int) := by omega
      have i0 : (0 : Int) ≤ (i : Int) := by omega
      have hs2 : w.heap.size ≤ wr.heap.size := HB2.out.size
      obtain ⟨m, hm⟩ : ∃ m : Int, k + (i : Int) * 3 = m := ⟨_, rfl⟩
      have hw1 : IntKind.i64.wrap (m + 1) = m + 1 := Go.IntWalk.i64_in _ ⟨by omega, by omega⟩
      have hw2 : IntKind.i64.wrap (m + 1 + 1) = m + 1 + 1 := Go.IntWalk.i64_in _ ⟨by omega, by omega⟩
      have hw3 : IntKind.i64.wrap (m + 1 + 1 + 1) = m + 1 + 1 + 1 := Go.IntWalk.i64_in _ ⟨by omega, by omega⟩
      have hm2a : 0 ≤ m + 1 + 1 := by omega
      have hm2b : m + 1 + 1 ≤ 9223372036854775806 := by omega
      have hnd : mkNd k i = ⟨m, m + 1, mtx (m + 1 + 1)⟩ := by unfold mkNd; rw [hm, show m + 1 + 1 = m + 2 by omega]
      rw [hnd] at hc0 hc1 hc2
      have HM := Lib.hid hm
      rw [hm]
      clear hm hnd
      have HTX := Lib.hid (fun w0 => markText_any w0 (m + 1 + 1) hm2a hm2b)
      obtain ⟨tx, HX⟩ : ∃ tx, Hid (mtx (m + 1 + 1) = tx) := ⟨_, Lib.hid rfl⟩
      rw [HX.out] at hc2 HTX
      have hbm0 : (m != m) = false := by simp
      have hbm1 : ((m + 1) != (m + 1)) = false := by simp
      have HELD : Hid (∀ w' : World, Below wr.heap.size wr w' → w'.cell? ⟨b, o + i * 3 + 2, none⟩ = some (.string tx)) :=
        Lib.hid (fun w' H => (H.cell (p := ⟨b, o + i * 3 + 2, none⟩) (by dsimp only; omega)).trans hc2)
      have HD0 := Lib.hid (HELD.out wr.drew (Below.refl _ _).drew)
      clear hc2
      go_wp2
      go_region_held3 (fun w' => w'.cell? ⟨b, o + i * 3 + 2, none⟩ = some (.string tx))
        (first | with_reducible exact HD0.out | with_reducible exact HD1.out | fail)
        (first
          | (go_at_call 74; go_split_ands; refine (HTX.out wr.drew).mono ?_; rintro e w2 ⟨rfl, b2⟩; have HB3 : Hid (Below wr.heap.size wr w2) := Lib.hid ((Below.refl _ _).drew.trans b2); have HD1 := Lib.hid (HELD.out w2 HB3.out); clear b2)
          | fail)
      have HB4 := Lib.hid (HB2.out.trans (HB3.out.mono hs2))
      go_wp2
      go_roundw
      case rel => exact ⟨i + 1, by omega, by go_num, by have := HM.out; go_num, HB4⟩
      case measure => simp [intOf]; omega
    · have hin : i = x.length := by omega
      have hxI : ¬ (i : Int) < (x.length : Int) := by omega
      have HI := Lib.hid (show k + (i : Int) * 3 = k + (cntN x : Nat) by rw [hin, HL.out]; omega)
      clear hin
      go_wp2
      go_ret
      exact ⟨congrArg (fun z : Int => Ending.returned (.int .i64 z)) HI.out, HB2.out⟩
end Go.Proofs.Ytiealgnmhjebeaa
