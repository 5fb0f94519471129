/- TmS TmX TmV TmA in one text. -/
import Derived.Test.YtdcgoeapgboclaaLeafN0
import Derived.Test.YtdcgoeapgboclaaFdWalks
import Derived.BigQuiet
import Derived.Test.YtdcgoeapgboclaaTr
import Derived.Test.YtdcgoeapgboclaaRow
import Derived.Test.YtdcgoeapgboclaaRowCat
import Derived.Deep.AppendLies
/-! The model's reading of a term: leaves, their wires. -/
namespace Go.Proofs.Ytdcgoeapgboclaa
set_option maxRecDepth 100000
open Go Go.RowKit Go.Deep

def kindW (k : Int) : Int × Int :=
  if k = 2 then (2, 2) else if k = 3 ∨ k = 11 then (1, 2) else if k = 5 ∨ k = 9 then (2, 1)
  else if k = 4 ∨ k = 12 then (1, 0) else if k = 6 ∨ k = 10 then (0, 1) else (1, 1)
def pairV (a b : Int) : Value := .tuple #[.int .i64 a, .int .i64 b]
set_option maxHeartbeats 1600000 in
theorem tmKind_any (w : World) (k : Int) : Calls Try.prog 80 #[.int .i64 k] w fun e w' => e = .returned (pairV (kindW k).1 (kindW k).2) ∧ w' = w := by
  by_cases h2 : k = 2
  · subst h2
    go_enter Try.func80, Try.ntmps80
    go_wp2
    refine bodyPost_ret (v := .tuple #[.int .i64 2, .int .i64 2]) (by simp [results, Try.results80, go_sem]) rfl ?_
    exact ⟨rfl, rfl⟩
  by_cases h3 : k = 3 ∨ k = 11
  · rcases h3 with rfl | rfl <;>
    (go_enter Try.func80, Try.ntmps80
     go_wp2
     refine bodyPost_ret (v := .tuple #[.int .i64 1, .int .i64 2]) (by simp [results, Try.results80, go_sem]) rfl ?_
     exact ⟨rfl, rfl⟩)
  by_cases h5 : k = 5 ∨ k = 9
  · rcases h5 with rfl | rfl <;>
    (go_enter Try.func80, Try.ntmps80
     go_wp2
     refine bodyPost_ret (v := .tuple #[.int .i64 2, .int .i64 1]) (by simp [results, Try.results80, go_sem]) rfl ?_
     exact ⟨rfl, rfl⟩)
  by_cases h4 : k = 4 ∨ k = 12
  · rcases h4 with rfl | rfl <;>
    (go_enter Try.func80, Try.ntmps80
     go_wp2
     refine bodyPost_ret (v := .tuple #[.int .i64 1, .int .i64 0]) (by simp [results, Try.results80, go_sem]) rfl ?_
     exact ⟨rfl, rfl⟩)
  by_cases h6 : k = 6 ∨ k = 10
  · rcases h6 with rfl | rfl <;>
    (go_enter Try.func80, Try.ntmps80
     go_wp2
     refine bodyPost_ret (v := .tuple #[.int .i64 0, .int .i64 1]) (by simp [results, Try.results80, go_sem]) rfl ?_
     exact ⟨rfl, rfl⟩)
  · have H : Hid (kindW k = (1, 1)) := Lib.hid (by unfold kindW; rw [if_neg h2, if_neg h3, if_neg h5, if_neg h4, if_neg h6])
    have n3 : k ≠ 3 := fun h => h3 (Or.inl h)
    have n11 : k ≠ 11 := fun h => h3 (Or.inr h)
    have n5 : k ≠ 5 := fun h => h5 (Or.inl h)
    have n9 : k ≠ 9 := fun h => h5 (Or.inr h)
    have n4 : k ≠ 4 := fun h => h4 (Or.inl h)
    have n12 : k ≠ 12 := fun h => h4 (Or.inr h)
    have n6 : k ≠ 6 := fun h => h6 (Or.inl h)
    have n10 : k ≠ 10 := fun h => h6 (Or.inr h)
    clear h3 h5 h4 h6
    go_enter Try.func80, Try.ntmps80
    go_wp2
    refine bodyPost_ret (v := .tuple #[.int .i64 1, .int .i64 1]) (by simp [results, Try.results80, go_sem]) rfl ?_
    rw [H.out]
    exact ⟨rfl, rfl⟩
theorem leafW_kind (n : Nd) : leafW n = if n.k = 1 then (n.v, n.v) else kindW n.k := rfl
theorem leafB_no_s {n : Nd} (h : n.s ≠ ByteArray.empty) : isLeafB n = false := by
  unfold isLeafB
  rw [decide_eq_false h, Bool.and_false]
theorem leafB_no_k {n : Nd} (h : n.k < 1 ∨ 14 < n.k) : isLeafB n = false := by
  cases e : isLeafB n with
  | false => rfl
  | true =>
    unfold isLeafB at e
    simp at e
    omega
theorem leafB_v {n : Nd} (hs : n.s = ByteArray.empty) (h1 : 1 ≤ n.k) (h2 : n.k ≤ 14) : isLeafB n = (decide (0 ≤ n.v) && decide (n.v ≤ greatest n.k)) := by
  unfold isLeafB
  rw [decide_eq_true hs, decide_eq_true h1, decide_eq_true h2]
  simp
def LeafSaid (w : World) (n : Nd) (e : Ending) (w' : World) : Prop := e = .returned (.bool (isLeafB n)) ∧ Below w.heap.size w w'
theorem str_none {s : ByteArray} (h : s = ByteArray.empty) : s.toList.isEmpty = true := by
  rw [h, ByteArray.toList_eq]
  rfl
theorem str_some {s : ByteArray} (h : s ≠ ByteArray.empty) : s.toList.isEmpty = false := by
  cases e : s.toList.isEmpty with
  | false => rfl
  | true =>
    exfalso
    apply h
    rw [ByteArray.toList_eq, List.isEmpty_iff] at e
    rcases s with ⟨d⟩
    have h2 : d = #[] := Array.toList_eq_nil_iff.1 e
    rw [h2]
    rfl
set_option maxHeartbeats 3200000 in
theorem tmLeaf_any (w : World) (n : Nd) : Calls Try.prog 79 #[ndV n] w (LeafSaid w n) := by
  unfold ndV LeafSaid
  by_cases hs : n.s = ByteArray.empty
  · have hn : n.s.toList.isEmpty = true := str_none hs
    by_cases h1 : 1 ≤ n.k ∧ n.k ≤ 14
    · obtain ⟨h1, h2⟩ := h1
      have H := Lib.hid (leafB_v hs h1 h2)
      clear hs
      by_cases k1 : n.k = 1
      · by_cases hv : 0 ≤ n.v ∧ n.v ≤ 12
        · obtain ⟨v1, v2⟩ := hv
          have H2 : Hid (isLeafB n = true) := Lib.hid (by rw [H.out, k1]; unfold greatest; simp; omega)
          go_enter Try.func79, Try.ntmps79
          go_wp2_with (go_at_call 41; refine (l1In_t _ _ _ _ (by omega) (by omega)).mono ?_; rintro e w' ⟨rfl, rfl⟩)
          go_ret
          rw [H2.out]
          exact ⟨rfl, by repeat' (first | exact Below.refl _ _ | apply Below.drew | apply Below.setCell | apply Below.alloc | (simp; done) | omega | (simp; omega))⟩
        · have hv2 : n.v < 0 ∨ 12 < n.v := by omega
          have H2 : Hid (isLeafB n = false) := Lib.hid (by rw [H.out, k1]; unfold greatest; simp; omega)
          clear hv
          go_enter Try.func79, Try.ntmps79
          go_wp2_with (go_at_call 41; first | (refine (l1In_t _ _ _ _ (by omega) (by omega)).mono ?_; rintro e w' ⟨rfl, rfl⟩) | (refine (l1In_f _ _ _ _ (by omega)).mono ?_; rintro e w' ⟨rfl, rfl⟩))
          go_ret
          rw [H2.out]
          exact ⟨rfl, by repeat' (first | exact Below.refl _ _ | apply Below.drew | apply Below.setCell | apply Below.alloc | (simp; done) | omega | (simp; omega))⟩
      by_cases k7 : n.k = 7
      · by_cases hv : 0 ≤ n.v ∧ n.v ≤ 96
        · obtain ⟨v1, v2⟩ := hv
          have H2 : Hid (isLeafB n = true) := Lib.hid (by rw [H.out, k7]; unfold greatest; simp; omega)
          go_enter Try.func79, Try.ntmps79
          go_wp2_with (go_at_call 41; refine (l1In_t _ _ _ _ (by omega) (by omega)).mono ?_; rintro e w' ⟨rfl, rfl⟩)
          go_ret
          rw [H2.out]
          exact ⟨rfl, by repeat' (first | exact Below.refl _ _ | apply Below.drew | apply Below.setCell | apply Below.alloc | (simp; done) | omega | (simp; omega))⟩
        · have hv2 : n.v < 0 ∨ 96 < n.v := by omega
          have H2 : Hid (isLeafB n = false) := Lib.hid (by rw [H.out, k7]; unfold greatest; simp; omega)
          clear hv
          go_enter Try.func79, Try.ntmps79
          go_wp2_with (go_at_call 41; first | (refine (l1In_t _ _ _ _ (by omega) (by omega)).mono ?_; rintro e w' ⟨rfl, rfl⟩) | (refine (l1In_f _ _ _ _ (by omega)).mono ?_; rintro e w' ⟨rfl, rfl⟩))
          go_ret
          rw [H2.out]
          exact ⟨rfl, by repeat' (first | exact Below.refl _ _ | apply Below.drew | apply Below.setCell | apply Below.alloc | (simp; done) | omega | (simp; omega))⟩
      by_cases k13 : n.k = 13
      · by_cases hv : 0 ≤ n.v ∧ n.v ≤ 96
        · obtain ⟨v1, v2⟩ := hv
          have H2 : Hid (isLeafB n = true) := Lib.hid (by rw [H.out, k13]; unfold greatest; simp; omega)
          go_enter Try.func79, Try.ntmps79
          go_wp2_with (go_at_call 41; refine (l1In_t _ _ _ _ (by omega) (by omega)).mono ?_; rintro e w' ⟨rfl, rfl⟩)
          go_ret
          rw [H2.out]
          exact ⟨rfl, by repeat' (first | exact Below.refl _ _ | apply Below.drew | apply Below.setCell | apply Below.alloc | (simp; done) | omega | (simp; omega))⟩
        · have hv2 : n.v < 0 ∨ 96 < n.v := by omega
          have H2 : Hid (isLeafB n = false) := Lib.hid (by rw [H.out, k13]; unfold greatest; simp; omega)
          clear hv
          go_enter Try.func79, Try.ntmps79
          go_wp2_with (go_at_call 41; first | (refine (l1In_t _ _ _ _ (by omega) (by omega)).mono ?_; rintro e w' ⟨rfl, rfl⟩) | (refine (l1In_f _ _ _ _ (by omega)).mono ?_; rintro e w' ⟨rfl, rfl⟩))
          go_ret
          rw [H2.out]
          exact ⟨rfl, by repeat' (first | exact Below.refl _ _ | apply Below.drew | apply Below.setCell | apply Below.alloc | (simp; done) | omega | (simp; omega))⟩
      have hg : greatest n.k = 0 := by unfold greatest; rw [if_neg k1, if_neg (by omega)]
      by_cases hv : n.v = 0
      · have H2 : Hid (isLeafB n = true) := Lib.hid (by rw [H.out, hg]; simp; omega)
        go_enter Try.func79, Try.ntmps79
        go_wp2_with (go_at_call 41; refine (l1In_t _ _ _ _ (by omega) (by omega)).mono ?_; rintro e w' ⟨rfl, rfl⟩)
        go_ret
        rw [H2.out]
        exact ⟨rfl, by repeat' (first | exact Below.refl _ _ | apply Below.drew | apply Below.setCell | apply Below.alloc | (simp; done) | omega | (simp; omega))⟩
      · have hv2 : (n.v == 0) = false := by simp [hv]
        have H2 : Hid (isLeafB n = false) := Lib.hid (by rw [H.out, hg]; simp; omega)
        go_enter Try.func79, Try.ntmps79
        go_wp2_with (go_at_call 41; refine (l1In_t _ _ _ _ (by omega) (by omega)).mono ?_; rintro e w' ⟨rfl, rfl⟩)
        go_ret
        rw [H2.out]
        exact ⟨rfl, by repeat' (first | exact Below.refl _ _ | apply Below.drew | apply Below.setCell | apply Below.alloc | (simp; done) | omega | (simp; omega))⟩
    · have H := Lib.hid (leafB_no_k (n := n) (by omega))
      have h2 : n.k < 1 ∨ 14 < n.k := by omega
      clear h1
      go_enter Try.func79, Try.ntmps79
      go_wp2_with (go_at_call 41; first | (refine (l1In_t _ _ _ _ (by omega) (by omega)).mono ?_; rintro e w' ⟨rfl, rfl⟩) | (refine (l1In_f _ _ _ _ (by omega)).mono ?_; rintro e w' ⟨rfl, rfl⟩))
      go_ret
      rw [H.out]
      exact ⟨rfl, by repeat' (first | exact Below.refl _ _ | apply Below.drew | apply Below.setCell | apply Below.alloc | (simp; done) | omega | (simp; omega))⟩
  · have hn : n.s.toList.isEmpty = false := str_some hs
    have H := Lib.hid (leafB_no_s hs)
    go_enter Try.func79, Try.ntmps79
    go_wp2
    go_ret
    rw [H.out]
    exact ⟨rfl, by repeat' (first | exact Below.refl _ _ | apply Below.drew | apply Below.setCell | apply Below.alloc | (simp; done) | omega | (simp; omega))⟩
end Go.Proofs.Ytdcgoeapgboclaa

/-! The model's three lists in a box; the lists' bounds. -/
namespace Go.Proofs.Ytdcgoeapgboclaa
open Go Go.RowKit Go.Deep

/-! ### Mathematics -/
/-- What is known of the lists behind the first k nodes. -/
def Sc.Good (X : Sc) (k : Nat) : Prop := X.len k ∧ ∀ q, q < k → 0 ≤ X.f.getD q 0 ∧ X.f.getD q 0 ≤ q ∧ 0 ≤ X.i.getD q 0 ∧ X.i.getD q 0 ≤ 12 ∧ 0 ≤ X.o.getD q 0 ∧ X.o.getD q 0 ≤ 12
theorem Sc.good_nil : Sc.nil.Good 0 := ⟨⟨rfl, rfl, rfl⟩, fun q hq => absurd hq (Nat.not_lt_zero q)⟩
theorem Sc.Good.push {X : Sc} {k : Nat} (h : X.Good k) {f i o : Int} (h0 : 0 ≤ f ∧ f ≤ k) (h1 : 0 ≤ i ∧ i ≤ 12) (h2 : 0 ≤ o ∧ o ≤ 12) : (X.push f i o).Good (k + 1) := by
  obtain ⟨hl, hg⟩ := h
  refine ⟨Sc.len_push hl _ _ _, fun q hq => ?_⟩
  obtain ⟨l1, l2, l3⟩ := hl
  by_cases e : q = k
  · subst e
    have e1 : (X.push f i o).f.getD q 0 = f := by show (X.f ++ [f]).getD q 0 = f; rw [← l1]; exact getD_snoc_r _ _
    have e2 : (X.push f i o).i.getD q 0 = i := by show (X.i ++ [i]).getD q 0 = i; rw [← l2]; exact getD_snoc_r _ _
    have e3 : (X.push f i o).o.getD q 0 = o := by show (X.o ++ [o]).getD q 0 = o; rw [← l3]; exact getD_snoc_r _ _
    rw [e1, e2, e3]
    exact ⟨h0.1, h0.2, h1.1, h1.2, h2.1, h2.2⟩
  · have e1 : (X.push f i o).f.getD q 0 = X.f.getD q 0 := getD_snoc_l (by omega)
    have e2 : (X.push f i o).i.getD q 0 = X.i.getD q 0 := getD_snoc_l (by omega)
    have e3 : (X.push f i o).o.getD q 0 = X.o.getD q 0 := getD_snoc_l (by omega)
    rw [e1, e2, e3]
    exact hg q (by omega)
theorem takeN_snoc {x : List Nd} {k : Nat} (h : k < x.length) : x.take (k + 1) = x.take k ++ [x.getD k nd0] := by
  rw [List.take_add_one, List.getD_eq_getElem?_getD, List.getElem?_eq_getElem h]
  rfl
/-- The next node. -/
theorem scan_next {x : List Nd} {k : Nat} {X : Sc} (h : k < x.length) (e : scanS .nil 0 (x.take k) = some X) : scanS .nil 0 (x.take (k + 1)) = stepS X k (x.getD k nd0) := by
  rw [takeN_snoc h, scanS_snoc, e]
  simp only [Option.bind_some, Nat.zero_add, List.length_take, Nat.min_eq_left (Nat.le_of_lt h)]
theorem scan_bad {x : List Nd} {k : Nat} {X : Sc} (h : k < x.length) (e : scanS .nil 0 (x.take k) = some X) (e2 : stepS X k (x.getD k nd0) = none) : okS x = false := by
  have e3 := scan_next h e
  rw [e2] at e3
  have e4 : scanS .nil 0 x = none := by
    conv => lhs; rw [← List.take_append_drop (k + 1) x, scanS_app, e3]
    rfl
  unfold okS
  rw [e4]
  simp
theorem scan_end {x : List Nd} {X : Sc} (h1 : 1 ≤ x.length) (h4 : x.length ≤ 400) (e : scanS .nil 0 x = some X) : okS x = decide (X.f.getD (x.length - 1) 0 = 0) := by
  unfold okS
  rw [e, decide_eq_true h1, decide_eq_true h4]
  rfl
/-! ### The box -/
theorem grown_of_below {w w' : World} (h : Below w.heap.size w w') : w.grownBy w' none := ⟨h.os, h.tape, h.output, h.size, fun k hk _ => h.block k hk⟩
theorem RowA.ne {w : World} {B k : Nat} {v : Value} {xs : List Int} (h : RowA w B v xs) (hk : w.heap.size ≤ k) : v.ownBlock ≠ some k := fun e => by have := (World.ownsRow.lt h k e).2; omega
theorem RowA.set {w : World} {b B : Nat} {v u : Value} {j : Nat} {xs : List Int} (h : RowA w B v xs) (hb : b < B) : RowA (w.setCell ⟨b, j, none⟩ u) B v xs := by
  refine World.ownsRow.kept (row := some b) h ⟨rfl, rfl, rfl, by simp, fun k _ hne => blk_setCell_other _ _ _ _ (fun e => hne (by rw [e]))⟩ ?_
  right
  intro e
  have := (World.ownsRow.lt h b e).1
  omega
/-- What a push leaves alone. -/
def Kp (b B : Nat) (w w' : World) : Prop := Touch (fun k => k = b ∨ B ≤ k) w w'
section
variable {w w' : World} {b B : Nat} {v0 v1 v2 : Value} {x0 x1 x2 : List Int} {a : Int} {g cap : Nat}
theorem kp_push {v : Value} {j : Nat} (hv : ∀ k, v.ownBlock = some k → B ≤ k) (hg : w.grownBy w' v.ownBlock) (u : Value) : Kp b B w (w'.setCell ⟨b, j, none⟩ u) := by
  exact Touch.setCell (S := fun k => k = b ∨ B ≤ k) (p := ⟨b, j, none⟩) ⟨hg.os, hg.tape, hg.output, hg.size, fun k hk hs => hg.block k hk (fun e => hs (Or.inr (hv k e.symm)))⟩ (Or.inl (Or.inl rfl)) u
end
theorem cells3 {w : World} {b : Nat} {ty : TypeId} {v0 v1 v2 : Value} (h : CellsAt w b ty [v0, v1, v2]) : w.cell? ⟨b, 0, none⟩ = some v0 ∧ w.cell? ⟨b, 1, none⟩ = some v1 ∧ w.cell? ⟨b, 2, none⟩ = some v2 ∧ w.frozen? ⟨b, 0, none⟩ = false ∧ w.frozen? ⟨b, 1, none⟩ = false ∧ w.frozen? ⟨b, 2, none⟩ = false ∧ b < w.heap.size :=
  ⟨h.cell (i := 0) (by simp), h.cell (i := 1) (by simp), h.cell (i := 2) (by simp), h.frozen 0, h.frozen 1, h.frozen 2, h.lt⟩
section
variable {ops : Array Oper} {rest : List Oper} {o : Oper} {a : Act} {Q : Exit → Act → World → Prop}
theorem wpList_pushI (hgd : o.guard = none) (s x : Operand) (ho : o.op = .call { callee := .builtin .append, args := #[s, x], argTypes := #[23, 23] }) (w : World) (B : Nat) (v : Value) (xs : List Int) (y : Int) (b c : Nat)
    (hs : a.eval s = v) (hown : RowA w B v xs) (hx : a.eval x = .slice (some ⟨b, 0, none⟩) 1 c) (hc : w.cell? ⟨b, 0, none⟩ = some (.int .i64 y)) (hB : B ≤ w.heap.size) (hn : xs.length + 1 ≤ 1000000)
    (h : ∀ g cap w', w'.ownsRow B tI 1 (.slice (some ⟨g, 0, none⟩) (xs.length + 1) cap) (xs.length + 1) (icells xs ++ [.int .i64 y]) → w.grownBy w' v.ownBlock → (v.ownBlock = some g ∨ g = w.heap.size) → wpList Try.prog ops Q rest (a.put o.dst (.slice (some ⟨g, 0, none⟩) (xs.length + 1) cap)) w') : wpList Try.prog ops Q (o :: rest) a w := by
  obtain ⟨i0, hi0, hz0, hz1, hz2⟩ := info_parts infoI
  refine wpList_append_lies w hgd s x _ ho B tI i0 _ 1 8 Try.underlying23 hi0 hz0 hz1 hz2 rfl (by omega) v xs.length (icells xs) hs hown ⟨b, 0, none⟩ 1 c [.int .i64 y] hx rfl (fun j u hj => ?_) (fun u hu => ?_) (by omega) (by unfold maxLen; omega) (by omega) hB _ rfl (fun g cap w' h1 h2 h3 _ => h g cap w' h1 h2 h3)
  · match j, hj with
    | 0, hj =>
      simp at hj
      subst hj
      simpa [Addr.add] using hc
  · simp at hu
    subst hu
    rfl
theorem step_pushI {K : Act → World → Prop} {E : Prop} (hgd : o.guard = none) (s x : Operand) (ho : o.op = .call { callee := .builtin .append, args := #[s, x], argTypes := #[23, 23] }) (w : World) (B : Nat) (v : Value) (xs : List Int) (y : Int) (b c : Nat)
    (hs : a.eval s = v) (hown : RowA w B v xs) (hx : a.eval x = .slice (some ⟨b, 0, none⟩) 1 c) (hc : w.cell? ⟨b, 0, none⟩ = some (.int .i64 y)) (hB : B ≤ w.heap.size) (hn : xs.length + 1 ≤ 1000000)
    (h : ∀ g cap w', w'.ownsRow B tI 1 (.slice (some ⟨g, 0, none⟩) (xs.length + 1) cap) (xs.length + 1) (icells xs ++ [.int .i64 y]) → w.grownBy w' v.ownBlock → (v.ownBlock = some g ∨ g = w.heap.size) → K (a.put o.dst (.slice (some ⟨g, 0, none⟩) (xs.length + 1) cap)) w') : if Region.wanted o (yielded ops a.tmps) = true then Oper.wp Try.prog o a w K Q else E := by
  obtain ⟨i0, hi0, hz0, hz1, hz2⟩ := info_parts infoI
  refine step_append_lies w hgd s x _ ho B tI i0 _ 1 8 Try.underlying23 hi0 hz0 hz1 hz2 rfl (by omega) v xs.length (icells xs) hs hown ⟨b, 0, none⟩ 1 c [.int .i64 y] hx rfl (fun j u hj => ?_) (fun u hu => ?_) (by omega) (by unfold maxLen; omega) (by omega) hB _ rfl (fun g cap w' h1 h2 h3 _ => h g cap w' h1 h2 h3)
  · match j, hj with
    | 0, hj =>
      simp at hj
      subst hj
      simpa [Addr.add] using hc
  · simp at hu
    subst hu
    rfl
end
end Go.Proofs.Ytdcgoeapgboclaa

/-! Lemmas of the model's scan of a term: a node's step, rows. -/
namespace Go.Proofs.Ytdcgoeapgboclaa
open Go Go.RowKit Go.Deep

def IsSl (v : Value) : Prop := ∃ A n c, v = .slice A n c
/-- What the scan of a term leaves: whether it is valid, and then the lists. -/
def ScanSaid (w : World) (x : List Nd) (e : Ending) (w' : World) : Prop :=
  ∃ v0 v1 v2, e = .returned (.tuple #[.agg #[v0, v1, v2], .bool (okS x)]) ∧ Below w.heap.size w w' ∧ (okS x = true → ∃ X, scanS .nil 0 x = some X ∧ X.Good x.length ∧ RowA w' w.heap.size v0 X.f ∧ RowA w' w.heap.size v1 X.i ∧ RowA w' w.heap.size v2 X.o) ∧ IsSl v0 ∧ IsSl v1 ∧ IsSl v2
theorem RowA.mono {w : World} {B B' : Nat} {v : Value} {xs : List Int} (h : RowA w B v xs) (hB : B' ≤ B) : RowA w B' v xs := by
  refine ⟨h.1, ?_⟩
  rcases h.2 with hn | ⟨g, cap, cur, e, hb, rest⟩
  · exact Or.inl hn
  · exact Or.inr ⟨g, cap, cur, e, Nat.le_trans hB hb, rest⟩
theorem RowA.form {w : World} {B : Nat} {v : Value} {xs : List Int} (h : RowA w B v xs) : ∃ A c, v = .slice A xs.length c := by
  rcases h.2 with ⟨rfl, h0⟩ | ⟨g, cap, cur, rfl, _⟩
  · exact ⟨none, 0, by rw [h0]⟩
  · exact ⟨_, cap, rfl⟩
theorem Kp.below {b B H : Nat} {w w' : World} (h : Kp b B w w') (hb : H ≤ b) (hB : H ≤ B) (hs : H ≤ w.heap.size) : Below H w w' :=
  Touch.below (S := fun k => k = b ∨ B ≤ k) h hs (fun k hk => by omega)
theorem Kp.at {b B q : Nat} {w w' : World} {t : TypeId} {vs : List Value} (h : Kp b B w w') (hc : CellsAt w q t vs) (hq : q ≠ b) (hq2 : q < B) : CellsAt w' q t vs :=
  hc.touch h (by omega)
theorem stepS_leaf {X : Sc} {k : Nat} {n : Nd} (h : isLeafB n = true) : stepS X k n = some (X.push k (leafW n).1 (leafW n).2) := by
  unfold stepS
  rw [if_pos h]
theorem cellI_new (w : World) (y : Int) (t : TypeId) (b : Nat) (hb : b = w.heap.size) : (w.alloc (.cells #[.int .i64 y] t)).cell? ⟨b, 0, none⟩ = some (.int .i64 y) := by
  subst hb
  have h := (cellsAt_new w #[.int .i64 y] t).cell (i := 0) (by simp)
  rw [h]
  rfl

theorem stepS_none_k {X : Sc} {k : Nat} {n : Nd} (h : isLeafB n = false) (hj : isJointB n = false) : stepS X k n = none := by
  unfold stepS
  rw [if_neg (by rw [h]; simp), if_neg (by rw [hj]; simp)]
theorem stepS_none_2 {X : Sc} {k : Nat} {n : Nd} (h : isLeafB n = false) (h2 : k < 2) : stepS X k n = none := by
  unfold stepS
  rw [if_neg (by rw [h]; simp), if_neg (by omega)]
theorem stepS_none_f {X : Sc} {k : Nat} {n : Nd} (h : isLeafB n = false) (h2 : X.f.getD (k - 1) 0 < 1) : stepS X k n = none := by
  unfold stepS
  rw [if_neg (by rw [h]; simp), if_neg (by omega)]
theorem joint_no_k {n : Nd} (h1 : n.k ≠ 15) (h2 : n.k ≠ 16) : isJointB n = false := by
  cases e : isJointB n with
  | false => rfl
  | true => rcases joint_kind e with h | h <;> omega
theorem joint_no_v {n : Nd} (h1 : n.v ≠ 0) : isJointB n = false := by
  unfold isJointB
  rw [decide_eq_false h1]
  simp
theorem joint_no_s {n : Nd} (h1 : n.s ≠ ByteArray.empty) : isJointB n = false := by
  unfold isJointB
  rw [decide_eq_false h1]
  simp
theorem joint_yes {n : Nd} (h : isJointB n = true) : (n.k = 15 ∨ n.k = 16) ∧ n.v = 0 ∧ n.s = ByteArray.empty := by
  unfold isJointB at h
  simp at h
  exact ⟨h.1.1, h.1.2, h.2⟩
theorem stepS_seq {X : Sc} {m a : Nat} {n : Nd} {f : Int} (h : isLeafB n = false) (hj : isJointB n = true) (hm : 1 ≤ m) (hf : X.f.getD m 0 = f) (ha : f = (a : Int) + 1) (hk : n.k = 15) :
    stepS X (m + 1) n = if X.o.getD a 0 = X.i.getD m 0 then some (X.push (X.f.getD a 0) (X.i.getD a 0) (X.o.getD m 0)) else none := by
  have e1 : (X.f.getD (m + 1 - 1) 0 - 1).toNat = a := by rw [Nat.add_sub_cancel, hf, ha]; omega
  unfold stepS
  rw [if_neg (by rw [h]; simp), if_pos ⟨hj, by omega, by rw [Nat.add_sub_cancel, hf, ha]; omega⟩, if_pos hk, e1, Nat.add_sub_cancel]
theorem stepS_par {X : Sc} {m a : Nat} {n : Nd} {f : Int} (h : isLeafB n = false) (hj : isJointB n = true) (hm : 1 ≤ m) (hf : X.f.getD m 0 = f) (ha : f = (a : Int) + 1) (hk : n.k = 16) :
    stepS X (m + 1) n = if X.i.getD a 0 + X.i.getD m 0 ≤ 12 ∧ X.o.getD a 0 + X.o.getD m 0 ≤ 12 then some (X.push (X.f.getD a 0) (X.i.getD a 0 + X.i.getD m 0) (X.o.getD a 0 + X.o.getD m 0)) else none := by
  have e1 : (X.f.getD (m + 1 - 1) 0 - 1).toNat = a := by rw [Nat.add_sub_cancel, hf, ha]; omega
  unfold stepS
  rw [if_neg (by rw [h]; simp), if_pos ⟨hj, by omega, by rw [Nat.add_sub_cancel, hf, ha]; omega⟩, if_neg (by omega), e1, Nat.add_sub_cancel]
theorem RowA.cells {w : World} {B : Nat} {v : Value} {xs : List Int} (h : RowA w B v xs) (hn : 0 < xs.length) : ∃ g cap, v = .slice (some ⟨g, 0, none⟩) xs.length cap ∧ (∀ q, q < xs.length → w.cell? ⟨g, q, none⟩ = some (.int .i64 (xs.getD q 0))) := by
  obtain ⟨g, cap, e, _, _⟩ := World.ownsRow.form h hn
  subst e
  refine ⟨g, cap, rfl, fun q hq => ?_⟩
  have hc := World.ownsRow.cells h (g := g) rfl q _ (icells_get hq)
  have e : (⟨g, 0, none⟩ : Addr).add q = ⟨g, q, none⟩ := by unfold Addr.add; split <;> simp_all
  rw [e] at hc
  exact hc
theorem RowA.cell {w : World} {B g n c : Nat} {xs : List Int} (h : RowA w B (.slice (some ⟨g, 0, none⟩) n c) xs) {q : Nat} (hq : q < xs.length) : w.cell? ⟨g, q, none⟩ = some (.int .i64 (xs.getD q 0)) := by
  have hc := World.ownsRow.cells h (g := g) rfl q _ (icells_get hq)
  have e : (⟨g, 0, none⟩ : Addr).add q = ⟨g, q, none⟩ := by unfold Addr.add; split <;> simp_all
  rw [e] at hc
  exact hc
theorem grown_drewN (w : World) (n : Nat) : w.grownBy (w.drewN n) none := ⟨rfl, rfl, rfl, Nat.le_refl _, fun _ _ _ => rfl⟩
theorem grown_drew (w : World) : w.grownBy w.drew none := ⟨rfl, rfl, rfl, Nat.le_refl _, fun _ _ _ => rfl⟩
end Go.Proofs.Ytdcgoeapgboclaa

/-! The model's scan of a term: its loop's body and what holds at each round. -/
namespace Go.Proofs.Ytdcgoeapgboclaa
open Go Go.RowKit Go.Deep

def firstLoop : Code → Option Code
  | .loop c => some c
  | .seq a b => match firstLoop a with
    | some c => some c
    | none => firstLoop b
  | .block _ c => firstLoop c
  | .scope c => firstLoop c
  | .cond _ a b => match firstLoop a with
    | some c => some c
    | none => firstLoop b
  | _ => none
def Wmu (x : List Nd) (a : Act) : Nat := x.length - (intOf (a.tmps.getD 25 undef)).toNat
end Go.Proofs.Ytdcgoeapgboclaa
