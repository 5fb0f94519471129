/- The model's reading of a term: leaves, their wires. -/
import Derived.Test.YtdgimjmdgppboaaLeafN
import Derived.Test.YtdgimjmdgppboaaFdWalks
import Derived.BigQuiet
namespace Go.Proofs.Ytdgimjmdgppboaa
set_option maxRecDepth 100000
open Go Go.RowKit Go.Deep

def kindW (k : Int) : Int × Int :=
  if k = 2 then (2, 2) else if k = 3 ∨ k = 11 then (1, 2) else if k = 5 ∨ k = 9 then (2, 1)
  else if k = 4 ∨ k = 12 then (1, 0) else if k = 6 ∨ k = 10 then (0, 1) else (1, 1)
def pairV (a b : Int) : Value := .tuple #[.int .i64 a, .int .i64 b]
set_option maxHeartbeats 1600000 in
theorem tmKind_any (w : World) (k : Int) : Calls Try.prog 49 #[.int .i64 k] w fun e w' => e = .returned (pairV (kindW k).1 (kindW k).2) ∧ w' = w := by
  by_cases h2 : k = 2
  · subst h2
    go_enter Try.func49, Try.ntmps49
    go_wp2
    refine bodyPost_ret (v := .tuple #[.int .i64 2, .int .i64 2]) (by simp [results, Try.results49, go_sem]) rfl ?_
    exact ⟨rfl, rfl⟩
  by_cases h3 : k = 3 ∨ k = 11
  · rcases h3 with rfl | rfl <;>
    (go_enter Try.func49, Try.ntmps49
     go_wp2
     refine bodyPost_ret (v := .tuple #[.int .i64 1, .int .i64 2]) (by simp [results, Try.results49, go_sem]) rfl ?_
     exact ⟨rfl, rfl⟩)
  by_cases h5 : k = 5 ∨ k = 9
  · rcases h5 with rfl | rfl <;>
    (go_enter Try.func49, Try.ntmps49
     go_wp2
     refine bodyPost_ret (v := .tuple #[.int .i64 2, .int .i64 1]) (by simp [results, Try.results49, go_sem]) rfl ?_
     exact ⟨rfl, rfl⟩)
  by_cases h4 : k = 4 ∨ k = 12
  · rcases h4 with rfl | rfl <;>
    (go_enter Try.func49, Try.ntmps49
     go_wp2
     refine bodyPost_ret (v := .tuple #[.int .i64 1, .int .i64 0]) (by simp [results, Try.results49, go_sem]) rfl ?_
     exact ⟨rfl, rfl⟩)
  by_cases h6 : k = 6 ∨ k = 10
  · rcases h6 with rfl | rfl <;>
    (go_enter Try.func49, Try.ntmps49
     go_wp2
     refine bodyPost_ret (v := .tuple #[.int .i64 0, .int .i64 1]) (by simp [results, Try.results49, go_sem]) rfl ?_
     exact ⟨rfl, rfl⟩)
  · have H : Hid (kindW k = (1, 1)) := Lib.hid (by unfold kindW; rw [if_neg h2, if_neg h3, if_neg h5, if_neg h4, if_neg h6])
    have n3 : k ≠ 3 := fun h => h3 (Or.inl h)
    have n11 : k ≠ 11 := fun h => h3 (Or.inr h)
    have n5 : k ≠ 5 := fun h => h5 (Or.inl h)
    have n9 : k ≠ 9 := fun h => h5 (Or.inr h)
    have n4 : k ≠ 4 := fun h => h4 (Or.inl h)
    have n12 : k ≠ 12 := fun h => h4 (Or.inr h)
    have n6 : k ≠ 6 := fun h => h6 (Or.inl h)
    have n10 : k ≠ 10 := fun h => h6 (Or.inr h)
    clear h3 h5 h4 h6
    go_enter Try.func49, Try.ntmps49
    go_wp2
    refine bodyPost_ret (v := .tuple #[.int .i64 1, .int .i64 1]) (by simp [results, Try.results49, go_sem]) rfl ?_
    rw [H.out]
    exact ⟨rfl, rfl⟩
theorem leafW_kind (n : Nd) : leafW n = if n.k = 1 then (n.v, n.v) else kindW n.k := rfl
set_option maxHeartbeats 800000 in
theorem tmArity_any (w : World) (n : Nd) : Calls Try.prog 42 #[ndV n] w fun e w' => e = .returned (pairV (leafW n).1 (leafW n).2) ∧ Below w.heap.size w w' := by
  unfold ndV
  rw [leafW_kind]
  by_cases h1 : n.k = 1
  · have H := Lib.hid (show (if n.k = 1 then (n.v, n.v) else kindW n.k) = (n.v, n.v) from if_pos h1)
    go_enter Try.func42, Try.ntmps42
    go_wp2
    go_quiet (fail)
    go_wp2
    refine bodyPost_ret (v := .tuple #[.int .i64 n.v, .int .i64 n.v]) (by simp [results, Try.results42, go_sem]) rfl ?_
    exact ⟨rfl, by repeat' (first | exact Below.refl _ _ | apply Below.drew | apply below_drewN | apply Below.setCell | apply Below.alloc | (simp; done) | omega | (simp; omega))⟩
  · have H := Lib.hid (show (if n.k = 1 then (n.v, n.v) else kindW n.k) = kindW n.k from if_neg h1)
    go_enter Try.func42, Try.ntmps42
    go_wp2_with (go_at_call 49; refine (tmKind_any _ _).mono ?_; rintro e w' ⟨rfl, rfl⟩; unfold pairV)
    refine bodyPost_ret (v := .tuple #[.int .i64 (kindW n.k).1, .int .i64 (kindW n.k).2]) (by simp [results, Try.results42, go_sem]) rfl ?_
    exact ⟨rfl, by repeat' (first | exact Below.refl _ _ | apply Below.drew | apply below_drewN | apply Below.setCell | apply Below.alloc | (simp; done) | omega | (simp; omega))⟩

theorem leafB_no_s {n : Nd} (h : n.s ≠ ByteArray.empty) : isLeafB n = false := by
  unfold isLeafB
  rw [decide_eq_false h, Bool.and_false]
theorem leafB_no_k {n : Nd} (h : n.k < 1 ∨ 14 < n.k) : isLeafB n = false := by
  cases e : isLeafB n with
  | false => rfl
  | true =>
    unfold isLeafB at e
    simp at e
    omega
theorem leafB_v {n : Nd} (hs : n.s = ByteArray.empty) (h1 : 1 ≤ n.k) (h2 : n.k ≤ 14) : isLeafB n = (decide (0 ≤ n.v) && decide (n.v ≤ greatest n.k)) := by
  unfold isLeafB
  rw [decide_eq_true hs, decide_eq_true h1, decide_eq_true h2]
  simp
def LeafSaid (w : World) (n : Nd) (e : Ending) (w' : World) : Prop := e = .returned (.bool (isLeafB n)) ∧ Below w.heap.size w w'
theorem str_none {s : ByteArray} (h : s = ByteArray.empty) : s.toList.isEmpty = true := by
  rw [h, ByteArray.toList_eq]
  rfl
theorem str_some {s : ByteArray} (h : s ≠ ByteArray.empty) : s.toList.isEmpty = false := by
  cases e : s.toList.isEmpty with
  | false => rfl
  | true =>
    exfalso
    apply h
    rw [ByteArray.toList_eq, List.isEmpty_iff] at e
    rcases s with ⟨d⟩
    have h2 : d = #[] := Array.toList_eq_nil_iff.1 e
    rw [h2]
    rfl
set_option maxHeartbeats 3200000 in
theorem tmLeaf_any (w : World) (n : Nd) : Calls Try.prog 50 #[ndV n] w (LeafSaid w n) := by
  unfold ndV LeafSaid
  by_cases hs : n.s = ByteArray.empty
  · have hn : n.s.toList.isEmpty = true := str_none hs
    by_cases h1 : 1 ≤ n.k ∧ n.k ≤ 14
    · obtain ⟨h1, h2⟩ := h1
      have H := Lib.hid (leafB_v hs h1 h2)
      clear hs
      by_cases k1 : n.k = 1
      · by_cases hv : 0 ≤ n.v ∧ n.v ≤ 12
        · obtain ⟨v1, v2⟩ := hv
          have H2 : Hid (isLeafB n = true) := Lib.hid (by rw [H.out, k1]; unfold greatest; simp; omega)
          go_enter Try.func50, Try.ntmps50
          go_wp2_with (go_at_call 32; refine (l1In_t _ _ _ _ (by omega) (by omega)).mono ?_; rintro e w' ⟨rfl, rfl⟩)
          go_ret
          rw [H2.out]
          exact ⟨rfl, by repeat' (first | exact Below.refl _ _ | apply Below.drew | apply Below.setCell | apply Below.alloc | (simp; done) | omega | (simp; omega))⟩
        · have hv2 : n.v < 0 ∨ 12 < n.v := by omega
          have H2 : Hid (isLeafB n = false) := Lib.hid (by rw [H.out, k1]; unfold greatest; simp; omega)
          clear hv
          go_enter Try.func50, Try.ntmps50
          go_wp2_with (go_at_call 32; first | (refine (l1In_t _ _ _ _ (by omega) (by omega)).mono ?_; rintro e w' ⟨rfl, rfl⟩) | (refine (l1In_f _ _ _ _ (by omega)).mono ?_; rintro e w' ⟨rfl, rfl⟩))
          go_ret
          rw [H2.out]
          exact ⟨rfl, by repeat' (first | exact Below.refl _ _ | apply Below.drew | apply Below.setCell | apply Below.alloc | (simp; done) | omega | (simp; omega))⟩
      by_cases k7 : n.k = 7
      · by_cases hv : 0 ≤ n.v ∧ n.v ≤ 96
        · obtain ⟨v1, v2⟩ := hv
          have H2 : Hid (isLeafB n = true) := Lib.hid (by rw [H.out, k7]; unfold greatest; simp; omega)
          go_enter Try.func50, Try.ntmps50
          go_wp2_with (go_at_call 32; refine (l1In_t _ _ _ _ (by omega) (by omega)).mono ?_; rintro e w' ⟨rfl, rfl⟩)
          go_ret
          rw [H2.out]
          exact ⟨rfl, by repeat' (first | exact Below.refl _ _ | apply Below.drew | apply Below.setCell | apply Below.alloc | (simp; done) | omega | (simp; omega))⟩
        · have hv2 : n.v < 0 ∨ 96 < n.v := by omega
          have H2 : Hid (isLeafB n = false) := Lib.hid (by rw [H.out, k7]; unfold greatest; simp; omega)
          clear hv
          go_enter Try.func50, Try.ntmps50
          go_wp2_with (go_at_call 32; first | (refine (l1In_t _ _ _ _ (by omega) (by omega)).mono ?_; rintro e w' ⟨rfl, rfl⟩) | (refine (l1In_f _ _ _ _ (by omega)).mono ?_; rintro e w' ⟨rfl, rfl⟩))
          go_ret
          rw [H2.out]
          exact ⟨rfl, by repeat' (first | exact Below.refl _ _ | apply Below.drew | apply Below.setCell | apply Below.alloc | (simp; done) | omega | (simp; omega))⟩
      by_cases k13 : n.k = 13
      · by_cases hv : 0 ≤ n.v ∧ n.v ≤ 96
        · obtain ⟨v1, v2⟩ := hv
          have H2 : Hid (isLeafB n = true) := Lib.hid (by rw [H.out, k13]; unfold greatest; simp; omega)
          go_enter Try.func50, Try.ntmps50
          go_wp2_with (go_at_call 32; refine (l1In_t _ _ _ _ (by omega) (by omega)).mono ?_; rintro e w' ⟨rfl, rfl⟩)
          go_ret
          rw [H2.out]
          exact ⟨rfl, by repeat' (first | exact Below.refl _ _ | apply Below.drew | apply Below.setCell | apply Below.alloc | (simp; done) | omega | (simp; omega))⟩
        · have hv2 : n.v < 0 ∨ 96 < n.v := by omega
          have H2 : Hid (isLeafB n = false) := Lib.hid (by rw [H.out, k13]; unfold greatest; simp; omega)
          clear hv
          go_enter Try.func50, Try.ntmps50
          go_wp2_with (go_at_call 32; first | (refine (l1In_t _ _ _ _ (by omega) (by omega)).mono ?_; rintro e w' ⟨rfl, rfl⟩) | (refine (l1In_f _ _ _ _ (by omega)).mono ?_; rintro e w' ⟨rfl, rfl⟩))
          go_ret
          rw [H2.out]
          exact ⟨rfl, by repeat' (first | exact Below.refl _ _ | apply Below.drew | apply Below.setCell | apply Below.alloc | (simp; done) | omega | (simp; omega))⟩
      have hg : greatest n.k = 0 := by unfold greatest; rw [if_neg k1, if_neg (by omega)]
      by_cases hv : n.v = 0
      · have H2 : Hid (isLeafB n = true) := Lib.hid (by rw [H.out, hg]; simp; omega)
        go_enter Try.func50, Try.ntmps50
        go_wp2_with (go_at_call 32; refine (l1In_t _ _ _ _ (by omega) (by omega)).mono ?_; rintro e w' ⟨rfl, rfl⟩)
        go_ret
        rw [H2.out]
        exact ⟨rfl, by repeat' (first | exact Below.refl _ _ | apply Below.drew | apply Below.setCell | apply Below.alloc | (simp; done) | omega | (simp; omega))⟩
      · have hv2 : (n.v == 0) = false := by simp [hv]
        have H2 : Hid (isLeafB n = false) := Lib.hid (by rw [H.out, hg]; simp; omega)
        go_enter Try.func50, Try.ntmps50
        go_wp2_with (go_at_call 32; refine (l1In_t _ _ _ _ (by omega) (by omega)).mono ?_; rintro e w' ⟨rfl, rfl⟩)
        go_ret
        rw [H2.out]
        exact ⟨rfl, by repeat' (first | exact Below.refl _ _ | apply Below.drew | apply Below.setCell | apply Below.alloc | (simp; done) | omega | (simp; omega))⟩
    · have H := Lib.hid (leafB_no_k (n := n) (by omega))
      have h2 : n.k < 1 ∨ 14 < n.k := by omega
      clear h1
      go_enter Try.func50, Try.ntmps50
      go_wp2_with (go_at_call 32; first | (refine (l1In_t _ _ _ _ (by omega) (by omega)).mono ?_; rintro e w' ⟨rfl, rfl⟩) | (refine (l1In_f _ _ _ _ (by omega)).mono ?_; rintro e w' ⟨rfl, rfl⟩))
      go_ret
      rw [H.out]
      exact ⟨rfl, by repeat' (first | exact Below.refl _ _ | apply Below.drew | apply Below.setCell | apply Below.alloc | (simp; done) | omega | (simp; omega))⟩
  · have hn : n.s.toList.isEmpty = false := str_some hs
    have H := Lib.hid (leafB_no_s hs)
    go_enter Try.func50, Try.ntmps50
    go_wp2
    go_ret
    rw [H.out]
    exact ⟨rfl, by repeat' (first | exact Below.refl _ _ | apply Below.drew | apply Below.setCell | apply Below.alloc | (simp; done) | omega | (simp; omega))⟩
end Go.Proofs.Ytdgimjmdgppboaa
