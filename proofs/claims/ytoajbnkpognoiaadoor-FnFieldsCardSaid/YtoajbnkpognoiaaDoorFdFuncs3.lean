/- What FieldPower returns: of the program and of the model the same. -/
import Derived.Test.YtoajbnkpognoiaaDoorFdFuncs
namespace Go.Proofs.YtoajbnkpognoiaaDoor
open Go Go.RowKit

def resPow (p a n : Int) : Int × Bool := if elems p [a] = true ∧ -10000 ≤ n ∧ n ≤ 10000 ∧ (0 ≤ n ∨ a ≠ 0) then (if 0 ≤ n then pw p a n.toNat else pw p (inv p a) (-n).toNat, true) else (0, false)
theorem resPow_bad {p a n : Int} (h : ¬ (elems p [a] = true ∧ -10000 ≤ n ∧ n ≤ 10000 ∧ (0 ≤ n ∨ a ≠ 0))) : resPow p a n = (0, false) := by
  unfold resPow
  rw [if_neg h]
theorem resPow_pos {p a : Int} {n : Nat} (h : elems p [a] = true) (hn : n ≤ 10000) : resPow p a n = (pw p a n, true) := by
  unfold resPow
  rw [if_pos ⟨h, by omega, by omega, Or.inl (by omega)⟩, if_pos (by omega), Int.toNat_natCast]
theorem resPow_neg {p a : Int} {n : Nat} (h : elems p [a] = true) (h0 : 0 < n) (hn : n ≤ 10000) (ha : a ≠ 0) : resPow p a (-(n : Int)) = (pw p (inv p a) n, true) := by
  unfold resPow
  rw [if_pos ⟨h, by omega, by omega, Or.inr ha⟩, if_neg (by omega), Int.neg_neg, Int.toNat_natCast]

set_option maxHeartbeats 400000 in
theorem impl_FieldPower (p a n : Int) (w : World) (ht : Tab w) : Calls Tryd.prog 12 #[.int .i64 p, .int .i64 a, .int .i64 n] w fun e w' => e = .returned (.tuple #[.int .i64 (resPow p a n).1, .bool (resPow p a n).2]) ∧ Below w.heap.size w w' := by
  have HT := Lib.hid ht
  clear ht
  cases h : elems p [a] with
  | true =>
    obtain ⟨hp, ⟨h1, h2⟩, hz⟩ := elems_cases h
    obtain ⟨a1, a2⟩ := hz a (by simp)
    have HP := Lib.hid hp
    have HH := Lib.hid h
    by_cases hr : -10000 ≤ n ∧ n ≤ 10000
    · obtain ⟨r1, r2⟩ := hr
      by_cases hn : 0 ≤ n
      · obtain ⟨m, rfl⟩ := Int.eq_ofNat_of_zero_le hn
        have HE := Lib.hid (resPow_pos h (show m ≤ 10000 by omega))
        clear h hp hz
        go_enter Tryd.func12, Tryd.ntmps12
        go_wp2_with fail
        refine (areElements_any p [a] _ _ _ _ (HT.out.below ((Below.refl _ _).alloc (Nat.le_refl _) _)) rfl (by simp) (Row.alloc w [a] _)).mono ?_
        rintro e w' ⟨rfl, rfl⟩
        rw [HH.out]
        go_wp2_with fail
        refine (powerIn_any p a m _ h1 h2 a1 a2 (by omega)).mono ?_
        rintro e w' ⟨rfl, rfl⟩
        go_wp2
        go_ret2
        rw [HE.out]
        exact ⟨rfl, (Below.refl _ _).alloc (Nat.le_refl _) _⟩
      · obtain ⟨m, rfl⟩ : ∃ m : Nat, n = -(m : Int) := ⟨(-n).toNat, by omega⟩
        by_cases h0 : a = 0
        · have HE := Lib.hid (resPow_bad (p := p) (a := a) (n := -(m : Int)) (by omega))
          have hb : (a == 0) = true := by simp [h0]
          clear h hp hz h0
          go_enter Tryd.func12, Tryd.ntmps12
          go_wp2_with fail
          refine (areElements_any p [a] _ _ _ _ (HT.out.below ((Below.refl _ _).alloc (Nat.le_refl _) _)) rfl (by simp) (Row.alloc w [a] _)).mono ?_
          rintro e w' ⟨rfl, rfl⟩
          rw [HH.out]
          go_wp2
          go_ret2
          rw [HE.out]
          exact ⟨rfl, (Below.refl _ _).alloc (Nat.le_refl _) _⟩
        · have HE := Lib.hid (resPow_neg h (show 0 < m by omega) (show m ≤ 10000 by omega) h0)
          have hb : (a == 0) = false := by simp [h0]
          have a3 : 0 < a := by omega
          have i1 := (inv_bd h1 a).1
          have i2 := (inv_bd h1 a).2
          clear h hp hz h0
          go_enter Tryd.func12, Tryd.ntmps12
          go_wp2_with fail
          refine (areElements_any p [a] _ _ _ _ (HT.out.below ((Below.refl _ _).alloc (Nat.le_refl _) _)) rfl (by simp) (Row.alloc w [a] _)).mono ?_
          rintro e w' ⟨rfl, rfl⟩
          rw [HH.out]
          go_wp2_with fail
          refine (inverseIn_any p a _ h1 h2 a1 a2).mono ?_
          rintro e w' ⟨rfl, rfl⟩
          go_wp2_with fail
          refine (powerIn_any p _ m _ h1 h2 i1 i2 (by omega)).mono ?_
          rintro e w' ⟨rfl, rfl⟩
          go_wp2
          go_ret2
          rw [HE.out]
          exact ⟨rfl, (Below.refl _ _).alloc (Nat.le_refl _) _⟩
    · have HE := Lib.hid (resPow_bad (p := p) (a := a) (n := n) (by omega))
      have HR := Lib.hid (show n < -10000 ∨ 10000 < n by omega)
      clear h hp hz hr
      rcases HR.out with hr | hr
      · go_enter Tryd.func12, Tryd.ntmps12
        go_wp2_with fail
        refine (areElements_any p [a] _ _ _ _ (HT.out.below ((Below.refl _ _).alloc (Nat.le_refl _) _)) rfl (by simp) (Row.alloc w [a] _)).mono ?_
        rintro e w' ⟨rfl, rfl⟩
        rw [HH.out]
        go_wp2
        go_ret2
        rw [HE.out]
        exact ⟨rfl, (Below.refl _ _).alloc (Nat.le_refl _) _⟩
      · have hr' : -10000 ≤ n := by omega
        go_enter Tryd.func12, Tryd.ntmps12
        go_wp2_with fail
        refine (areElements_any p [a] _ _ _ _ (HT.out.below ((Below.refl _ _).alloc (Nat.le_refl _) _)) rfl (by simp) (Row.alloc w [a] _)).mono ?_
        rintro e w' ⟨rfl, rfl⟩
        rw [HH.out]
        go_wp2
        go_ret2
        rw [HE.out]
        exact ⟨rfl, (Below.refl _ _).alloc (Nat.le_refl _) _⟩
  | false =>
    have HE := Lib.hid (resPow_bad (p := p) (a := a) (n := n) (by simp [h]))
    have HH := Lib.hid h
    clear h
    go_enter Tryd.func12, Tryd.ntmps12
    go_wp2_with fail
    refine (areElements_any p [a] _ _ _ _ (HT.out.below ((Below.refl _ _).alloc (Nat.le_refl _) _)) rfl (by simp) (Row.alloc w [a] _)).mono ?_
    rintro e w' ⟨rfl, rfl⟩
    rw [HH.out]
    go_wp2
    go_ret2
    rw [HE.out]
    exact ⟨rfl, (Below.refl _ _).alloc (Nat.le_refl _) _⟩
end Go.Proofs.YtoajbnkpognoiaaDoor
