/- What the exported functions on prime fields return: of the program and of the model the same. -/
import Derived.Test.YtoajbnkpognoiaaDoorFdWalks2
namespace Go.Proofs.YtoajbnkpognoiaaDoor
open Go Go.RowKit

theorem Row.alloc (w : World) (zs : List Int) (t : TypeId) : Row (w.alloc (.cells (zs.map (Value.int .i64)).toArray t)) w.heap.size zs := by
  intro k hk
  simp [go_sem, hk]
theorem elems_cases {p : Int} {zs : List Int} (h : elems p zs = true) : fld p = true ∧ (2 ≤ p ∧ p ≤ 97) ∧ ∀ z, z ∈ zs → 0 ≤ z ∧ z < p := by
  have := (elems_iff p zs).1 h
  exact ⟨this.1, fld_bd this.1, fun z hz => (el_iff p z).1 (this.2 z hz)⟩
theorem two_bad {p a b : Int} (h : elems p [a, b] = false) : fld p = false ∨ ¬ (0 ≤ a ∧ a < p) ∨ ¬ (0 ≤ b ∧ b < p) := by
  cases hp : fld p with
  | false => exact Or.inl rfl
  | true =>
    refine Or.inr ?_
    by_cases ha : 0 ≤ a ∧ a < p
    · refine Or.inr fun hb => ?_
      have : elems p [a, b] = true := (elems_iff p _).2 ⟨hp, fun z hz => by
        simp at hz
        rcases hz with rfl | rfl
        · exact (el_iff p z).2 ha
        · exact (el_iff p z).2 hb⟩
      rw [this] at h
      cases h
    · exact Or.inl ha
theorem one_bad {p a : Int} (h : elems p [a] = false) : fld p = false ∨ ¬ (0 ≤ a ∧ a < p) ∨ ¬ (0 ≤ (0 : Int) ∧ 0 < p) := by
  cases hp : fld p with
  | false => exact Or.inl rfl
  | true =>
    refine Or.inr (Or.inl fun ha => ?_)
    have : elems p [a] = true := (elems_iff p _).2 ⟨hp, fun z hz => by
      simp at hz
      rw [hz]
      exact (el_iff p a).2 ha⟩
    rw [this] at h
    cases h

def resAdd (p a b : Int) : Int × Bool := if elems p [a, b] then ((a + b) % p, true) else (0, false)
theorem impl_FieldAdd (p a b : Int) (w : World) (ht : Tab w) : Calls Tryd.prog 9 #[.int .i64 p, .int .i64 a, .int .i64 b] w fun e w' => e = .returned (.tuple #[.int .i64 (resAdd p a b).1, .bool (resAdd p a b).2]) ∧ Below w.heap.size w w' := by
  have HT := Lib.hid ht
  clear ht
  cases h : elems p [a, b] with
  | true =>
    obtain ⟨hp, ⟨h1, h2⟩, hz⟩ := elems_cases h
    obtain ⟨a1, a2⟩ := hz a (by simp)
    obtain ⟨b1, b2⟩ := hz b (by simp)
    obtain ⟨m1, m2⟩ := mul_bd h2 a1 a2 b1 b2
    have HE := Lib.hid (show resAdd p a b = ((a + b) % p, true) from by simp [resAdd, h])
    have HH := Lib.hid h
    clear h hp hz
    go_enter Tryd.func9, Tryd.ntmps9
    go_wp2_with fail
    refine (areElements_any p [a, b] _ _ _ _ (HT.out.below ((Below.refl _ _).alloc (Nat.le_refl _) _)) rfl (by simp) (Row.alloc w [a, b] _)).mono ?_
    rintro e w' ⟨rfl, rfl⟩
    rw [HH.out]
    go_wp2
    go_ret2
    rw [HE.out]
    exact ⟨rfl, (Below.refl _ _).alloc (Nat.le_refl _) _⟩
  | false =>
    have HE := Lib.hid (show resAdd p a b = (0, false) from by simp [resAdd, h])
    have HH := Lib.hid h
    clear h
    go_enter Tryd.func9, Tryd.ntmps9
    go_wp2_with fail
    refine (areElements_any p [a, b] _ _ _ _ (HT.out.below ((Below.refl _ _).alloc (Nat.le_refl _) _)) rfl (by simp) (Row.alloc w [a, b] _)).mono ?_
    rintro e w' ⟨rfl, rfl⟩
    rw [HH.out]
    go_wp2
    go_ret2
    rw [HE.out]
    exact ⟨rfl, (Below.refl _ _).alloc (Nat.le_refl _) _⟩

def resMul (p a b : Int) : Int × Bool := if elems p [a, b] then (a * b % p, true) else (0, false)
theorem spec_FieldMul (p a b : Int) (w : World) : Calls Tryd.prog 8 #[.int .i64 p, .int .i64 a, .int .i64 b] w fun e w' => e = .returned (.tuple #[.int .i64 (resMul p a b).1, .bool (resMul p a b).2]) ∧ w = w' := by
  cases h : elems p [a, b] with
  | true =>
    obtain ⟨hp, ⟨h1, h2⟩, hz⟩ := elems_cases h
    obtain ⟨a1, a2⟩ := hz a (by simp)
    obtain ⟨b1, b2⟩ := hz b (by simp)
    have HE := Lib.hid (show resMul p a b = (a * b % p, true) from by simp [resMul, h])
    have HP := Lib.hid hp
    clear h hp hz
    go_enter Tryd.func8, Tryd.ntmps8
    go_wp2_with fail
    refine (fdTwo_t p a b _ HP.out ⟨a1, a2⟩ ⟨b1, b2⟩).mono ?_
    rintro e w' ⟨rfl, rfl⟩
    go_wp2_with fail
    refine (fdMul_any p a b _ h1 h2 a1 a2 b1 b2).mono ?_
    rintro e w' ⟨rfl, rfl⟩
    go_wp2
    go_ret2
    rw [HE.out]
    exact ⟨rfl, rfl⟩
  | false =>
    have HE := Lib.hid (show resMul p a b = (0, false) from by simp [resMul, h])
    have HH := Lib.hid (two_bad h)
    clear h
    go_enter Tryd.func8, Tryd.ntmps8
    go_wp2_with fail
    refine (fdTwo_f p a b _ HH.out).mono ?_
    rintro e w' ⟨rfl, rfl⟩
    go_wp2
    go_ret2
    rw [HE.out]
    exact ⟨rfl, rfl⟩
theorem impl_FieldMul (p a b : Int) (w : World) (ht : Tab w) : Calls Tryd.prog 7 #[.int .i64 p, .int .i64 a, .int .i64 b] w fun e w' => e = .returned (.tuple #[.int .i64 (resMul p a b).1, .bool (resMul p a b).2]) ∧ Below w.heap.size w w' := by
  have HT := Lib.hid ht
  clear ht
  cases h : elems p [a, b] with
  | true =>
    obtain ⟨hp, ⟨h1, h2⟩, hz⟩ := elems_cases h
    obtain ⟨a1, a2⟩ := hz a (by simp)
    obtain ⟨b1, b2⟩ := hz b (by simp)
    obtain ⟨m1, m2⟩ := mul_bd h2 a1 a2 b1 b2
    have HE := Lib.hid (show resMul p a b = (a * b % p, true) from by simp [resMul, h])
    have HH := Lib.hid h
    clear h hp hz
    go_enter Tryd.func7, Tryd.ntmps7
    go_wp2_with fail
    refine (areElements_any p [a, b] _ _ _ _ (HT.out.below ((Below.refl _ _).alloc (Nat.le_refl _) _)) rfl (by simp) (Row.alloc w [a, b] _)).mono ?_
    rintro e w' ⟨rfl, rfl⟩
    rw [HH.out]
    go_wp2
    go_ret2
    rw [HE.out]
    exact ⟨rfl, (Below.refl _ _).alloc (Nat.le_refl _) _⟩
  | false =>
    have HE := Lib.hid (show resMul p a b = (0, false) from by simp [resMul, h])
    have HH := Lib.hid h
    clear h
    go_enter Tryd.func7, Tryd.ntmps7
    go_wp2_with fail
    refine (areElements_any p [a, b] _ _ _ _ (HT.out.below ((Below.refl _ _).alloc (Nat.le_refl _) _)) rfl (by simp) (Row.alloc w [a, b] _)).mono ?_
    rintro e w' ⟨rfl, rfl⟩
    rw [HH.out]
    go_wp2
    go_ret2
    rw [HE.out]
    exact ⟨rfl, (Below.refl _ _).alloc (Nat.le_refl _) _⟩

def resInv (p a : Int) : Int × Bool := if elems p [a] = true ∧ a ≠ 0 then (inv p a, true) else (0, false)
theorem impl_FieldInverse (p a : Int) (w : World) (ht : Tab w) : Calls Tryd.prog 10 #[.int .i64 p, .int .i64 a] w fun e w' => e = .returned (.tuple #[.int .i64 (resInv p a).1, .bool (resInv p a).2]) ∧ Below w.heap.size w w' := by
  have HT := Lib.hid ht
  clear ht
  cases h : elems p [a] with
  | true =>
    obtain ⟨hp, ⟨h1, h2⟩, hz⟩ := elems_cases h
    obtain ⟨a1, a2⟩ := hz a (by simp)
    have HP := Lib.hid hp
    have HH := Lib.hid h
    by_cases h0 : a = 0
    · have HE := Lib.hid (show resInv p a = (0, false) from by simp [resInv, h0])
      have hb : (a == 0) = true := by simp [h0]
      clear h hp hz h0
      go_enter Tryd.func10, Tryd.ntmps10
      go_wp2_with fail
      refine (areElements_any p [a] _ _ _ _ (HT.out.below ((Below.refl _ _).alloc (Nat.le_refl _) _)) rfl (by simp) (Row.alloc w [a] _)).mono ?_
      rintro e w' ⟨rfl, rfl⟩
      rw [HH.out]
      go_wp2
      go_ret2
      rw [HE.out]
      exact ⟨rfl, (Below.refl _ _).alloc (Nat.le_refl _) _⟩
    · have HE := Lib.hid (show resInv p a = (inv p a, true) from by simp [resInv, h, h0])
      have hb : (a == 0) = false := by simp [h0]
      have a3 : 0 < a := by omega
      clear h hp hz h0
      go_enter Tryd.func10, Tryd.ntmps10
      go_wp2_with fail
      refine (areElements_any p [a] _ _ _ _ (HT.out.below ((Below.refl _ _).alloc (Nat.le_refl _) _)) rfl (by simp) (Row.alloc w [a] _)).mono ?_
      rintro e w' ⟨rfl, rfl⟩
      rw [HH.out]
      go_wp2_with fail
      refine (inverseIn_any p a _ h1 h2 a1 a2).mono ?_
      rintro e w' ⟨rfl, rfl⟩
      go_wp2
      go_ret2
      rw [HE.out]
      exact ⟨rfl, (Below.refl _ _).alloc (Nat.le_refl _) _⟩
  | false =>
    have HE := Lib.hid (show resInv p a = (0, false) from by simp [resInv, h])
    have HH := Lib.hid h
    clear h
    go_enter Tryd.func10, Tryd.ntmps10
    go_wp2_with fail
    refine (areElements_any p [a] _ _ _ _ (HT.out.below ((Below.refl _ _).alloc (Nat.le_refl _) _)) rfl (by simp) (Row.alloc w [a] _)).mono ?_
    rintro e w' ⟨rfl, rfl⟩
    rw [HH.out]
    go_wp2
    go_ret2
    rw [HE.out]
    exact ⟨rfl, (Below.refl _ _).alloc (Nat.le_refl _) _⟩

def resOrd (p a : Int) : Int × Bool := if elems p [a] = true ∧ a ≠ 0 then ((ord p a : Int), true) else (0, false)
theorem impl_ElementOrder (p a : Int) (w : World) (ht : Tab w) : Calls Tryd.prog 11 #[.int .i64 p, .int .i64 a] w fun e w' => e = .returned (.tuple #[.int .i64 (resOrd p a).1, .bool (resOrd p a).2]) ∧ Below w.heap.size w w' := by
  have HT := Lib.hid ht
  clear ht
  cases h : elems p [a] with
  | true =>
    obtain ⟨hp, ⟨h1, h2⟩, hz⟩ := elems_cases h
    obtain ⟨a1, a2⟩ := hz a (by simp)
    have HP := Lib.hid hp
    have HH := Lib.hid h
    by_cases h0 : a = 0
    · have HE := Lib.hid (show resOrd p a = (0, false) from by simp [resOrd, h0])
      have hb : (a == 0) = true := by simp [h0]
      clear h hp hz h0
      go_enter Tryd.func11, Tryd.ntmps11
      go_wp2_with fail
      refine (areElements_any p [a] _ _ _ _ (HT.out.below ((Below.refl _ _).alloc (Nat.le_refl _) _)) rfl (by simp) (Row.alloc w [a] _)).mono ?_
      rintro e w' ⟨rfl, rfl⟩
      rw [HH.out]
      go_wp2
      go_ret2
      rw [HE.out]
      exact ⟨rfl, (Below.refl _ _).alloc (Nat.le_refl _) _⟩
    · have HE := Lib.hid (show resOrd p a = ((ord p a : Int), true) from by simp [resOrd, h, h0])
      have hb : (a == 0) = false := by simp [h0]
      have a3 : 0 < a := by omega
      clear h hp hz h0
      go_enter Tryd.func11, Tryd.ntmps11
      go_wp2_with fail
      refine (areElements_any p [a] _ _ _ _ (HT.out.below ((Below.refl _ _).alloc (Nat.le_refl _) _)) rfl (by simp) (Row.alloc w [a] _)).mono ?_
      rintro e w' ⟨rfl, rfl⟩
      rw [HH.out]
      go_wp2_with fail
      refine (orderIn_any p a _ HP.out a3 a2).mono ?_
      rintro e w' ⟨rfl, rfl⟩
      go_wp2
      go_ret2
      rw [HE.out]
      exact ⟨rfl, (Below.refl _ _).alloc (Nat.le_refl _) _⟩
  | false =>
    have HE := Lib.hid (show resOrd p a = (0, false) from by simp [resOrd, h])
    have HH := Lib.hid h
    clear h
    go_enter Tryd.func11, Tryd.ntmps11
    go_wp2_with fail
    refine (areElements_any p [a] _ _ _ _ (HT.out.below ((Below.refl _ _).alloc (Nat.le_refl _) _)) rfl (by simp) (Row.alloc w [a] _)).mono ?_
    rintro e w' ⟨rfl, rfl⟩
    rw [HH.out]
    go_wp2
    go_ret2
    rw [HE.out]
    exact ⟨rfl, (Below.refl _ _).alloc (Nat.le_refl _) _⟩

end Go.Proofs.YtoajbnkpognoiaaDoor
