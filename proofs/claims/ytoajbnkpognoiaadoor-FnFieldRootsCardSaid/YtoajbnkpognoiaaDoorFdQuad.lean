/- What QuadraticRoots returns: of the program and of the model the same list, in a row of its own. -/
import Derived.Test.YtoajbnkpognoiaaDoorFdFuncs
import Derived.Test.YtoajbnkpognoiaaDoorInts
namespace Go.Proofs.YtoajbnkpognoiaaDoor
open Go Go.RowKit

theorem infoInt : (Tryd.prog.info? 3).map (fun i => (i.zero, i.size, i.bytes)) = some (some (.int .i64 0), 1, 8) := by kernel_rfl
theorem OwI.snoc {w : World} {base : Nat} {v : Value} {xs ys : List Int} {x : Int} (h : w.ownsRow base 3 1 v (xs.length + 1) (xs.map (Value.int .i64) ++ [.int .i64 x])) (e : ys = xs ++ [x]) : OwI w base v ys := by
  subst e
  unfold OwI
  rw [List.length_append, List.map_append]
  exact h
def resQ (p a b c : Int) : List Int := if elems p [a, b, c] then qroots p a b c p.toNat else []
theorem qroots_hit {p a b c : Int} {k : Nat} (h : (a * k * k + b * k + c) % p = 0) : qroots p a b c (k + 1) = qroots p a b c k ++ [(k : Int)] := by simp [qroots, h]
theorem qroots_miss {p a b c : Int} {k : Nat} (h : ¬ (a * k * k + b * k + c) % p = 0) : qroots p a b c (k + 1) = qroots p a b c k := by simp [qroots, h]
theorem three_bad {p a b c : Int} (h : elems p [a, b, c] = false) : fld p = false ∨ ¬ (0 ≤ a ∧ a < p) ∨ ¬ (0 ≤ b ∧ b < p) ∨ ¬ (0 ≤ c ∧ c < p) := by
  cases hp : fld p with
  | false => exact Or.inl rfl
  | true =>
    refine Or.inr ?_
    by_cases ha : 0 ≤ a ∧ a < p
    · by_cases hb : 0 ≤ b ∧ b < p
      · refine Or.inr (Or.inr fun hc => ?_)
        have : elems p [a, b, c] = true := (elems_iff p _).2 ⟨hp, fun z hz => by
          simp at hz
          rcases hz with rfl | rfl | rfl
          · exact (el_iff p _).2 ha
          · exact (el_iff p _).2 hb
          · exact (el_iff p _).2 hc⟩
        rw [this] at h
        cases h
      · exact Or.inr (Or.inl hb)
    · exact Or.inl ha

/-- What a found root does to the loop's relation. -/
theorem quad_keep {w wr w1 : World} {v v' : Value} {o : Obj} {p a b c : Int} {k : Nat} (hbel : Below w.heap.size w wr) (hown : wr.ownsRow w.heap.size 3 1 v (qroots p a b c k).length ((qroots p a b c k).map (Value.int .i64)))
    (hd : (a * k * k + b * k + c) % p = 0) (hown' : w1.ownsRow w.heap.size 3 1 v' ((qroots p a b c k).length + 1) ((qroots p a b c k).map (Value.int .i64) ++ [.int .i64 k])) (hgrow : (wr.alloc o).grownBy w1 v.ownBlock) :
    OwI w1 w.heap.size v' (qroots p a b c (k + 1)) ∧ Below w.heap.size w w1 :=
  ⟨OwI.snoc hown' (qroots_hit hd), (hbel.alloc (by have := hbel.size; omega) o).grown hgrow (by have := hbel.size; simp; omega) (fun j hj => (hown.lt j hj).1)⟩

set_option maxHeartbeats 800000 in
set_option maxRecDepth 100000 in
theorem spec_QuadraticRoots (p a b c : Int) (w : World) : Calls Tryd.prog 23 #[.int .i64 p, .int .i64 a, .int .i64 b, .int .i64 c] w fun e w' =>
    ∃ v, e = .returned (.tuple #[v, .bool (elems p [a, b, c])]) ∧ OwI w' w.heap.size v (resQ p a b c) ∧ Below w.heap.size w w' := by
  cases h : elems p [a, b, c] with
  | false =>
    have HE := Lib.hid (show resQ p a b c = [] from by simp [resQ, h])
    have hbad := three_bad h
    clear h
    cases hab : elems p [a, b] with
    | false =>
      have HH := Lib.hid (two_bad hab)
      clear hab hbad
      go_enter Tryd.func23, Tryd.ntmps23
      go_wp2_with fail
      refine (fdTwo_f p a b _ HH.out).mono ?_
      rintro e w' ⟨rfl, rfl⟩
      go_wp2
      go_ret2
      exact ⟨_, rfl, by rw [HE.out]; exact OwI.nil _ _, Below.refl _ _⟩
    | true =>
      obtain ⟨hp, ⟨h1, h2⟩, hz⟩ := elems_cases hab
      have HA := Lib.hid (hz a (by simp))
      have HB := Lib.hid (hz b (by simp))
      have HC := Lib.hid (show c < 0 ∨ p - 1 < c by
        have := HA.out
        have := HB.out
        rw [hp] at hbad
        simp at hbad
        omega)
      have HP := Lib.hid hp
      clear hab hbad hp hz
      go_enter Tryd.func23, Tryd.ntmps23
      go_wp2_with fail
      refine (fdTwo_t p a b _ HP.out HA.out HB.out).mono ?_
      rintro e w' ⟨rfl, rfl⟩
      go_wp2_with fail
      refine (l1In_f _ _ _ _ HC.out).mono ?_
      rintro e w' ⟨rfl, rfl⟩
      go_wp2
      go_ret2
      exact ⟨_, rfl, by rw [HE.out]; exact OwI.nil _ _, Below.refl _ _⟩
  | true =>
    obtain ⟨hp, ⟨h1, h2⟩, hz⟩ := elems_cases h
    obtain ⟨a1, a2⟩ := hz a (by simp)
    obtain ⟨b1, b2⟩ := hz b (by simp)
    obtain ⟨c1, c2⟩ := hz c (by simp)
    have HE := Lib.hid (show resQ p a b c = qroots p a b c p.toNat from by simp [resQ, h])
    have HP := Lib.hid hp
    clear h hp hz
    obtain ⟨i0, hi, hz0, hz1, hz2⟩ := info_parts infoInt
    go_enter Tryd.func23, Tryd.ntmps23
    go_wp2_with fail
    refine (fdTwo_t p a b _ HP.out ⟨a1, a2⟩ ⟨b1, b2⟩).mono ?_
    rintro e w' ⟨rfl, rfl⟩
    go_wp2_with fail
    refine (l1In_t _ _ _ _ (by omega) (by omega)).mono ?_
    rintro e w' ⟨rfl, rfl⟩
    go_wp2
    go_loopw [10, 11] (fun v i wr => ∃ k : Nat, (k : Int) ≤ p ∧ i = .int .i64 k ∧ wr.ownsRow w.heap.size 3 1 v (qroots p a b c k).length ((qroots p a b c k).map (Value.int .i64)) ∧ Below w.heap.size w wr) (fun _ i _ => (p - intOf i).toNat)
    case atStart => exact ⟨0, by omega, rfl, World.ownsRow_nil _ _ _ _, Below.refl _ _⟩
    case round =>
      obtain ⟨k, hk, rfl, hown, hbel⟩ := hrel
      by_cases hlt : (k : Int) < p
      · obtain ⟨q1, q2⟩ := mul_bd h2 a1 a2 (by omega : (0 : Int) ≤ k) hlt
        obtain ⟨r1, r2⟩ := mul_bd h2 b1 b2 (by omega : (0 : Int) ≤ k) hlt
        have s1 : 0 ≤ a * k * k := Int.mul_nonneg q1 (by omega)
        have s2 : a * k * k ≤ 9409 * 97 := Int.mul_le_mul q2 (by omega) (by omega) (by omega)
        by_cases hd : (a * k * k + b * k + c) % p = 0
        · have hql := qroots_len p a b c k
          have HQ := Lib.hid hd
          go_wp2_with (at_builtin; refine wpList_append_own _ rfl _ _ 32 rfl w.heap.size 3 i0 (.int .i64 0) 1 8 Tryd.underlying32 hi hz0 hz1 hz2 rfl (by decide) _ _ _ rfl (hown.alloc _) ⟨wr.heap.size, 0, none⟩ 1 1 [.int .i64 k] rfl rfl ?c1 ?c2 ?c3 ?c4 ?c5 ?_)
          case c1 =>
            intro j u hj
            match j, hj with
            | 0, hj => simp at hj; subst hj; simp [Addr.add]
          case c2 => intro u hu; simp at hu; subst hu; rfl
          case c3 => unfold maxLen; omega
          case c4 => omega
          case c5 => have := hbel.size; simp; omega
          intro v' w1 hown' hgrow _
          have R := quad_keep hbel hown HQ.out hown' hgrow
          obtain ⟨R1, R2⟩ := R
          have R1 := Lib.hid R1
          clear hown' hgrow hown hbel
          go_wp2
          go_roundw
          case rel => exact ⟨k + 1, by omega, by go_num, R1.out, R2⟩
          case measure => simp [intOf]; omega
        · have HM := Lib.hid (qroots_miss hd)
          go_wp2
          go_roundw
          case rel => exact ⟨k + 1, by omega, by go_num, by rw [HM.out]; exact hown, hbel⟩
          case measure => simp [intOf]; omega
      · have HK := Lib.hid (show k = p.toNat by omega)
        go_wp2
        go_ret2
        exact ⟨_, rfl, by rw [HE.out, ← HK.out]; exact hown, hbel⟩

set_option maxHeartbeats 800000 in
set_option maxRecDepth 100000 in
theorem impl_QuadraticRoots (p a b c : Int) (w : World) (ht : Tab w) : Calls Tryd.prog 21 #[.int .i64 p, .int .i64 a, .int .i64 b, .int .i64 c] w fun e w' =>
    ∃ v, e = .returned (.tuple #[v, .bool (elems p [a, b, c])]) ∧ OwI w' w.heap.size v (resQ p a b c) ∧ Below w.heap.size w w' := by
  have HT := Lib.hid ht
  clear ht
  cases h : elems p [a, b, c] with
  | false =>
    have HE := Lib.hid (show resQ p a b c = [] from by simp [resQ, h])
    have HH := Lib.hid h
    clear h
    go_enter Tryd.func21, Tryd.ntmps21
    go_wp2_with fail
    refine (areElements_any p [a, b, c] _ _ _ _ (HT.out.below ((Below.refl _ _).alloc (Nat.le_refl _) _)) rfl (by simp) (Row.alloc w [a, b, c] _)).mono ?_
    rintro e w' ⟨rfl, rfl⟩
    rw [HH.out]
    go_wp2
    go_ret2
    exact ⟨_, rfl, by rw [HE.out]; exact OwI.nil _ _, (Below.refl _ _).alloc (Nat.le_refl _) _⟩
  | true =>
    obtain ⟨hp, ⟨h1, h2⟩, hz⟩ := elems_cases h
    obtain ⟨a1, a2⟩ := hz a (by simp)
    obtain ⟨b1, b2⟩ := hz b (by simp)
    obtain ⟨c1, c2⟩ := hz c (by simp)
    have HE := Lib.hid (show resQ p a b c = qroots p a b c p.toNat from by simp [resQ, h])
    have HP := Lib.hid hp
    have HH := Lib.hid h
    clear h hp hz
    obtain ⟨i0, hi, hz0, hz1, hz2⟩ := info_parts infoInt
    go_enter Tryd.func21, Tryd.ntmps21
    go_wp2_with fail
    refine (areElements_any p [a, b, c] _ _ _ _ (HT.out.below ((Below.refl _ _).alloc (Nat.le_refl _) _)) rfl (by simp) (Row.alloc w [a, b, c] _)).mono ?_
    rintro e w' ⟨rfl, rfl⟩
    rw [HH.out]
    go_wp2
    go_loopw [10, 20] (fun v i wr => ∃ k : Nat, (k : Int) ≤ p ∧ i = .int .i64 k ∧ wr.ownsRow w.heap.size 3 1 v (qroots p a b c k).length ((qroots p a b c k).map (Value.int .i64)) ∧ Below w.heap.size w wr) (fun _ i _ => (p - intOf i).toNat)
    case atStart => exact ⟨0, by omega, rfl, World.ownsRow_nil _ _ _ _, (Below.refl _ _).alloc (Nat.le_refl _) _⟩
    case round =>
      obtain ⟨k, hk, rfl, hown, hbel⟩ := hrel
      by_cases hlt : (k : Int) < p
      · obtain ⟨q1, q2⟩ := mul_bd h2 a1 a2 (by omega : (0 : Int) ≤ k) hlt
        have s1 : 0 ≤ (a * k + b) * k := Int.mul_nonneg (by omega) (by omega)
        have s2 : (a * k + b) * k ≤ 9506 * 97 := Int.mul_le_mul (by omega) (by omega) (by omega) (by omega)
        by_cases hd : ((a * k + b) * k + c) % p = 0
        · have hql := qroots_len p a b c k
          have HQ := Lib.hid (show (a * k * k + b * k + c) % p = 0 by rw [← horner]; exact hd)
          go_wp2_with (at_builtin; refine wpList_append_own _ rfl _ _ 32 rfl w.heap.size 3 i0 (.int .i64 0) 1 8 Tryd.underlying32 hi hz0 hz1 hz2 rfl (by decide) _ _ _ rfl (hown.alloc _) ⟨wr.heap.size, 0, none⟩ 1 1 [.int .i64 k] rfl rfl ?c1 ?c2 ?c3 ?c4 ?c5 ?_)
          case c1 =>
            intro j u hj
            match j, hj with
            | 0, hj => simp at hj; subst hj; simp [Addr.add]
          case c2 => intro u hu; simp at hu; subst hu; rfl
          case c3 => unfold maxLen; omega
          case c4 => omega
          case c5 => have := hbel.size; simp; omega
          intro v' w1 hown' hgrow _
          have R := quad_keep hbel hown HQ.out hown' hgrow
          obtain ⟨R1, R2⟩ := R
          have R1 := Lib.hid R1
          clear hown' hgrow hown hbel
          go_wp2
          go_roundw
          case rel => exact ⟨k + 1, by omega, by go_num, R1.out, R2⟩
          case measure => simp [intOf]; omega
        · have HM := Lib.hid (qroots_miss (p := p) (a := a) (b := b) (c := c) (k := k) (by rw [← horner]; exact hd))
          go_wp2
          go_roundw
          case rel => exact ⟨k + 1, by omega, by go_num, by rw [HM.out]; exact hown, hbel⟩
          case measure => simp [intOf]; omega
      · have HK := Lib.hid (show k = p.toNat by omega)
        go_wp2
        go_ret2
        exact ⟨_, rfl, by rw [HE.out, ← HK.out]; exact hown, hbel⟩
end Go.Proofs.YtoajbnkpognoiaaDoor
