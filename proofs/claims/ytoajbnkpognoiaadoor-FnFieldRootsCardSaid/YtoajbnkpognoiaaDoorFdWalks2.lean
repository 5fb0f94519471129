/- What the functions on prime fields return, continued: powers, inverses, orders. -/
import Derived.Test.YtoajbnkpognoiaaDoorFdWalks
namespace Go.Proofs.YtoajbnkpognoiaaDoor
open Go Go.RowKit

theorem fdTwo_t (p a b : Int) (w : World) (hp : fld p = true) (ha : 0 ≤ a ∧ a < p) (hb : 0 ≤ b ∧ b < p) : Calls Tryd.prog 27 #[.int .i64 p, .int .i64 a, .int .i64 b] w fun e w' => e = .returned (.bool true) ∧ w = w' := by
  obtain ⟨h1, h2⟩ := fld_bd hp
  obtain ⟨a1, a2⟩ := ha
  obtain ⟨b1, b2⟩ := hb
  have HF := Lib.hid hp
  clear hp
  go_enter Tryd.func27, Tryd.ntmps27
  go_wp2_with fail
  refine (fdGood_any p _).mono ?_
  rintro e w' ⟨rfl, rfl⟩
  rw [HF.out]
  go_wp2_with (go_at_call 38; refine (l1In_t _ _ _ _ (by omega) (by omega)).mono ?_; rintro e w' ⟨rfl, rfl⟩)
  go_ret
  exact ⟨rfl, rfl⟩
theorem fdTwo_f (p a b : Int) (w : World) (h : fld p = false ∨ ¬ (0 ≤ a ∧ a < p) ∨ ¬ (0 ≤ b ∧ b < p)) : Calls Tryd.prog 27 #[.int .i64 p, .int .i64 a, .int .i64 b] w fun e w' => e = .returned (.bool false) ∧ w = w' := by
  cases hp : fld p with
  | false =>
    have HF := Lib.hid hp
    clear hp h
    go_enter Tryd.func27, Tryd.ntmps27
    go_wp2_with fail
    refine (fdGood_any p _).mono ?_
    rintro e w' ⟨rfl, rfl⟩
    rw [HF.out]
    go_wp2
    go_ret
    exact ⟨rfl, rfl⟩
  | true =>
    obtain ⟨h1, h2⟩ := fld_bd hp
    have HF := Lib.hid hp
    have HH := Lib.hid h
    clear hp h
    by_cases ha : 0 ≤ a ∧ a < p
    · obtain ⟨a1, a2⟩ := ha
      have hb : b < 0 ∨ p - 1 < b := by
        rcases HH.out with h | h | h
        · rw [HF.out] at h; cases h
        · omega
        · omega
      have HB := Lib.hid hb
      clear hb
      go_enter Tryd.func27, Tryd.ntmps27
      go_wp2_with fail
      refine (fdGood_any p _).mono ?_
      rintro e w' ⟨rfl, rfl⟩
      rw [HF.out]
      go_wp2_with fail
      refine (l1In_t _ _ _ _ (by omega) (by omega)).mono ?_
      rintro e w' ⟨rfl, rfl⟩
      go_wp2_with fail
      refine (l1In_f _ _ _ _ HB.out).mono ?_
      rintro e w' ⟨rfl, rfl⟩
      go_wp2
      go_ret
      exact ⟨rfl, rfl⟩
    · have HA := Lib.hid (show a < 0 ∨ p - 1 < a by omega)
      clear ha
      go_enter Tryd.func27, Tryd.ntmps27
      go_wp2_with fail
      refine (fdGood_any p _).mono ?_
      rintro e w' ⟨rfl, rfl⟩
      rw [HF.out]
      go_wp2_with fail
      refine (l1In_f _ _ _ _ HA.out).mono ?_
      rintro e w' ⟨rfl, rfl⟩
      go_wp2
      go_ret
      exact ⟨rfl, rfl⟩

theorem mul_bd {p a b : Int} (h2 : p ≤ 97) (a1 : 0 ≤ a) (a2 : a < p) (b1 : 0 ≤ b) (b2 : b < p) : 0 ≤ a * b ∧ a * b ≤ 9409 := by
  refine ⟨Int.mul_nonneg a1 b1, ?_⟩
  have := Int.mul_le_mul (show a ≤ 97 by omega) (show b ≤ 97 by omega) b1 (by omega)
  omega
theorem fdMul_any (p a b : Int) (w : World) (h1 : 2 ≤ p) (h2 : p ≤ 97) (a1 : 0 ≤ a) (a2 : a < p) (b1 : 0 ≤ b) (b2 : b < p) : Calls Tryd.prog 28 #[.int .i64 p, .int .i64 a, .int .i64 b] w fun e w' => e = .returned (.int .i64 (a * b % p)) ∧ w = w' := by
  obtain ⟨m1, m2⟩ := mul_bd h2 a1 a2 b1 b2
  go_enter Tryd.func28, Tryd.ntmps28
  go_wp2
  go_ret
  exact ⟨rfl, rfl⟩

set_option maxHeartbeats 400000 in
theorem powerIn_any (p a : Int) (n : Nat) (w : World) (h1 : 2 ≤ p) (h2 : p ≤ 97) (a1 : 0 ≤ a) (a2 : a < p) (hn : n ≤ 10000) : Calls Tryd.prog 31 #[.int .i64 p, .int .i64 a, .int .i64 n] w fun e w' => e = .returned (.int .i64 (pw p a n)) ∧ w = w' := by
  go_enter Tryd.func31, Tryd.ntmps31
  go_wp2
  go_loop [1, 2, 7] (fun ta tn tr => ∃ (x r : Int) (m : Nat), 0 ≤ x ∧ x < p ∧ 0 ≤ r ∧ r < p ∧ m ≤ 10000 ∧ ta = .int .i64 x ∧ tn = .int .i64 m ∧ tr = .int .i64 r ∧ Hid (r * x ^ m % p = pw p a n)) (fun _ tn _ => (intOf tn).toNat)
  case atStart => exact ⟨a, 1, n, a1, a2, by omega, by omega, hn, rfl, rfl, rfl, Lib.hid (by rw [Int.one_mul]; rfl)⟩
  case round =>
    obtain ⟨x, r, m, x1, x2, r1, r2, hm, rfl, rfl, rfl, H⟩ := hrel
    obtain ⟨s1, s2⟩ := mul_bd h2 x1 x2 x1 x2
    obtain ⟨q1, q2⟩ := mul_bd h2 r1 r2 x1 x2
    by_cases h0 : 0 < m
    · by_cases hodd : m % 2 = 1
      · have hodd' : (m : Int) % 2 = 1 := by omega
        clear hodd
        go_wp2
        go_round
        case rel => exact ⟨x * x % p, r * x % p, m / 2, Int.emod_nonneg _ (by omega), Int.emod_lt_of_pos _ (by omega), Int.emod_nonneg _ (by omega), Int.emod_lt_of_pos _ (by omega), by omega, rfl, by go_num, rfl, Lib.hid (by
            rw [pw_odd, ← H.out, show 2 * (m / 2) + 1 = m from by omega])⟩
        case measure => simp [intOf]; omega
      · have hodd' : ¬ (m : Int) % 2 = 1 := by omega
        clear hodd
        go_wp2
        go_round
        case rel => exact ⟨x * x % p, r, m / 2, Int.emod_nonneg _ (by omega), Int.emod_lt_of_pos _ (by omega), r1, r2, by omega, rfl, by go_num, rfl, Lib.hid (by
            rw [pw_even, ← H.out, show 2 * (m / 2) = m from by omega])⟩
        case measure => simp [intOf]; omega
    · have hm0 : m = 0 := by omega
      subst hm0
      have HE := Lib.hid (show r = pw p a n from by
        rw [← H.out, Int.pow_zero, Int.mul_one]
        exact (Int.emod_eq_of_lt r1 r2).symm)
      go_wp2
      go_ret
      rw [← HE.out]
      exact ⟨rfl, rfl⟩

theorem inverseIn_any (p a : Int) (w : World) (h1 : 2 ≤ p) (h2 : p ≤ 97) (a1 : 0 ≤ a) (a2 : a < p) : Calls Tryd.prog 29 #[.int .i64 p, .int .i64 a] w fun e w' => e = .returned (.int .i64 (inv p a)) ∧ w = w' := by
  obtain ⟨P, rfl⟩ := Int.eq_ofNat_of_zero_le (show 0 ≤ p by omega)
  have HE := Lib.hid (show inv (P : Int) a = pw (P : Int) a (P - 2) from by unfold inv; rw [Int.toNat_natCast])
  have HC := Lib.hid (show (P : Int) - 2 = ((P - 2 : Nat) : Int) from by omega)
  go_enter Tryd.func29, Tryd.ntmps29
  go_wp2_with fail
  rw [HC.out]
  refine (powerIn_any _ _ _ _ h1 h2 a1 a2 (by omega)).mono ?_
  rintro e w' ⟨rfl, rfl⟩
  rw [← HE.out]
  go_wp2
  go_ret
  exact ⟨rfl, rfl⟩

theorem fdOrder_any (p a : Int) (w : World) (hp : fld p = true) (a1 : 0 < a) (a2 : a < p) : Calls Tryd.prog 35 #[.int .i64 p, .int .i64 a] w fun e w' => e = .returned (.int .i64 (ord p a)) ∧ w = w' := by
  obtain ⟨h1, h2⟩ := fld_bd hp
  have HP := Lib.hid hp
  clear hp
  go_enter Tryd.func35, Tryd.ntmps35
  go_wp2
  go_loop [6, 5] (fun tx tn => ∃ (n f : Nat) (x : Int), 1 ≤ n ∧ 1 ≤ f ∧ n ≤ 97 ∧ 0 ≤ x ∧ x < p ∧ tn = .int .i64 n ∧ tx = .int .i64 x ∧ Hid (x = pw p a n) ∧ Hid (n + f = p.toNat) ∧ Hid (ordFrom p a f n = ord p a)) (fun _ tn => (p - intOf tn).toNat)
  case atStart => exact ⟨1, p.toNat - 1, a, by omega, by omega, by omega, by omega, a2, rfl, rfl, Lib.hid (pw_one (by omega) a2).symm, Lib.hid (by omega), Lib.hid rfl⟩
  case round =>
    obtain ⟨n, f, x, n1, f1, n97, x1, x2, rfl, rfl, HX, HN, HO⟩ := hrel
    obtain ⟨q1, q2⟩ := mul_bd h2 x1 x2 (by omega : 0 ≤ a) a2
    by_cases he : x = 1
    · have HE := Lib.hid (show ord p a = n from by
        rw [← HO.out]
        exact ordFrom_hit (by rw [← HX.out]; exact he))
      have hb : (x != 1) = false := by simp [he]
      clear he
      go_wp2
      go_ret
      rw [HE.out]
      exact ⟨rfl, rfl⟩
    · have hb : (x != 1) = true := by simp [he]
      have hnf : 2 ≤ f := by
        have hN := HN.out
        by_cases c : 2 ≤ f
        · exact c
        · exfalso
          apply he
          rw [HX.out, show n = p.toNat - 1 from by omega]
          exact fermat HP.out a1 a2
      have HE := Lib.hid (show ordFrom p a (f - 1) (n + 1) = ord p a from by
        rw [← HO.out, show f = f - 1 + 1 from by omega]
        exact (ordFrom_miss (by rw [← HX.out]; exact he)).symm)
      have hlt : (n : Int) < p := by have hN := HN.out; omega
      clear he
      go_wp2
      go_round
      case rel => exact ⟨n + 1, f - 1, x * a % p, by omega, by omega, by omega, Int.emod_nonneg _ (by omega), Int.emod_lt_of_pos _ (by omega), by go_num, rfl, Lib.hid (by rw [pw_succ, ← HX.out]), Lib.hid (by have hN := HN.out; omega), HE⟩
      case measure => simp [intOf]; omega
theorem orderIn_any (p a : Int) (w : World) (hp : fld p = true) (a1 : 0 < a) (a2 : a < p) : Calls Tryd.prog 30 #[.int .i64 p, .int .i64 a] w fun e w' => e = .returned (.int .i64 (ord p a)) ∧ w = w' := by
  obtain ⟨h1, h2⟩ := fld_bd hp
  have HP := Lib.hid hp
  clear hp
  go_enter Tryd.func30, Tryd.ntmps30
  go_wp2
  go_loop [5, 6] (fun tn tx => ∃ (n f : Nat) (x : Int), 1 ≤ n ∧ 1 ≤ f ∧ n ≤ 97 ∧ 0 ≤ x ∧ x < p ∧ tn = .int .i64 n ∧ tx = .int .i64 x ∧ Hid (x = pw p a n) ∧ Hid (n + f = p.toNat) ∧ Hid (ordFrom p a f n = ord p a)) (fun tn _ => (p - intOf tn).toNat)
  case atStart => exact ⟨1, p.toNat - 1, a, by omega, by omega, by omega, by omega, a2, rfl, rfl, Lib.hid (pw_one (by omega) a2).symm, Lib.hid (by omega), Lib.hid rfl⟩
  case round =>
    obtain ⟨n, f, x, n1, f1, n97, x1, x2, rfl, rfl, HX, HN, HO⟩ := hrel
    obtain ⟨q1, q2⟩ := mul_bd h2 x1 x2 (by omega : 0 ≤ a) a2
    by_cases he : x = 1
    · have HE := Lib.hid (show ord p a = n from by
        rw [← HO.out]
        exact ordFrom_hit (by rw [← HX.out]; exact he))
      have hb : (x != 1) = false := by simp [he]
      clear he
      go_wp2
      go_ret
      rw [HE.out]
      exact ⟨rfl, rfl⟩
    · have hb : (x != 1) = true := by simp [he]
      have hnf : 2 ≤ f := by
        have hN := HN.out
        by_cases c : 2 ≤ f
        · exact c
        · exfalso
          apply he
          rw [HX.out, show n = p.toNat - 1 from by omega]
          exact fermat HP.out a1 a2
      have HE := Lib.hid (show ordFrom p a (f - 1) (n + 1) = ord p a from by
        rw [← HO.out, show f = f - 1 + 1 from by omega]
        exact (ordFrom_miss (by rw [← HX.out]; exact he)).symm)
      have hlt : (n : Int) < p := by have hN := HN.out; omega
      clear he
      go_wp2
      go_round
      case rel => exact ⟨n + 1, f - 1, x * a % p, by omega, by omega, by omega, Int.emod_nonneg _ (by omega), Int.emod_lt_of_pos _ (by omega), by go_num, rfl, Lib.hid (by rw [pw_succ, ← HX.out]), Lib.hid (by have hN := HN.out; omega), HE⟩
      case measure => simp [intOf]; omega
end Go.Proofs.YtoajbnkpognoiaaDoor
