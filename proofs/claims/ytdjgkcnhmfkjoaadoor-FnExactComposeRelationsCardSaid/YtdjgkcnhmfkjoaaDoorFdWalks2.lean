/- What the functions on prime fields return, continued: powers, inverses, orders. -/
import Derived.Test.YtdjgkcnhmfkjoaaDoorFdWalks
namespace Go.Proofs.YtdjgkcnhmfkjoaaDoor
set_option maxRecDepth 100000
open Go Go.RowKit

theorem mul_bd {p a b : Int} (h2 : p ≤ 97) (a1 : 0 ≤ a) (a2 : a < p) (b1 : 0 ≤ b) (b2 : b < p) : 0 ≤ a * b ∧ a * b ≤ 9409 := by
  refine ⟨Int.mul_nonneg a1 b1, ?_⟩
  have := Int.mul_le_mul (show a ≤ 97 by omega) (show b ≤ 97 by omega) b1 (by omega)
  omega
theorem fdMul_any (p a b : Int) (w : World) (h1 : 2 ≤ p) (h2 : p ≤ 97) (a1 : 0 ≤ a) (a2 : a < p) (b1 : 0 ≤ b) (b2 : b < p) : Calls Tryd.prog 63 #[.int .i64 p, .int .i64 a, .int .i64 b] w fun e w' => e = .returned (.int .i64 (a * b % p)) ∧ w = w' := by
  obtain ⟨m1, m2⟩ := mul_bd h2 a1 a2 b1 b2
  go_enter Tryd.func63, Tryd.ntmps63
  go_wp2
  go_ret
  exact ⟨rfl, rfl⟩

set_option maxHeartbeats 400000 in
theorem powerIn_any (p a : Int) (n : Nat) (w : World) (h1 : 2 ≤ p) (h2 : p ≤ 97) (a1 : 0 ≤ a) (a2 : a < p) (hn : n ≤ 10000) : Calls Tryd.prog 79 #[.int .i64 p, .int .i64 a, .int .i64 n] w fun e w' => e = .returned (.int .i64 (pw p a n)) ∧ w = w' := by
  go_enter Tryd.func79, Tryd.ntmps79
  go_wp2
  go_loop [1, 2, 7] (fun ta tn tr => ∃ (x r : Int) (m : Nat), 0 ≤ x ∧ x < p ∧ 0 ≤ r ∧ r < p ∧ m ≤ 10000 ∧ ta = .int .i64 x ∧ tn = .int .i64 m ∧ tr = .int .i64 r ∧ Hid (r * x ^ m % p = pw p a n)) (fun _ tn _ => (intOf tn).toNat)
  case atStart => exact ⟨a, 1, n, a1, a2, by omega, by omega, hn, rfl, rfl, rfl, Lib.hid (by rw [Int.one_mul]; rfl)⟩
  case round =>
    obtain ⟨x, r, m, x1, x2, r1, r2, hm, rfl, rfl, rfl, H⟩ := hrel
    obtain ⟨s1, s2⟩ := mul_bd h2 x1 x2 x1 x2
    obtain ⟨q1, q2⟩ := mul_bd h2 r1 r2 x1 x2
    by_cases h0 : 0 < m
    · by_cases hodd : m % 2 = 1
      · have hodd' : (m : Int) % 2 = 1 := by omega
        clear hodd
        go_wp2
        go_round
        case rel => exact ⟨x * x % p, r * x % p, m / 2, Int.emod_nonneg _ (by omega), Int.emod_lt_of_pos _ (by omega), Int.emod_nonneg _ (by omega), Int.emod_lt_of_pos _ (by omega), by omega, rfl, by go_num, rfl, Lib.hid (by
            rw [pw_odd, ← H.out, show 2 * (m / 2) + 1 = m from by omega])⟩
        case measure => simp [intOf]; omega
      · have hodd' : ¬ (m : Int) % 2 = 1 := by omega
        clear hodd
        go_wp2
        go_round
        case rel => exact ⟨x * x % p, r, m / 2, Int.emod_nonneg _ (by omega), Int.emod_lt_of_pos _ (by omega), r1, r2, by omega, rfl, by go_num, rfl, Lib.hid (by
            rw [pw_even, ← H.out, show 2 * (m / 2) = m from by omega])⟩
        case measure => simp [intOf]; omega
    · have hm0 : m = 0 := by omega
      subst hm0
      have HE := Lib.hid (show r = pw p a n from by
        rw [← H.out, Int.pow_zero, Int.mul_one]
        exact (Int.emod_eq_of_lt r1 r2).symm)
      go_wp2
      go_ret
      rw [← HE.out]
      exact ⟨rfl, rfl⟩

theorem inverseIn_any (p a : Int) (w : World) (h1 : 2 ≤ p) (h2 : p ≤ 97) (a1 : 0 ≤ a) (a2 : a < p) : Calls Tryd.prog 75 #[.int .i64 p, .int .i64 a] w fun e w' => e = .returned (.int .i64 (inv p a)) ∧ w = w' := by
  obtain ⟨P, rfl⟩ := Int.eq_ofNat_of_zero_le (show 0 ≤ p by omega)
  have HE := Lib.hid (show inv (P : Int) a = pw (P : Int) a (P - 2) from by unfold inv; rw [Int.toNat_natCast])
  have HC := Lib.hid (show (P : Int) - 2 = ((P - 2 : Nat) : Int) from by omega)
  go_enter Tryd.func75, Tryd.ntmps75
  go_wp2_with fail
  rw [HC.out]
  refine (powerIn_any _ _ _ _ h1 h2 a1 a2 (by omega)).mono ?_
  rintro e w' ⟨rfl, rfl⟩
  rw [← HE.out]
  go_wp2
  go_ret
  exact ⟨rfl, rfl⟩

theorem fdInv_any (p a : Int) (w : World) (hp : fld p = true) (a1 : 0 < a) (a2 : a < p) : Calls Tryd.prog 62 #[.int .i64 p, .int .i64 a] w fun e w' => e = .returned (.int .i64 (inv p a)) ∧ w = w' := by
  obtain ⟨h1, h2⟩ := fld_bd hp
  have HP := Lib.hid hp
  clear hp
  go_enter Tryd.func62, Tryd.ntmps62
  go_wp2
  go_loop [5] (fun tx => ∃ x : Int, 1 ≤ x ∧ x ≤ inv p a ∧ tx = .int .i64 x) (fun tx => (p - intOf tx).toNat)
  case atStart => exact ⟨1, by omega, inv_pos HP.out a1 a2, rfl⟩
  case round =>
    obtain ⟨x, x1, x2, rfl⟩ := hrel
    have ib := (inv_bd h1 a).2
    obtain ⟨q1, q2⟩ := mul_bd h2 (by omega : 0 ≤ a) a2 (by omega : 0 ≤ x) (by omega : x < p)
    have hlt : x < p := by omega
    by_cases he : a * x % p = 1
    · have HE := Lib.hid (inv_unique HP.out a1 a2 (by omega) hlt he)
      go_wp2
      go_ret
      rw [← HE.out]
      exact ⟨rfl, rfl⟩
    · have hne : x ≠ inv p a := by
        intro e
        rw [e, inv_mul HP.out a1 a2] at he
        exact he rfl
      have hle : x + 1 ≤ inv p a := by omega
      clear hne
      go_wp2
      go_round
      case rel => exact ⟨x + 1, by omega, hle, rfl⟩
      case measure => simp [intOf]; omega
end Go.Proofs.YtdjgkcnhmfkjoaaDoor
