/- The model's operations on rows, and its copy of a matrix. -/
import Derived.Test.YtahlicbjbbpihaaDoorSlc
import Derived.Test.YtahlicbjbbpihaaDoorRed
import Derived.Test.YtahlicbjbbpihaaDoorMxMul
import Derived.Test.YtahlicbjbbpihaaDoorAppG
import Derived.StillTailTactics
namespace Go.Proofs.YtahlicbjbbpihaaDoor
set_option maxRecDepth 100000
open Go Go.RowKit Go.Deep

theorem fdSub_any (p a b : Int) (w : World) (h1 : 2 ≤ p) (h2 : p ≤ 97) (a1 : 0 ≤ a) (a2 : a < p) (b1 : 0 ≤ b) (b2 : b < p) : Calls Tryd.prog 106 #[.int .i64 p, .int .i64 a, .int .i64 b] w fun e w' => e = .returned (.int .i64 ((a + p - b) % p)) ∧ w = w' := by
  have HE := Lib.hid (show (a - b) % p = (a + p - b) % p by rw [show a + p - b = a - b + p by omega, Int.add_emod_right])
  go_enter Tryd.func106, Tryd.ntmps106
  go_wp2
  go_ret
  exact ⟨by first | rfl | rw [HE.out], rfl⟩
theorem fdNeg_any (p a : Int) (w : World) (h1 : 2 ≤ p) (h2 : p ≤ 97) (a1 : 0 ≤ a) (a2 : a < p) : Calls Tryd.prog 115 #[.int .i64 p, .int .i64 a] w fun e w' => e = .returned (.int .i64 ((p - a) % p)) ∧ w = w' := by
  have HE := Lib.hid (show -a % p = (p - a) % p by rw [show p - a = -a + p by omega, Int.add_emod_right])
  go_enter Tryd.func115, Tryd.ntmps115
  go_wp2
  go_ret
  exact ⟨by first | rfl | rw [HE.out], rfl⟩
theorem less_eq {p k x y : Int} (hk0 : 0 < k) (hk1 : k < p) : (x + p - k * y % p) % p = (x + (p - k) % p * y) % p := by
  obtain ⟨q, hq⟩ := div_mod p (k * y)
  rw [Int.emod_eq_of_lt (a := p - k) (by omega) (by omega), hq]
  rw [show x + p - (k * y + p * q) = (x + (p - k) * y) + p * (1 - q - y) by grind, Int.add_mul_emod_self_left]
theorem less_eq2 {p k x y : Int} (hk0 : 0 < k) (hk1 : k < p) : (x + p - k * y) % p = (x + (p - k) % p * y) % p := by
  rw [Int.emod_eq_of_lt (a := p - k) (by omega) (by omega)]
  rw [show x + p - k * y = (x + (p - k) * y) + p * (1 - y) by grind, Int.add_mul_emod_self_left]
end Go.Proofs.YtahlicbjbbpihaaDoor
