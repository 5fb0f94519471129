/- What the functions on prime fields return, continued: powers, inverses, orders. -/
import Derived.Test.YthnhholeaiojjaaDoorFdWalks
namespace Go.Proofs.YthnhholeaiojjaaDoor
set_option maxRecDepth 100000
open Go Go.RowKit

theorem mul_bd {p a b : Int} (h2 : p ≤ 97) (a1 : 0 ≤ a) (a2 : a < p) (b1 : 0 ≤ b) (b2 : b < p) : 0 ≤ a * b ∧ a * b ≤ 9409 := by
  refine ⟨Int.mul_nonneg a1 b1, ?_⟩
  have := Int.mul_le_mul (show a ≤ 97 by omega) (show b ≤ 97 by omega) b1 (by omega)
  omega
end Go.Proofs.YthnhholeaiojjaaDoor
