/- The relation of a matrix: the model's helper. -/
import Derived.Test.YtiiloioobmkicaaGrF
import Derived.Test.YtiiloioobmkicaaPushG
import Derived.Test.YtiiloioobmkicaaRowCat
namespace Go.Proofs.Ytiiloioobmkicaa
set_option maxRecDepth 100000
open Go Go.RowKit Go.Deep

theorem jn_take {a b : List (List Int)} {k : Nat} (h : k < a.length) : jn (a.take (k + 1)) b = jn (a.take k) b ++ [a.getD k [] ++ b.getD k []] := by
  rw [take_one h []]
  unfold jn
  rw [List.mapIdx_append]
  simp [List.length_take, Nat.min_eq_left (Nat.le_of_lt h)]
end Go.Proofs.Ytiiloioobmkicaa
