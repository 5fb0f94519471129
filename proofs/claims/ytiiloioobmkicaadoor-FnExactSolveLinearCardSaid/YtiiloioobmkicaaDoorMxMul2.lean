/- The model's product of matrices: its rows are appended. -/
import Derived.Test.YtiiloioobmkicaaDoorMxB
import Derived.Test.YtiiloioobmkicaaDoorMem
import Derived.Deep.RegionHeld3
namespace Go.Proofs.YtiiloioobmkicaaDoor
set_option maxRecDepth 100000
open Go Go.RowKit Go.Deep

theorem mmul_take_succ {p : Int} {c : Nat} {a b : List (List Int)} {k : Nat} (h : k < a.length) : mmul p c (a.take (k + 1)) b = mmul p c (a.take k) b ++ [vmul p c (a.getD k []) b] := by
  unfold mmul
  rw [List.take_add_one, List.getElem?_eq_getElem h, List.getD_eq_getElem?_getD, List.getElem?_eq_getElem h]
  exact List.mapIdx_append
end Go.Proofs.YtiiloioobmkicaaDoor
