/- Linear combinations, coordinates, and whether a space has a vector: the model's side. -/
import Derived.Test.YthnhholeaiojjaaMath
import Derived.Test.YthnhholeaiojjaaSpNull
import Derived.Test.YthnhholeaiojjaaSpG
import Derived.StillTailTactics
namespace Go.Proofs.Ythnhholeaiojjaa
set_option maxRecDepth 100000
open Go Go.RowKit Go.Deep

/-! ### Coordinates -/
theorem coords_take {R : List (List Int)} {v : List Int} {k : Nat} (h : k < R.length) : coords (R.take (k + 1)) v = coords (R.take k) v ++ [v.getD (lead0 (R.getD k [])) 0] := by
  have e : R.take (k + 1) = R.take k ++ [R.getD k []] := by
    rw [List.take_add_one, List.getElem?_eq_getElem h, List.getD_eq_getElem?_getD, List.getElem?_eq_getElem h]
    rfl
  rw [e]
  unfold coords
  rw [List.map_append]
  rfl
theorem icells_snoc (xs : List Int) (x : Int) : icells (xs ++ [x]) = icells xs ++ [.int .i64 x] := by simp [icells]
/-- A row of ints that grew by append. -/
def RowA (w : World) (B : Nat) (v : Value) (xs : List Int) : Prop := w.ownsRow B tI 1 v xs.length (icells xs)
theorem RowA.own {w : World} {B : Nat} {v : Value} {xs : List Int} (h : RowA w B v xs) : OwR w tI (fun b => B ≤ b) v xs := owR_of_owns h (fun k hk => (World.ownsRow.lt h k hk).1)
end Go.Proofs.Ythnhholeaiojjaa
