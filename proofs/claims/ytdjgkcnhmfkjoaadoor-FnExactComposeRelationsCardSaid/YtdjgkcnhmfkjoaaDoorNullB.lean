/- The reduced list of a null space: its shape and size. -/
import Derived.Test.YtdjgkcnhmfkjoaaDoorMath
import Derived.Test.YtdjgkcnhmfkjoaaDoorSpanF
namespace Go.Proofs.YtdjgkcnhmfkjoaaDoor
set_option maxRecDepth 100000
open Go Go.RowKit Go.Deep

theorem nullB_mat {p : Int} (hf : fld p = true) {c : Nat} (rows : List (List Int)) : Mat p (nullB p rows c).length c (nullB p rows c) := rref_mat hf (null_mid_mat hf rows)
theorem nullB_le {p : Int} (hf : fld p = true) {c : Nat} (rows : List (List Int)) : (nullB p rows c).length ≤ c := rref_le hf (null_mid_mat hf rows)
theorem nullB_red {p : Int} (hf : fld p = true) {c : Nat} (rows : List (List Int)) : IsRed p (nullB p rows c).length c (nullB p rows c) := by
  have h := rref_red hf (null_mid_mat hf (c := c) rows)
  rw [← rref_len hf (null_mid_mat hf rows)] at h
  exact h
theorem nullB_sz {p : Int} (hf : fld p = true) {c : Nat} (rows : List (List Int)) (hc : c ≤ 24) : szG (nullB p rows c) ≤ 1099511627776 := mat_sz (Nat.le_trans (nullB_le hf rows) hc) hc (nullB_mat hf rows)
end Go.Proofs.YtdjgkcnhmfkjoaaDoor
