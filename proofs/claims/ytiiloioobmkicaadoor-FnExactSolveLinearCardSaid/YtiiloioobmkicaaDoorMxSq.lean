/- Square matrices: both sides' tests. -/
import Derived.Test.YtiiloioobmkicaaDoorMxB
import Derived.Test.YtiiloioobmkicaaDoorLeaf
namespace Go.Proofs.YtiiloioobmkicaaDoor
set_option maxRecDepth 100000
open Go Go.RowKit Go.Deep

def isSq (p c : Int) (rows : List (List Int)) : Bool := isMat p c rows && decide (c = (rows.length : Int))
theorem isSq_iff (p c : Int) (rows : List (List Int)) : isSq p c rows = true ↔ fld p = true ∧ ∃ k : Nat, c = k ∧ k ≤ 24 ∧ Mat p k k rows := by
  unfold isSq
  rw [Bool.and_eq_true, isMat_iff, decide_eq_true_eq]
  constructor
  · rintro ⟨⟨h1, h2, k, rfl, h3, h4⟩, h5⟩
    have : rows.length = k := by omega
    exact ⟨h1, k, rfl, h3, by rw [← this] at h4 ⊢; exact h4⟩
  · rintro ⟨h1, k, rfl, h3, h4⟩
    have := h4.1
    exact ⟨⟨h1, by omega, k, rfl, h3, by rw [this]; exact h4⟩, by omega⟩
end Go.Proofs.YtiiloioobmkicaaDoor
