/- The reduced list of a null space: the model's side. -/
import Derived.Test.YthnhholeaiojjaaDoorSpA
import Derived.Test.YthnhholeaiojjaaDoorMath
import Derived.Test.YthnhholeaiojjaaDoorMxB
import Derived.StillTailTactics
namespace Go.Proofs.YthnhholeaiojjaaDoor
set_option maxRecDepth 100000
open Go Go.RowKit Go.Deep

/-- Which row leads at each index, after the first k rows. -/
def leadL (c : Nat) (R : List (List Int)) : Nat → List Int
  | 0 => List.replicate c (-1)
  | k + 1 => (leadL c R k).set (lead0 (R.getD k [])) (k : Int)
theorem leadL_len (c : Nat) (R : List (List Int)) : ∀ k, (leadL c R k).length = c
  | 0 => by simp [leadL]
  | k + 1 => by unfold leadL; rw [List.length_set, leadL_len c R k]
theorem leadL_no {c : Nat} {R : List (List Int)} {j : Nat} (hj : j < c) : ∀ {k : Nat}, (∀ i, i < k → lead0 (R.getD i []) < c) → isLead R j k = false → (leadL c R k).getD j 0 = -1
  | 0, _, _ => by unfold leadL; rw [List.getD_eq_getElem?_getD]; simp [hj]
  | k + 1, hl, h => by
    simp only [isLead, Bool.or_eq_false_iff, decide_eq_false_iff_not] at h
    unfold leadL
    rw [set_getD _ _ _ _ _ (by rw [leadL_len]; exact hl k (by omega)), if_neg h.2]
    exact leadL_no hj (fun i hi => hl i (by omega)) h.1
theorem leadL_yes {c : Nat} {R : List (List Int)} {j : Nat} : ∀ {k : Nat}, (∀ i, i < k → lead0 (R.getD i []) < c) → isLead R j k = true → 0 ≤ (leadL c R k).getD j 0
  | 0, _, h => by cases h
  | k + 1, hl, h => by
    unfold leadL
    rw [set_getD _ _ _ _ _ (by rw [leadL_len]; exact hl k (by omega))]
    split
    · omega
    · rename_i hne
      simp only [isLead, Bool.or_eq_true, decide_eq_true_eq] at h
      exact leadL_yes (fun i hi => hl i (by omega)) (h.resolve_right hne)
end Go.Proofs.YthnhholeaiojjaaDoor
