/- IsTotal, IsSingleValued: both sides. -/
import Derived.Test.YtiiloioobmkicaaDoorTotH
import Derived.Test.YtiiloioobmkicaaDoorIsRl
import Derived.Test.YtiiloioobmkicaaDoorLawGB
import Derived.Test.YtiiloioobmkicaaDoorRetBB
namespace Go.Proofs.YtiiloioobmkicaaDoor
set_option maxRecDepth 100000
open Go Go.RowKit Go.Deep

def totV (p l r : Int) (R : List (List Int)) : Bool := isRl p l r R && decide ((rref p (firsts l.toNat R) l.toNat).length = l.toNat)
def sgV (p l r : Int) (R : List (List Int)) : Bool := isRl p l r R && singB l.toNat R
theorem tot_no {p l r : Int} {R : List (List Int)} (h : isRl p l r R = false) : totV p l r R = false := by simp [totV, h]
theorem sg_no {p l r : Int} {R : List (List Int)} (h : isRl p l r R = false) : sgV p l r R = false := by simp [sgV, h]
theorem tot_yes {p : Int} {a b : Nat} {R : List (List Int)} (h : isRl p a b R = true) : totV p a b R = decide ((rref p (firsts a R) a).length = a) := by simp [totV, h]
theorem sg_yes {p : Int} {a b : Nat} {R : List (List Int)} (h : isRl p a b R = true) : sgV p a b R = singB a R := by simp [sgV, h]
theorem sg_yes' {p : Int} {a b : Nat} {R : List (List Int)} (h : isRl p a b R = true) : sgV p a b R = decide ((rref p (firsts a R) a).length = R.length) := by
  rw [sg_yes h]
  obtain ⟨hf, a', b', h1, h2, -, -, hred⟩ := isRl_parts h
  obtain rfl : a = a' := by omega
  obtain rfl : b = b' := by omega
  exact (single_eq hf hred).symm
end Go.Proofs.YtiiloioobmkicaaDoor
