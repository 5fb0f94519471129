/- The program's reduction, whole. -/
import Derived.Test.YthnhholeaiojjaaDoorRdA
import Derived.Test.YthnhholeaiojjaaDoorMem
import Derived.Test.YthnhholeaiojjaaDoorMxB
namespace Go.Proofs.YthnhholeaiojjaaDoor
set_option maxRecDepth 100000
open Go Go.RowKit Go.Deep

def ints (l : List Nat) : List Int := l.map fun (n : Nat) => (n : Int)
theorem icells_ints (l : List Nat) : icells (ints l) = leads l := by simp [icells, ints, leads]
theorem ints_len (l : List Nat) : (ints l).length = l.length := by simp [ints]
/-- What the reduction returns: the reduced rows in memory of the call's own, the rows beside written in place. -/
def MadeRd (w : World) (St : Nat → Prop) (p : Int) (vt : Value) (n : Nat) (s : Red) (e : Ending) (w' : World) : Prop :=
  ∃ Aa ca Al cl, e = .returned (.agg #[.int .i64 p, .slice Aa n ca, vt, .slice Al s.lead.length cl, .int .i64 s.fac]) ∧ Touch St w w' ∧ OwG w' tI tR (fun k => w.heap.size ≤ k) (.slice Aa n ca) s.a ∧ OwG w' tI tR St vt s.t ∧
    OwR w' tI (fun k => w.heap.size ≤ k) (.slice Al s.lead.length cl) (ints s.lead) ∧ (∃ ga, Aa = some ⟨ga, 0, none⟩) ∧ n ≤ ca ∧ ca ≤ 1000000
theorem owR_lead {w : World} {S : Nat → Prop} {v : Value} {l : List Nat} (h : w.ownsRow 0 tI 1 v l.length (leads l)) (hs : ∀ k, v.ownBlock = some k → S k) : OwR w tI S v (ints l) := by
  refine owR_of_owns (base := 0) ?_ hs
  rw [icells_ints, ints_len]
  exact h
end Go.Proofs.YthnhholeaiojjaaDoor
