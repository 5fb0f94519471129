/- What a call that returns these results leaves. -/
import Derived.Test.YtgncgihneemmcaaDoorLeaf
namespace Go.Proofs.YtgncgihneemmcaaDoor
set_option maxRecDepth 100000
open Go Go.RowKit Go.Deep

def IRetGB (w : World) (r0_0 : List (List Int)) (r1_0 : Bool) (e : Ending) (w' : World) : Prop := ∃ (vr0_0 : Value), e = .returned (.tuple #[vr0_0, .bool r1_0]) ∧ Below w.heap.size w w' ∧ OwnG w' (fun b => w.heap.size ≤ b) vr0_0 r0_0
def SRetGB (w : World) (r0_0 : List (List Int)) (r1_0 : Bool) (e : Ending) (w' : World) : Prop := ∃ (vr0_0 : Value), e = .returned (.tuple #[vr0_0, .bool r1_0]) ∧ Below w.heap.size w w' ∧ OwnG w' (fun b => w.heap.size ≤ b) vr0_0 r0_0
end Go.Proofs.YtgncgihneemmcaaDoor
