/- What a call that returns these results leaves. -/
import Derived.Test.YtiiloioobmkicaaDoorLeaf
namespace Go.Proofs.YtiiloioobmkicaaDoor
set_option maxRecDepth 100000
open Go Go.RowKit Go.Deep

def IRetBB (w : World) (r0_0 : Bool) (r1_0 : Bool) (e : Ending) (w' : World) : Prop := e = .returned (.tuple #[.bool r0_0, .bool r1_0]) ∧ Below w.heap.size w w'
def SRetBB (w : World) (r0_0 : Bool) (r1_0 : Bool) (e : Ending) (w' : World) : Prop := e = .returned (.tuple #[.bool r0_0, .bool r1_0]) ∧ Below w.heap.size w w'
end Go.Proofs.YtiiloioobmkicaaDoor
