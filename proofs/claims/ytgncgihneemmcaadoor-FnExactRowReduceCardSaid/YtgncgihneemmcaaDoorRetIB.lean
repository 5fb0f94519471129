/- What a call that returns these results leaves. -/
import Derived.Test.YtgncgihneemmcaaDoorLeaf
namespace Go.Proofs.YtgncgihneemmcaaDoor
set_option maxRecDepth 100000
open Go Go.RowKit Go.Deep

def IRetIB (w : World) (r0_0 : Int) (r1_0 : Bool) (e : Ending) (w' : World) : Prop := e = .returned (.tuple #[.int .i64 r0_0, .bool r1_0]) ∧ Below w.heap.size w w'
def SRetIB (w : World) (r0_0 : Int) (r1_0 : Bool) (e : Ending) (w' : World) : Prop := e = .returned (.tuple #[.int .i64 r0_0, .bool r1_0]) ∧ Below w.heap.size w w'
end Go.Proofs.YtgncgihneemmcaaDoor
