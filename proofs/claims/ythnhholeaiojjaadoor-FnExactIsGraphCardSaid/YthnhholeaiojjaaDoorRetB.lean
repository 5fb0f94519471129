/- What a call that returns these results leaves. -/
import Derived.Test.YthnhholeaiojjaaDoorLeaf
namespace Go.Proofs.YthnhholeaiojjaaDoor
set_option maxRecDepth 100000
open Go Go.RowKit Go.Deep

def IRetB (w : World) (r0_0 : Bool) (e : Ending) (w' : World) : Prop := e = .returned (.bool r0_0) ∧ Below w.heap.size w w'
def SRetB (w : World) (r0_0 : Bool) (e : Ending) (w' : World) : Prop := e = .returned (.bool r0_0) ∧ Below w.heap.size w w'
end Go.Proofs.YthnhholeaiojjaaDoor
