/- What a call that returns these results leaves. -/
import Derived.Test.YtdcgoeapgboclaaLeaf
namespace Go.Proofs.Ytdcgoeapgboclaa
set_option maxRecDepth 100000
open Go Go.RowKit Go.Deep

def IRetIIB (w : World) (r0_0 : Int) (r1_0 : Int) (r2_0 : Bool) (e : Ending) (w' : World) : Prop := e = .returned (.tuple #[.int .i64 r0_0, .int .i64 r1_0, .bool r2_0]) ∧ Below w.heap.size w w'
def SRetIIB (w : World) (r0_0 : Int) (r1_0 : Int) (r2_0 : Bool) (e : Ending) (w' : World) : Prop := e = .returned (.tuple #[.int .i64 r0_0, .int .i64 r1_0, .bool r2_0]) ∧ Below w.heap.size w w'
end Go.Proofs.Ytdcgoeapgboclaa
