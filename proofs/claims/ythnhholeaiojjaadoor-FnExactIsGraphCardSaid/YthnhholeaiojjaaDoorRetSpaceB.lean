/- What a call that returns these results leaves. -/
import Derived.Test.YthnhholeaiojjaaDoorLeaf
namespace Go.Proofs.YthnhholeaiojjaaDoor
set_option maxRecDepth 100000
open Go Go.RowKit Go.Deep

def IRetSpaceB (w : World) (r0_0 : Int) (r0_1 : List (List Int)) (r1_0 : Bool) (e : Ending) (w' : World) : Prop := ∃ (vr0_1 : Value), e = .returned (.tuple #[.agg #[.int .i64 r0_0, vr0_1], .bool r1_0]) ∧ Below w.heap.size w w' ∧ OwnG w' (fun b => w.heap.size ≤ b) vr0_1 r0_1
def SRetSpaceB (w : World) (r0_0 : Int) (r0_1 : List (List Int)) (r1_0 : Bool) (e : Ending) (w' : World) : Prop := ∃ (vr0_1 : Value), e = .returned (.tuple #[.agg #[.int .i64 r0_0, vr0_1], .bool r1_0]) ∧ Below w.heap.size w w' ∧ OwnG w' (fun b => w.heap.size ≤ b) vr0_1 r0_1
end Go.Proofs.YthnhholeaiojjaaDoor
