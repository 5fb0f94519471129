/- What a call that returns these results leaves. -/
import Derived.Test.YthnhholeaiojjaaDoorLeaf
namespace Go.Proofs.YthnhholeaiojjaaDoor
set_option maxRecDepth 100000
open Go Go.RowKit Go.Deep

def IRetRelationB (w : World) (r0_0 : Int) (r0_1 : Int) (r0_2 : List (List Int)) (r1_0 : Bool) (e : Ending) (w' : World) : Prop := ∃ (vr0_2 : Value), e = .returned (.tuple #[.agg #[.int .i64 r0_0, .int .i64 r0_1, vr0_2], .bool r1_0]) ∧ Below w.heap.size w w' ∧ OwnG w' (fun b => w.heap.size ≤ b) vr0_2 r0_2
def SRetRelationB (w : World) (r0_0 : Int) (r0_1 : Int) (r0_2 : List (List Int)) (r1_0 : Bool) (e : Ending) (w' : World) : Prop := ∃ (vr0_2 : Value), e = .returned (.tuple #[.agg #[.int .i64 r0_0, .int .i64 r0_1, vr0_2], .bool r1_0]) ∧ Below w.heap.size w w' ∧ OwnG w' (fun b => w.heap.size ≤ b) vr0_2 r0_2
end Go.Proofs.YthnhholeaiojjaaDoor
