/- What a call that returns these results leaves. -/
import Derived.Test.YtgncgihneemmcaaDoorLeaf
namespace Go.Proofs.YtgncgihneemmcaaDoor
set_option maxRecDepth 100000
open Go Go.RowKit Go.Deep

def IRetMatrixMatrixB (w : World) (r0_0 : Int) (r0_1 : List (List Int)) (r1_0 : Int) (r1_1 : List (List Int)) (r2_0 : Bool) (e : Ending) (w' : World) : Prop := ∃ (vr0_1 : Value) (vr1_1 : Value) (Sr0_1 : Nat → Prop) (Sr1_1 : Nat → Prop), e = .returned (.tuple #[.agg #[.int .i64 r0_0, vr0_1], .agg #[.int .i64 r1_0, vr1_1], .bool r2_0]) ∧ Below w.heap.size w w' ∧ (∀ k, Sr0_1 k → w.heap.size ≤ k) ∧ (∀ k, Sr1_1 k → w.heap.size ≤ k) ∧ (∀ k, Sr0_1 k → Sr1_1 k → False) ∧ OwnG w' Sr0_1 vr0_1 r0_1 ∧ OwnG w' Sr1_1 vr1_1 r1_1
def SRetMatrixMatrixB (w : World) (r0_0 : Int) (r0_1 : List (List Int)) (r1_0 : Int) (r1_1 : List (List Int)) (r2_0 : Bool) (e : Ending) (w' : World) : Prop := ∃ (vr0_1 : Value) (vr1_1 : Value), e = .returned (.tuple #[.agg #[.int .i64 r0_0, vr0_1], .agg #[.int .i64 r1_0, vr1_1], .bool r2_0]) ∧ Below w.heap.size w w' ∧ OwnG w' (fun b => w.heap.size ≤ b) vr0_1 r0_1 ∧ OwnG w' (fun b => w.heap.size ≤ b) vr1_1 r1_1
end Go.Proofs.YtgncgihneemmcaaDoor
