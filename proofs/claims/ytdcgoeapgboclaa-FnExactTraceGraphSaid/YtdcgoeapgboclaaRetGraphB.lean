/- What a call that returns these results leaves. -/
import Derived.Test.YtdcgoeapgboclaaLeafM
namespace Go.Proofs.Ytdcgoeapgboclaa
set_option maxRecDepth 100000
open Go Go.RowKit Go.Deep

def IRetGraphB (w : World) (r0_0 : Int) (r0_1 : List Ed) (r0_2 : List Int) (r0_3 : List Int) (r1_0 : Bool) (e : Ending) (w' : World) : Prop := ∃ (vr0_1 : Value) (vr0_2 : Value) (vr0_3 : Value) (Sr0_1 : Nat → Prop) (Sr0_2 : Nat → Prop) (Sr0_3 : Nat → Prop), e = .returned (.tuple #[.agg #[.int .i64 r0_0, vr0_1, vr0_2, vr0_3], .bool r1_0]) ∧ Below w.heap.size w w' ∧ (∀ k, Sr0_1 k → w.heap.size ≤ k) ∧ (∀ k, Sr0_2 k → w.heap.size ≤ k) ∧ (∀ k, Sr0_3 k → w.heap.size ≤ k) ∧ (∀ k, Sr0_1 k → Sr0_2 k → False) ∧ (∀ k, Sr0_1 k → Sr0_3 k → False) ∧ (∀ k, Sr0_2 k → Sr0_3 k → False) ∧ OwnE w' Sr0_1 vr0_1 r0_1 ∧ OwnR w' Sr0_2 vr0_2 r0_2 ∧ OwnR w' Sr0_3 vr0_3 r0_3
def SRetGraphB (w : World) (r0_0 : Int) (r0_1 : List Ed) (r0_2 : List Int) (r0_3 : List Int) (r1_0 : Bool) (e : Ending) (w' : World) : Prop := ∃ (vr0_1 : Value) (vr0_2 : Value) (vr0_3 : Value), e = .returned (.tuple #[.agg #[.int .i64 r0_0, vr0_1, vr0_2, vr0_3], .bool r1_0]) ∧ Below w.heap.size w w' ∧ OwnE w' (fun b => w.heap.size ≤ b) vr0_1 r0_1 ∧ OwnR w' (fun b => w.heap.size ≤ b) vr0_2 r0_2 ∧ OwnR w' (fun b => w.heap.size ≤ b) vr0_3 r0_3
end Go.Proofs.Ytdcgoeapgboclaa
