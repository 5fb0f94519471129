/- What a call that returns these results leaves. -/
import Derived.Test.YtiealgnmhjebeaaLeaf
namespace Go.Proofs.Ytiealgnmhjebeaa
set_option maxRecDepth 100000
open Go Go.RowKit Go.Deep

def IRetRB (w : World) (r0_0 : List Int) (r1_0 : Bool) (e : Ending) (w' : World) : Prop := ∃ (vr0_0 : Value), e = .returned (.tuple #[vr0_0, .bool r1_0]) ∧ Below w.heap.size w w' ∧ OwnR w' (fun b => w.heap.size ≤ b) vr0_0 r0_0
def SRetRB (w : World) (r0_0 : List Int) (r1_0 : Bool) (e : Ending) (w' : World) : Prop := ∃ (vr0_0 : Value), e = .returned (.tuple #[vr0_0, .bool r1_0]) ∧ Below w.heap.size w w' ∧ OwnR w' (fun b => w.heap.size ≤ b) vr0_0 r0_0
end Go.Proofs.Ytiealgnmhjebeaa
