/- A relation whose rows begin anywhere in their blocks is marked. -/
import Derived.Test.YtdjgkcnhmfkjoaaDoorLeafP
import Derived.Test.YtdjgkcnhmfkjoaaDoorTRelation
namespace Go.Proofs.YtdjgkcnhmfkjoaaDoor
set_option maxRecDepth 100000
open Go Go.RowKit Go.Deep

set_option maxHeartbeats 800000 in
theorem markRelationP_ok (w : World) (d0 : Int) (d1 : Int) (d2 : List (List Int)) (v2 : Value) (S2 : Nat → Prop) (k : Int) (ho2 : OwnP w S2 v2 d2) (h0 : 0 ≤ k) (hl : k + ((cntG d2 : Nat) : Int) ≤ 9223372036854775807) :
    Calls Tryd.prog 9 #[.agg #[.int .i64 d0, .int .i64 d1, v2], .int .i64 k] w fun e w' => e = .returned (.int .i64 (k + ((cntG d2 : Nat) : Int))) ∧ Touch (fun b => S2 b) w w' ∧ OwnP w' S2 v2 (mkG k d2) := by
  obtain ⟨A2, cp2, rfl⟩ := ho2.len
  have HOm2 := Lib.hid (ho2.mono (T := fun b => S2 b ∧ b < w.heap.size) (fun k a b => ⟨a, b⟩))
  clear ho2
  have HSm2 : Hid (∀ k, S2 k ∧ k < w.heap.size → 0 ≤ k ∧ k < w.heap.size) := Lib.hid (fun k hk => ⟨Nat.zero_le _, hk.2⟩)
  have HTT : Hid (Touch (fun b => S2 b) w w) := Lib.hid (Touch.refl _ _)
  have HBN := Lib.hid (Below.refl 0 w)
  go_enter Tryd.func9, Tryd.ntmps9
  go_wp2_with fail
  refine (markedP_any _ (fun b => S2 b ∧ b < w.heap.size) _ d2 k ?_ (by omega) (by omega)).mono ?_
  · exact HOm2.out.blocks (fun k hk _ => blk_alloc_lt _ _ _ hk.2)
  rintro e w2 ⟨h2, t, om⟩
  obtain ⟨z2, HZ2, hz2a, hz2b, rfl⟩ : ∃ z : Int, Hid (z = k + (cntG d2 : Nat)) ∧ 0 ≤ z ∧ z + (0) ≤ 9223372036854775807 ∧ e = .returned (.int .i64 z) := ⟨_, Lib.hid rfl, by omega, by omega, h2⟩
  have hp0 : w2.cell? ⟨w.heap.size, 0, none⟩ = some (.int .i64 d0) := by have := t.cellAt (p := ⟨w.heap.size, 0, none⟩) (by simp) (fun h => by have := h.2; simp at this); simpa [go_sem] using this
  have hp1 : w2.cell? ⟨w.heap.size, 1, none⟩ = some (.int .i64 d1) := by have := t.cellAt (p := ⟨w.heap.size, 1, none⟩) (by simp) (fun h => by have := h.2; simp at this); simpa [go_sem] using this
  have hp2 : w2.cell? ⟨w.heap.size, 2, none⟩ = some (.slice A2 d2.length cp2) := by have := t.cellAt (p := ⟨w.heap.size, 2, none⟩) (by simp) (fun h => by have := h.2; simp at this); simpa [go_sem] using this
  have hlp : w.heap.size < w2.heap.size := by have := t.size; simp at this; omega
  replace HTT := Lib.hid ((HTT.out.alloc _).trans (t.mono (fun k _ h => h.1)))
  replace HOm2 := Lib.hid om
  clear t om h2
  go_wp2
  go_ret
  have hsum : z2 = k + ((cntG d2 : Nat) : Int) := by have := HZ2.out; omega
  refine ⟨congrArg (fun z : Int => Ending.returned (Value.int IntKind.i64 z)) hsum, HTT.out, ?_⟩
  · exact HOm2.out.mono fun k h _ => h.1


end Go.Proofs.YtdjgkcnhmfkjoaaDoor
