/- The law FnExactMergeWires: for every input it returns true, and the arguments read behind the call as they did; no condition on the input. -/
import Derived.Test.YtiealgnmhjebeaaLawE
import Derived.Test.YtiealgnmhjebeaaHMergeWires
import Derived.Test.YtiealgnmhjebeaaGlS
import Derived.Test.YtiealgnmhjebeaaMwG
import Derived.Test.YtiealgnmhjebeaaRows
import Derived.Test.YtiealgnmhjebeaaChecked
namespace Go.Proofs.Ytiealgnmhjebeaa
set_option maxRecDepth 100000
open Go Go.RowKit Go.WideShapes Go.ChangeShapes Go.Deep

theorem law_MergeWires (w : World) (d0 : Int) (v0a : Value) (x0a : List Ed) (v0b : Value) (x0b : List Int) (v0c : Value) (x0c : List Int) (hl0a : LfE w w.heap.size v0a x0a) (hl0b : LfR w w.heap.size v0b x0b) (hl0c : LfR w w.heap.size v0c x0c) (n1 : Int) (hl1 : Bi n1) (n2 : Int) (hl2 : Bi n2) :
    Calls Try.prog 4 #[.agg #[.int .i64 d0, v0a, v0b, v0c], .int .i64 n1, .int .i64 n2] w fun e w' => e = .returned (.bool true) ∧ Below w.heap.size w w' :=
  harness_MergeWires d0 x0a x0b x0c n1 n2 v0a v0b v0c w _ _ _ _ _ hl0a hl0b hl0c (fun w B vE vI vO a b c d e f g => spec_MergeWires w B vE vI vO d0 x0a x0b x0c n1 n2 a b c hl1 hl2 d e f g) (fun w B vE vI vO a b c d e f g => impl_MergeWires w B vE vI vO d0 x0a x0b x0c n1 n2 a b c hl1 hl2 d e f g)

theorem own0 : ownKnob Try.prog.godebug = none := by kernel_rfl
theorem fnExactMergeWires_fn {H : Type} (ds gs : List (DataW H)) (h1 : ds.length = Try.f4.params.toList.length) (h2 : gs.length = Rows.fnExactMergeWiresSpec.vars.length) : Rows.fnExactMergeWiresSpec.fn H (ds ++ gs) = { results := [.lit (.bool true)], args := ds, vars := gs } := by
  rw [Try.params4] at h1
  match ds, gs, h1, h2 with
  | [_, _, _], [], _, _ => rfl
set_option maxRecDepth 100000 in
theorem fnExactMergeWires_lifted (os : Os) (started : os.Started) (H : Type) (enc : TypeId × Value → H) :
    ReturnsInHanded {} Try.checked os 4 .any (Rows.fnExactMergeWiresSpec.pre6 enc Try.prog Try.f4 Rows.fnExactMergeWiresRow.domain false) (Rows.fnExactMergeWiresSpec.post enc Try.prog Try.f4 false true false false) := by
  refine returnsInHanded_of_change (C := Try.checked) own0 started (by kernel_rfl) Try.func4
    (ChangeSpec.witness6 (enc := enc) (C := Try.checked) false ⟨#[], #[.agg #[.int .i64 0, .slice none 0 0, .slice none 0 0, .slice none 0 0], .int .i64 0, .int .i64 0], []⟩ 8 (by kernel_rfl) (by kernel_rfl) (by kernel_rfl) (by kernel_rfl)) ?_
  intro W base args ds gs before hval0 hW hcnd _
  have hval : ∀ (j : Nat) t v, Try.f4.params[j]? = some t → args[j]? = some v → Value.okWide Try.prog W .any base t v := hval0
  have hW' := hW
  obtain ⟨p, q, hA0, hV0, rfl, hfz, hnd⟩ := hW
  replace hA0 : DataW.TrodAll enc Try.prog W 0 (fun _ => true) true Try.f4.params.toList args.toList ds p := hA0
  have hR0 := Rest.of (f := Try.f4) hval hA0 (fun x hx => hW'.lt x hx)
  rw [Try.params4] at hR0
  obtain ⟨d0, v0a, x0a, v0b, x0b, v0c, x0c, l0, e0, hl0a, hl0b, hl0c, hR1⟩ := hR0.sGraph
  obtain ⟨n1, l1, e1, hl1, hR2⟩ := hR1.intB
  obtain ⟨n2, l2, e2, hl2, hR3⟩ := hR2.intB
  have e3 := hR3.nil
  subst e3
  subst e2
  subst e1
  have hargs := args_eq e0
  subst hargs
  refine (law_MergeWires W d0 v0a x0a v0b x0b v0c x0c hl0a hl0b hl0c n1 hl1 n2 hl2).mono fun e W' ⟨he, hb⟩ => ?_
  subst he
  exact ⟨_, rfl, post_true (by kernel_rfl) (by kernel_rfl) (by kernel_rfl) rfl Try.underlying4 fnExactMergeWires_fn hW' hb⟩
theorem fnExactMergeWires_holds : Rows.FnExactMergeWiresSaid :=
  OpenClaim.holds_of_wide 4 Try.f4 rfl rfl rfl rfl rfl rfl rfl ⟨rfl, rfl, rfl, rfl, rfl⟩ rfl rfl rfl rfl rfl (by kernel_rfl) Try.func4 (by kernel_rfl)
    (of_decide_eq_true (by kernel_rfl)) (by unfold Func.isWrapper; first | (rw [if_pos (by decide +kernel)]; kernel_rfl) | (rw [if_neg (by decide +kernel)]; exact ⟨rfl, rfl⟩))
    (fun os started H enc _ => fnExactMergeWires_lifted os started H enc)
end Go.Proofs.Ytiealgnmhjebeaa
