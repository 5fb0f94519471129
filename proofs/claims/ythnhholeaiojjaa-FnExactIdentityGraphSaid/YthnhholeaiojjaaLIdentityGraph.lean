/- The law FnExactIdentityGraph: for every input it returns true, and the arguments read behind the call as they did; no condition on the input. -/
import Derived.Test.YthnhholeaiojjaaLawE
import Derived.Test.YthnhholeaiojjaaHIdentityGraph
import Derived.Test.YthnhholeaiojjaaIdG
import Derived.Test.YthnhholeaiojjaaRows
import Derived.Test.YthnhholeaiojjaaChecked
namespace Go.Proofs.Ythnhholeaiojjaa
set_option maxRecDepth 100000
open Go Go.RowKit Go.WideShapes Go.ChangeShapes Go.Deep

theorem law_IdentityGraph (w : World) (n0 : Int) (_hl0 : Bi n0) :
    Calls Try.prog 3 #[.int .i64 n0] w fun e w' => e = .returned (.bool true) ∧ Below w.heap.size w w' :=
  harness_IdentityGraph n0 w _ _ _ _ _ (fun w => spec_IdentityGraph w n0) (fun w => impl_IdentityGraph w n0)

theorem own0 : ownKnob Try.prog.godebug = none := by kernel_rfl
theorem fnExactIdentityGraph_fn {H : Type} (ds gs : List (DataW H)) (h1 : ds.length = Try.f3.params.toList.length) (h2 : gs.length = Rows.fnExactIdentityGraphSpec.vars.length) : Rows.fnExactIdentityGraphSpec.fn H (ds ++ gs) = { results := [.lit (.bool true)], args := ds, vars := gs } := by
  rw [Try.params3] at h1
  match ds, gs, h1, h2 with
  | [_], [], _, _ => rfl
set_option maxRecDepth 100000 in
theorem fnExactIdentityGraph_lifted (os : Os) (started : os.Started) (H : Type) (enc : TypeId × Value → H) :
    ReturnsInHanded {} Try.checked os 3 .any (Rows.fnExactIdentityGraphSpec.pre6 enc Try.prog Try.f3 Rows.fnExactIdentityGraphRow.domain false) (Rows.fnExactIdentityGraphSpec.post enc Try.prog Try.f3 false true false false) := by
  refine returnsInHanded_of_change (C := Try.checked) own0 started (by kernel_rfl) Try.func3
    (ChangeSpec.witness6 (enc := enc) (C := Try.checked) false ⟨#[], #[.int .i64 0], []⟩ 8 (by kernel_rfl) (by kernel_rfl) (by kernel_rfl) (by kernel_rfl)) ?_
  intro W base args ds gs before hval0 hW hcnd _
  have hval : ∀ (j : Nat) t v, Try.f3.params[j]? = some t → args[j]? = some v → Value.okWide Try.prog W .any base t v := hval0
  have hW' := hW
  obtain ⟨p, q, hA0, hV0, rfl, hfz, hnd⟩ := hW
  replace hA0 : DataW.TrodAll enc Try.prog W 0 (fun _ => true) true Try.f3.params.toList args.toList ds p := hA0
  have hR0 := Rest.of (f := Try.f3) hval hA0 (fun x hx => hW'.lt x hx)
  rw [Try.params3] at hR0
  obtain ⟨n0, l0, e0, hl0, hR1⟩ := hR0.intB
  have e1 := hR1.nil
  have hargs := args_eq e0
  rw [e1] at hargs
  subst hargs
  refine (law_IdentityGraph W n0 hl0).mono fun e W' ⟨he, hb⟩ => ?_
  subst he
  exact ⟨_, rfl, post_true (by kernel_rfl) (by kernel_rfl) (by kernel_rfl) rfl Try.underlying4 fnExactIdentityGraph_fn hW' hb⟩
theorem fnExactIdentityGraph_holds : Rows.FnExactIdentityGraphSaid :=
  OpenClaim.holds_of_wide 3 Try.f3 rfl rfl rfl rfl rfl rfl rfl ⟨rfl, rfl, rfl, rfl, rfl⟩ rfl rfl rfl rfl rfl (by kernel_rfl) Try.func3 (by kernel_rfl)
    (of_decide_eq_true (by kernel_rfl)) (by unfold Func.isWrapper; first | (rw [if_pos (by decide +kernel)]; kernel_rfl) | (rw [if_neg (by decide +kernel)]; exact ⟨rfl, rfl⟩))
    (fun os started H enc _ => fnExactIdentityGraph_lifted os started H enc)
end Go.Proofs.Ythnhholeaiojjaa
