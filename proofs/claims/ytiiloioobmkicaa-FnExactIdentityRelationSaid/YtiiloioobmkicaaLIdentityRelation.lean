/- The law FnExactIdentityRelation: for every input it returns true, and the argument reads behind the call as it did; no condition on the input. -/
import Derived.Test.YtiiloioobmkicaaLawG
import Derived.Test.YtiiloioobmkicaaHIdentityRelation
import Derived.Test.YtiiloioobmkicaaIdT
import Derived.Test.YtiiloioobmkicaaRows
import Derived.Test.YtiiloioobmkicaaChecked
namespace Go.Proofs.Ytiiloioobmkicaa
set_option maxRecDepth 100000
open Go Go.RowKit Go.WideShapes Go.ChangeShapes Go.Deep

theorem law_IdentityRelation (n : Int) (w : World) (hb : Bi n) :
    Calls Try.prog 3 #[.int .i64 n] w fun e w' => e = .returned (.bool true) ∧ Below w.heap.size w w' :=
  harness_IdentityRelation n w _ _ _ _ (fun w => spec_IdentityRelation w n) (fun w => impl_IdentityRelation w n hb)

theorem own0 : ownKnob Try.prog.godebug = none := by kernel_rfl
theorem fnExactIdentityRelation_fn {H : Type} (ds gs : List (DataW H)) (h1 : ds.length = Try.f3.params.toList.length) (h2 : gs.length = Rows.fnExactIdentityRelationSpec.vars.length) : Rows.fnExactIdentityRelationSpec.fn H (ds ++ gs) = { results := [.lit (.bool true)], args := ds, vars := gs } := by
  rw [Try.params3] at h1
  match ds, gs, h1, h2 with
  | [_], [], _, _ => rfl
set_option maxRecDepth 100000 in
theorem fnExactIdentityRelation_lifted (os : Os) (started : os.Started) (H : Type) (enc : TypeId × Value → H) :
    ReturnsInHanded {} Try.checked os 3 .any (Rows.fnExactIdentityRelationSpec.pre6 enc Try.prog Try.f3 Rows.fnExactIdentityRelationRow.domain false) (Rows.fnExactIdentityRelationSpec.post enc Try.prog Try.f3 false true false false) := by
  refine returnsInHanded_of_change (C := Try.checked) own0 started (by kernel_rfl) Try.func3
    (ChangeSpec.witness6 (enc := enc) (C := Try.checked) false ⟨#[], #[.int .i64 0], []⟩ 8 (by kernel_rfl) (by kernel_rfl) (by kernel_rfl) (by kernel_rfl)) ?_
  intro W base args ds gs before hval0 hW hcnd _
  have hval : ∀ (j : Nat) t v, Try.f3.params[j]? = some t → args[j]? = some v → Value.okWide Try.prog W .any base t v := hval0
  have hW' := hW
  obtain ⟨p, q, hA0, hV0, rfl, hfz, hnd⟩ := hW
  replace hA0 : DataW.TrodAll enc Try.prog W 0 (fun _ => true) true Try.f3.params.toList args.toList ds p := hA0
  have hR0 := Rest.of (f := Try.f3) hval hA0 (fun x hx => hW'.lt x hx)
  rw [Try.params3] at hR0
  obtain ⟨n0_0, l0, e0, hb0, hR1⟩ := hR0.intB
  have e1 := hR1.nil
  have hargs := args_eq e0
  rw [e1] at hargs
  subst hargs
  refine (law_IdentityRelation n0_0 W hb0).mono fun e W' ⟨he, hb⟩ => ?_
  subst he
  exact ⟨_, rfl, post_true (by kernel_rfl) (by kernel_rfl) (by kernel_rfl) rfl Try.underlying4 fnExactIdentityRelation_fn hW' hb⟩
theorem fnExactIdentityRelation_holds : Rows.FnExactIdentityRelationSaid :=
  OpenClaim.holds_of_wide 3 Try.f3 rfl rfl rfl rfl rfl rfl rfl ⟨rfl, rfl, rfl, rfl, rfl⟩ rfl rfl rfl rfl rfl (by kernel_rfl) Try.func3 (by kernel_rfl)
    (of_decide_eq_true (by kernel_rfl)) (by unfold Func.isWrapper; first | (rw [if_pos (by decide +kernel)]; kernel_rfl) | (rw [if_neg (by decide +kernel)]; exact ⟨rfl, rfl⟩))
    (fun os started H enc _ => fnExactIdentityRelation_lifted os started H enc)
end Go.Proofs.Ytiiloioobmkicaa
