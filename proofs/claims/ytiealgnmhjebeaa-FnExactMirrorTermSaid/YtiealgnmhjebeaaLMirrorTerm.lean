/- The law FnExactMirrorTerm: for every input it returns true, and the arguments read behind the call as they did; no condition on the input. -/
import Derived.Test.YtiealgnmhjebeaaLawN
import Derived.Test.YtiealgnmhjebeaaHMirrorTerm
import Derived.Test.YtiealgnmhjebeaaMiS
import Derived.Test.YtiealgnmhjebeaaRows
import Derived.Test.YtiealgnmhjebeaaChecked
namespace Go.Proofs.Ytiealgnmhjebeaa
set_option maxRecDepth 100000
open Go Go.RowKit Go.WideShapes Go.ChangeShapes Go.Deep

theorem law_MirrorTerm (w : World) (u0 : Value) (x0 : List Nd) (hl0 : LfN w w.heap.size u0 x0) :
    Calls Try.prog 3 #[.agg #[u0]] w fun e w' => e = .returned (.bool true) ∧ Below w.heap.size w w' :=
  harness_MirrorTerm x0 u0 w _ _ hl0 (fun w B v h1 h2 h3 => spec_MirrorTerm w B v x0 h1 h2 h3) (fun w B v h1 h2 h3 => impl_MirrorTerm w B v x0 h1 h2 h3)

theorem own0 : ownKnob Try.prog.godebug = none := by kernel_rfl
theorem fnExactMirrorTerm_fn {H : Type} (ds gs : List (DataW H)) (h1 : ds.length = Try.f3.params.toList.length) (h2 : gs.length = Rows.fnExactMirrorTermSpec.vars.length) : Rows.fnExactMirrorTermSpec.fn H (ds ++ gs) = { results := [.lit (.bool true)], args := ds, vars := gs } := by
  rw [Try.params3] at h1
  match ds, gs, h1, h2 with
  | [_], [], _, _ => rfl
set_option maxRecDepth 100000 in
theorem fnExactMirrorTerm_lifted (os : Os) (started : os.Started) (H : Type) (enc : TypeId × Value → H) :
    ReturnsInHanded {} Try.checked os 3 .any (Rows.fnExactMirrorTermSpec.pre6 enc Try.prog Try.f3 Rows.fnExactMirrorTermRow.domain false) (Rows.fnExactMirrorTermSpec.post enc Try.prog Try.f3 false true false false) := by
  refine returnsInHanded_of_change (C := Try.checked) own0 started (by kernel_rfl) Try.func3
    (ChangeSpec.witness6 (enc := enc) (C := Try.checked) false ⟨#[], #[.agg #[.slice none 0 0]], []⟩ 8 (by kernel_rfl) (by kernel_rfl) (by kernel_rfl) (by kernel_rfl)) ?_
  intro W base args ds gs before hval0 hW hcnd _
  have hval : ∀ (j : Nat) t v, Try.f3.params[j]? = some t → args[j]? = some v → Value.okWide Try.prog W .any base t v := hval0
  have hW' := hW
  obtain ⟨p, q, hA0, hV0, rfl, hfz, hnd⟩ := hW
  replace hA0 : DataW.TrodAll enc Try.prog W 0 (fun _ => true) true Try.f3.params.toList args.toList ds p := hA0
  have hR0 := Rest.of (f := Try.f3) hval hA0 (fun x hx => hW'.lt x hx)
  rw [Try.params3] at hR0
  obtain ⟨u0, x0, l0, e0, hl0, hR1⟩ := hR0.sTerm
  have e1 := hR1.nil
  have hargs := args_eq e0
  rw [e1] at hargs
  subst hargs
  refine (law_MirrorTerm W u0 x0 hl0).mono fun e W' ⟨he, hb⟩ => ?_
  subst he
  exact ⟨_, rfl, post_true (by kernel_rfl) (by kernel_rfl) (by kernel_rfl) rfl Try.underlying4 fnExactMirrorTerm_fn hW' hb⟩
theorem fnExactMirrorTerm_holds : Rows.FnExactMirrorTermSaid :=
  OpenClaim.holds_of_wide 3 Try.f3 rfl rfl rfl rfl rfl rfl rfl ⟨rfl, rfl, rfl, rfl, rfl⟩ rfl rfl rfl rfl rfl (by kernel_rfl) Try.func3 (by kernel_rfl)
    (of_decide_eq_true (by kernel_rfl)) (by unfold Func.isWrapper; first | (rw [if_pos (by decide +kernel)]; kernel_rfl) | (rw [if_neg (by decide +kernel)]; exact ⟨rfl, rfl⟩))
    (fun os started H enc _ => fnExactMirrorTerm_lifted os started H enc)
end Go.Proofs.Ytiealgnmhjebeaa
