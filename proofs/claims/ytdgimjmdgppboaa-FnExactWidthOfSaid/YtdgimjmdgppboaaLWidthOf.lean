/- The law FnExactWidthOf: for every input it returns true, and the arguments read behind the call as they did; no condition on the input. -/
import Derived.Test.YtdgimjmdgppboaaLawN
import Derived.Test.YtdgimjmdgppboaaHWidthOf
import Derived.Test.YtdgimjmdgppboaaExT
import Derived.Test.YtdgimjmdgppboaaRows
import Derived.Test.YtdgimjmdgppboaaChecked
namespace Go.Proofs.Ytdgimjmdgppboaa
set_option maxRecDepth 100000
open Go Go.RowKit Go.WideShapes Go.ChangeShapes Go.Deep

theorem law_WidthOf (w : World) (u0 : Value) (x0 : List Nd) (hl0 : LfN w w.heap.size u0 x0) :
    Calls Try.prog 4 #[.agg #[u0]] w fun e w' => e = .returned (.bool true) ∧ Below w.heap.size w w' :=
  harness_WidthOf x0 u0 w _ _ _ hl0 (fun w B v h1 h2 h3 => spec_WidthOf w B v x0 h1 h2 h3) (fun w B v h1 h2 h3 => impl_WidthOf w B v x0 h1 h2 h3)

theorem own0 : ownKnob Try.prog.godebug = none := by kernel_rfl
theorem fnExactWidthOf_fn {H : Type} (ds gs : List (DataW H)) (h1 : ds.length = Try.f4.params.toList.length) (h2 : gs.length = Rows.fnExactWidthOfSpec.vars.length) : Rows.fnExactWidthOfSpec.fn H (ds ++ gs) = { results := [.lit (.bool true)], args := ds, vars := gs } := by
  rw [Try.params4] at h1
  match ds, gs, h1, h2 with
  | [_], [], _, _ => rfl
set_option maxRecDepth 100000 in
theorem fnExactWidthOf_lifted (os : Os) (started : os.Started) (H : Type) (enc : TypeId × Value → H) :
    ReturnsInHanded {} Try.checked os 4 .any (Rows.fnExactWidthOfSpec.pre6 enc Try.prog Try.f4 Rows.fnExactWidthOfRow.domain false) (Rows.fnExactWidthOfSpec.post enc Try.prog Try.f4 false true false false) := by
  refine returnsInHanded_of_change (C := Try.checked) own0 started (by kernel_rfl) Try.func4
    (ChangeSpec.witness6 (enc := enc) (C := Try.checked) false ⟨#[], #[.agg #[.slice none 0 0]], []⟩ 8 (by kernel_rfl) (by kernel_rfl) (by kernel_rfl) (by kernel_rfl)) ?_
  intro W base args ds gs before hval0 hW hcnd _
  have hval : ∀ (j : Nat) t v, Try.f4.params[j]? = some t → args[j]? = some v → Value.okWide Try.prog W .any base t v := hval0
  have hW' := hW
  obtain ⟨p, q, hA0, hV0, rfl, hfz, hnd⟩ := hW
  replace hA0 : DataW.TrodAll enc Try.prog W 0 (fun _ => true) true Try.f4.params.toList args.toList ds p := hA0
  have hR0 := Rest.of (f := Try.f4) hval hA0 (fun x hx => hW'.lt x hx)
  rw [Try.params4] at hR0
  obtain ⟨u0, x0, l0, e0, hl0, hR1⟩ := hR0.sTerm
  have e1 := hR1.nil
  have hargs := args_eq e0
  rw [e1] at hargs
  subst hargs
  refine (law_WidthOf W u0 x0 hl0).mono fun e W' ⟨he, hb⟩ => ?_
  subst he
  exact ⟨_, rfl, post_true (by kernel_rfl) (by kernel_rfl) (by kernel_rfl) rfl Try.underlying4 fnExactWidthOf_fn hW' hb⟩
theorem fnExactWidthOf_holds : Rows.FnExactWidthOfSaid :=
  OpenClaim.holds_of_wide 4 Try.f4 rfl rfl rfl rfl rfl rfl rfl ⟨rfl, rfl, rfl, rfl, rfl⟩ rfl rfl rfl rfl rfl (by kernel_rfl) Try.func4 (by kernel_rfl)
    (of_decide_eq_true (by kernel_rfl)) (by unfold Func.isWrapper; first | (rw [if_pos (by decide +kernel)]; kernel_rfl) | (rw [if_neg (by decide +kernel)]; exact ⟨rfl, rfl⟩))
    (fun os started H enc _ => fnExactWidthOf_lifted os started H enc)
end Go.Proofs.Ytdgimjmdgppboaa
