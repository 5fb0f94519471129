/- The law FnExactReplaceAt: for every input it returns true, and the arguments read behind the call as they did; no condition on the input. -/
import Derived.Test.YtbeaihjiablcbaaLawN
import Derived.Test.YtbeaihjiablcbaaHReplaceAt
import Derived.Test.YtbeaihjiablcbaaRpS
import Derived.Test.YtbeaihjiablcbaaRows
import Derived.Test.YtbeaihjiablcbaaChecked
namespace Go.Proofs.Ytbeaihjiablcbaa
set_option maxRecDepth 100000
open Go Go.RowKit Go.WideShapes Go.ChangeShapes Go.Deep

theorem law_ReplaceAt (w : World) (u0 : Value) (x0 : List Nd) (hl0 : LfN w w.heap.size u0 x0) (n1 : Int) (hl1 : Bi n1) (u2 : Value) (x2 : List Nd) (hl2 : LfN w w.heap.size u2 x2) :
    Calls Try.prog 5 #[.agg #[u0], .int .i64 n1, .agg #[u2]] w fun e w' => e = .returned (.bool true) ∧ Below w.heap.size w w' :=
  harness_ReplaceAt x0 n1 x2 u0 u2 w _ _ hl0 hl2 (fun w B v v2 h1 h2 h3 h4 h5 => spec_ReplaceAt w B v v2 x0 x2 n1 hl1 h1 h2 h3 h4 h5) (fun w B v v2 h1 h2 h3 h4 h5 => impl_ReplaceAt w B v v2 x0 x2 n1 hl1 h1 h2 h3 h4 h5)

theorem own0 : ownKnob Try.prog.godebug = none := by kernel_rfl
theorem fnExactReplaceAt_fn {H : Type} (ds gs : List (DataW H)) (h1 : ds.length = Try.f5.params.toList.length) (h2 : gs.length = Rows.fnExactReplaceAtSpec.vars.length) : Rows.fnExactReplaceAtSpec.fn H (ds ++ gs) = { results := [.lit (.bool true)], args := ds, vars := gs } := by
  rw [Try.params5] at h1
  match ds, gs, h1, h2 with
  | [_, _, _], [], _, _ => rfl
set_option maxRecDepth 100000 in
theorem fnExactReplaceAt_lifted (os : Os) (started : os.Started) (H : Type) (enc : TypeId × Value → H) :
    ReturnsInHanded {} Try.checked os 5 .any (Rows.fnExactReplaceAtSpec.pre6 enc Try.prog Try.f5 Rows.fnExactReplaceAtRow.domain false) (Rows.fnExactReplaceAtSpec.post enc Try.prog Try.f5 false true false false) := by
  refine returnsInHanded_of_change (C := Try.checked) own0 started (by kernel_rfl) Try.func5
    (ChangeSpec.witness6 (enc := enc) (C := Try.checked) false ⟨#[], #[.agg #[.slice none 0 0], .int .i64 0, .agg #[.slice none 0 0]], []⟩ 8 (by kernel_rfl) (by kernel_rfl) (by kernel_rfl) (by kernel_rfl)) ?_
  intro W base args ds gs before hval0 hW hcnd _
  have hval : ∀ (j : Nat) t v, Try.f5.params[j]? = some t → args[j]? = some v → Value.okWide Try.prog W .any base t v := hval0
  have hW' := hW
  obtain ⟨p, q, hA0, hV0, rfl, hfz, hnd⟩ := hW
  replace hA0 : DataW.TrodAll enc Try.prog W 0 (fun _ => true) true Try.f5.params.toList args.toList ds p := hA0
  have hR0 := Rest.of (f := Try.f5) hval hA0 (fun x hx => hW'.lt x hx)
  rw [Try.params5] at hR0
  obtain ⟨u0, x0, l0, e0, hl0, hR1⟩ := hR0.sTerm
  obtain ⟨n1, l1, e1, hl1, hR2⟩ := hR1.intB
  obtain ⟨u2, x2, l2, e2, hl2, hR3⟩ := hR2.sTerm
  have e3 := hR3.nil
  subst e3
  subst e2
  subst e1
  have hargs := args_eq e0
  subst hargs
  refine (law_ReplaceAt W u0 x0 hl0 n1 hl1 u2 x2 hl2).mono fun e W' ⟨he, hb⟩ => ?_
  subst he
  exact ⟨_, rfl, post_true (by kernel_rfl) (by kernel_rfl) (by kernel_rfl) rfl Try.underlying4 fnExactReplaceAt_fn hW' hb⟩
theorem fnExactReplaceAt_holds : Rows.FnExactReplaceAtSaid :=
  OpenClaim.holds_of_wide 5 Try.f5 rfl rfl rfl rfl rfl rfl rfl ⟨rfl, rfl, rfl, rfl, rfl⟩ rfl rfl rfl rfl rfl (by kernel_rfl) Try.func5 (by kernel_rfl)
    (of_decide_eq_true (by kernel_rfl)) (by unfold Func.isWrapper; first | (rw [if_pos (by decide +kernel)]; kernel_rfl) | (rw [if_neg (by decide +kernel)]; exact ⟨rfl, rfl⟩))
    (fun os started H enc _ => fnExactReplaceAt_lifted os started H enc)
end Go.Proofs.Ytbeaihjiablcbaa
