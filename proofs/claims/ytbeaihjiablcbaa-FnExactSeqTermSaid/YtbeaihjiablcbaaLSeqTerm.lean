/- The law FnExactSeqTerm: for every input it returns true, and the arguments read behind the call as they did; no condition on the input. -/
import Derived.Test.YtbeaihjiablcbaaLawN
import Derived.Test.YtbeaihjiablcbaaHSeqTerm
import Derived.Test.YtbeaihjiablcbaaJnS
import Derived.Test.YtbeaihjiablcbaaRows
import Derived.Test.YtbeaihjiablcbaaChecked
namespace Go.Proofs.Ytbeaihjiablcbaa
set_option maxRecDepth 100000
open Go Go.RowKit Go.WideShapes Go.ChangeShapes Go.Deep

theorem law_SeqTerm (w : World) (u0 : Value) (x0 : List Nd) (hl0 : LfN w w.heap.size u0 x0) (u1 : Value) (x1 : List Nd) (hl1 : LfN w w.heap.size u1 x1) :
    Calls Try.prog 3 #[.agg #[u0], .agg #[u1]] w fun e w' => e = .returned (.bool true) ∧ Below w.heap.size w w' :=
  harness_SeqTerm x0 x1 u0 u1 w _ _ hl0 hl1 (fun w B v v2 h1 h2 h3 h4 h5 => spec_SeqTerm w B v v2 x0 x1 h1 h2 h3 h4 h5) (fun w B v v2 h1 h2 h3 _ _ => impl_SeqTerm w B v v2 x0 x1 h1 h2 h3)

theorem own0 : ownKnob Try.prog.godebug = none := by kernel_rfl
theorem fnExactSeqTerm_fn {H : Type} (ds gs : List (DataW H)) (h1 : ds.length = Try.f3.params.toList.length) (h2 : gs.length = Rows.fnExactSeqTermSpec.vars.length) : Rows.fnExactSeqTermSpec.fn H (ds ++ gs) = { results := [.lit (.bool true)], args := ds, vars := gs } := by
  rw [Try.params3] at h1
  match ds, gs, h1, h2 with
  | [_, _], [], _, _ => rfl
set_option maxRecDepth 100000 in
theorem fnExactSeqTerm_lifted (os : Os) (started : os.Started) (H : Type) (enc : TypeId × Value → H) :
    ReturnsInHanded {} Try.checked os 3 .any (Rows.fnExactSeqTermSpec.pre6 enc Try.prog Try.f3 Rows.fnExactSeqTermRow.domain false) (Rows.fnExactSeqTermSpec.post enc Try.prog Try.f3 false true false false) := by
  refine returnsInHanded_of_change (C := Try.checked) own0 started (by kernel_rfl) Try.func3
    (ChangeSpec.witness6 (enc := enc) (C := Try.checked) false ⟨#[], #[.agg #[.slice none 0 0], .agg #[.slice none 0 0]], []⟩ 8 (by kernel_rfl) (by kernel_rfl) (by kernel_rfl) (by kernel_rfl)) ?_
  intro W base args ds gs before hval0 hW hcnd _
  have hval : ∀ (j : Nat) t v, Try.f3.params[j]? = some t → args[j]? = some v → Value.okWide Try.prog W .any base t v := hval0
  have hW' := hW
  obtain ⟨p, q, hA0, hV0, rfl, hfz, hnd⟩ := hW
  replace hA0 : DataW.TrodAll enc Try.prog W 0 (fun _ => true) true Try.f3.params.toList args.toList ds p := hA0
  have hR0 := Rest.of (f := Try.f3) hval hA0 (fun x hx => hW'.lt x hx)
  rw [Try.params3] at hR0
  obtain ⟨u0, x0, l0, e0, hl0, hR1⟩ := hR0.sTerm
  obtain ⟨u1, x1, l1, e1, hl1, hR2⟩ := hR1.sTerm
  have e2 := hR2.nil
  subst e2
  subst e1
  have hargs := args_eq e0
  subst hargs
  refine (law_SeqTerm W u0 x0 hl0 u1 x1 hl1).mono fun e W' ⟨he, hb⟩ => ?_
  subst he
  exact ⟨_, rfl, post_true (by kernel_rfl) (by kernel_rfl) (by kernel_rfl) rfl Try.underlying4 fnExactSeqTerm_fn hW' hb⟩
theorem fnExactSeqTerm_holds : Rows.FnExactSeqTermSaid :=
  OpenClaim.holds_of_wide 3 Try.f3 rfl rfl rfl rfl rfl rfl rfl ⟨rfl, rfl, rfl, rfl, rfl⟩ rfl rfl rfl rfl rfl (by kernel_rfl) Try.func3 (by kernel_rfl)
    (of_decide_eq_true (by kernel_rfl)) (by unfold Func.isWrapper; first | (rw [if_pos (by decide +kernel)]; kernel_rfl) | (rw [if_neg (by decide +kernel)]; exact ⟨rfl, rfl⟩))
    (fun os started H enc _ => fnExactSeqTerm_lifted os started H enc)
end Go.Proofs.Ytbeaihjiablcbaa
