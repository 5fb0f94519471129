/- The law FnExactTraceGraph: for every input it returns true, and the arguments read behind the call as they did; no condition on the input. -/
import Derived.Test.YtdcgoeapgboclaaLawE
import Derived.Test.YtdcgoeapgboclaaHTraceGraph
import Derived.Test.YtdcgoeapgboclaaTgA
import Derived.Test.YtdcgoeapgboclaaRows
import Derived.Test.YtdcgoeapgboclaaChecked
namespace Go.Proofs.Ytdcgoeapgboclaa
set_option maxRecDepth 100000
open Go Go.RowKit Go.WideShapes Go.ChangeShapes Go.Deep

theorem law_TraceGraph (w : World) (d0 : Int) (v0a : Value) (x0a : List Ed) (v0b : Value) (x0b : List Int) (v0c : Value) (x0c : List Int) (hl0a : LfE w w.heap.size v0a x0a) (hl0b : LfR w w.heap.size v0b x0b) (hl0c : LfR w w.heap.size v0c x0c) (n1 : Int) (hl1 : Bi n1) :
    Calls Try.prog 5 #[.agg #[.int .i64 d0, v0a, v0b, v0c], .int .i64 n1] w fun e w' => e = .returned (.bool true) ∧ Below w.heap.size w w' :=
  harness_TraceGraph d0 x0a x0b x0c n1 v0a v0b v0c w _ _ _ _ _ hl0a hl0b hl0c (fun w B vE vI vO a b c d e f g => spec_TraceGraph w B vE vI vO d0 x0a x0b x0c n1 a b c hl1 d e f g) (fun w B vE vI vO a b c d e f g => impl_TraceGraph w B vE vI vO d0 x0a x0b x0c n1 a b c hl1 d e f g)

theorem own0 : ownKnob Try.prog.godebug = none := by kernel_rfl
theorem fnExactTraceGraph_fn {H : Type} (ds gs : List (DataW H)) (h1 : ds.length = Try.f5.params.toList.length) (h2 : gs.length = Rows.fnExactTraceGraphSpec.vars.length) : Rows.fnExactTraceGraphSpec.fn H (ds ++ gs) = { results := [.lit (.bool true)], args := ds, vars := gs } := by
  rw [Try.params5] at h1
  match ds, gs, h1, h2 with
  | [_, _], [], _, _ => rfl
set_option maxRecDepth 100000 in
theorem fnExactTraceGraph_lifted (os : Os) (started : os.Started) (H : Type) (enc : TypeId × Value → H) :
    ReturnsInHanded {} Try.checked os 5 .any (Rows.fnExactTraceGraphSpec.pre6 enc Try.prog Try.f5 Rows.fnExactTraceGraphRow.domain false) (Rows.fnExactTraceGraphSpec.post enc Try.prog Try.f5 false true false false) := by
  refine returnsInHanded_of_change (C := Try.checked) own0 started (by kernel_rfl) Try.func5
    (ChangeSpec.witness6 (enc := enc) (C := Try.checked) false ⟨#[], #[.agg #[.int .i64 0, .slice none 0 0, .slice none 0 0, .slice none 0 0], .int .i64 0], []⟩ 8 (by kernel_rfl) (by kernel_rfl) (by kernel_rfl) (by kernel_rfl)) ?_
  intro W base args ds gs before hval0 hW hcnd _
  have hval : ∀ (j : Nat) t v, Try.f5.params[j]? = some t → args[j]? = some v → Value.okWide Try.prog W .any base t v := hval0
  have hW' := hW
  obtain ⟨p, q, hA0, hV0, rfl, hfz, hnd⟩ := hW
  replace hA0 : DataW.TrodAll enc Try.prog W 0 (fun _ => true) true Try.f5.params.toList args.toList ds p := hA0
  have hR0 := Rest.of (f := Try.f5) hval hA0 (fun x hx => hW'.lt x hx)
  rw [Try.params5] at hR0
  obtain ⟨d0, v0a, x0a, v0b, x0b, v0c, x0c, l0, e0, hl0a, hl0b, hl0c, hR1⟩ := hR0.sGraph
  obtain ⟨n1, l1, e1, hl1, hR2⟩ := hR1.intB
  have e2 := hR2.nil
  subst e2
  subst e1
  have hargs := args_eq e0
  subst hargs
  refine (law_TraceGraph W d0 v0a x0a v0b x0b v0c x0c hl0a hl0b hl0c n1 hl1).mono fun e W' ⟨he, hb⟩ => ?_
  subst he
  exact ⟨_, rfl, post_true (by kernel_rfl) (by kernel_rfl) (by kernel_rfl) rfl Try.underlying4 fnExactTraceGraph_fn hW' hb⟩
theorem fnExactTraceGraph_holds : Rows.FnExactTraceGraphSaid :=
  OpenClaim.holds_of_wide 5 Try.f5 rfl rfl rfl rfl rfl rfl rfl ⟨rfl, rfl, rfl, rfl, rfl⟩ rfl rfl rfl rfl rfl (by kernel_rfl) Try.func5 (by kernel_rfl)
    (of_decide_eq_true (by kernel_rfl)) (by unfold Func.isWrapper; first | (rw [if_pos (by decide +kernel)]; kernel_rfl) | (rw [if_neg (by decide +kernel)]; exact ⟨rfl, rfl⟩))
    (fun os started H enc _ => fnExactTraceGraph_lifted os started H enc)
end Go.Proofs.Ytdcgoeapgboclaa
