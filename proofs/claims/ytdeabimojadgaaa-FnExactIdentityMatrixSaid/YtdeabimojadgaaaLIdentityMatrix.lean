/- The law FnExactIdentityMatrix: for every input it returns true, and the argument reads behind the call as it did; no condition on the input. -/
import Derived.Test.YtdeabimojadgaaaLawCommon
import Derived.Test.YtdeabimojadgaaaHIdentityMatrix
import Derived.Test.YtdeabimojadgaaaMxMake
import Derived.Test.YtdeabimojadgaaaRows
import Derived.Test.YtdeabimojadgaaaChecked
namespace Go.Proofs.Ytdeabimojadgaaa
open Go Go.RowKit Go.WideShapes Go.ChangeShapes Go.Deep

theorem law_IdentityMatrix (n : Int) (w : World) : Calls Try.prog 3 #[.int .i64 n] w fun e w' => e = .returned (.bool true) ∧ Below w.heap.size w w' :=
  harness_IdentityMatrix n w _ _ _ (fun w => spec_IdentityMatrix w n) (fun w => impl_IdentityMatrix w n) (by
    by_cases h : 0 ≤ n ∧ n ≤ 24
    · rw [if_pos h]
      have h2 := tot_const (rows := idRows n.toNat) (c := n.toNat) (fun r hr => by
        obtain ⟨i, hi, rfl⟩ := List.getElem_of_mem hr
        have := idRows_get (n := n.toNat) (i := i) (by rw [idRows_len] at hi; exact hi)
        rw [List.getD_eq_getElem?_getD, List.getElem?_eq_getElem hi] at this
        simp only [Option.getD_some] at this
        rw [this, unitRow_len])
      rw [idRows_len] at h2
      rw [idRows_len]
      have h3 : n.toNat * n.toNat ≤ 24 * 24 := Nat.mul_le_mul (by omega) (by omega)
      exact ⟨by omega, by omega⟩
    · rw [if_neg h]
      simp [tot])

theorem own0 : ownKnob Try.prog.godebug = none := by kernel_rfl
theorem fnExactIdentityMatrix_fn {H : Type} (ds gs : List (DataW H)) (h1 : ds.length = Try.f3.params.toList.length) (h2 : gs.length = Rows.fnExactIdentityMatrixSpec.vars.length) : Rows.fnExactIdentityMatrixSpec.fn H (ds ++ gs) = { results := [.lit (.bool true)], args := ds, vars := gs } := by
  rw [Try.params3] at h1
  match ds, gs, h1, h2 with
  | [_], [], _, _ => rfl
set_option maxRecDepth 100000 in
theorem fnExactIdentityMatrix_lifted (os : Os) (started : os.Started) (H : Type) (enc : TypeId × Value → H) :
    ReturnsInHanded {} Try.checked os 3 .any (Rows.fnExactIdentityMatrixSpec.pre6 enc Try.prog Try.f3 Rows.fnExactIdentityMatrixRow.domain false) (Rows.fnExactIdentityMatrixSpec.post enc Try.prog Try.f3 false true false false) := by
  refine returnsInHanded_of_change (C := Try.checked) own0 started (by kernel_rfl) Try.func3
    (ChangeSpec.witness6 (enc := enc) (C := Try.checked) false ⟨#[], #[.int .i64 0], []⟩ 8 (by kernel_rfl) (by kernel_rfl) (by kernel_rfl) (by kernel_rfl)) ?_
  intro W base args ds gs before hval0 hW hcnd _
  have hval : ∀ (j : Nat) t v, Try.f3.params[j]? = some t → args[j]? = some v → Value.okWide Try.prog W .any base t v := hval0
  have hW' := hW
  obtain ⟨p, q, hA0, hV0, rfl, hfz, hnd⟩ := hW
  replace hA0 : DataW.TrodAll enc Try.prog W 0 (fun _ => true) true Try.f3.params.toList args.toList ds p := hA0
  rw [Try.params3] at hA0 hval
  obtain ⟨n0, rfl⟩ := ints1 hval hA0
  refine (law_IdentityMatrix n0 W).mono fun e W' ⟨he, hb⟩ => ?_
  subst he
  exact ⟨_, rfl, post_true (by kernel_rfl) (by kernel_rfl) (by kernel_rfl) rfl Try.underlying4 fnExactIdentityMatrix_fn hW' hb⟩
theorem fnExactIdentityMatrix_holds : Rows.FnExactIdentityMatrixSaid :=
  OpenClaim.holds_of_wide 3 Try.f3 rfl rfl rfl rfl rfl rfl rfl ⟨rfl, rfl, rfl, rfl, rfl⟩ rfl rfl rfl rfl rfl (by kernel_rfl) Try.func3 (by kernel_rfl)
    (of_decide_eq_true (by kernel_rfl)) (by unfold Func.isWrapper; first | (rw [if_pos (by decide +kernel)]; kernel_rfl) | (rw [if_neg (by decide +kernel)]; exact ⟨rfl, rfl⟩))
    (fun os started H enc _ => fnExactIdentityMatrix_lifted os started H enc)
end Go.Proofs.Ytdeabimojadgaaa
