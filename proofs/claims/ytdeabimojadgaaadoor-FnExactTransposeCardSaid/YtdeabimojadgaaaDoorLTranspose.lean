/- The law FnExactTranspose: for every input it returns true; each argument and the variable smallPrimes read behind the call as before. No conditions but the row's own: smallPrimes starts as the program's text lays it (tied). -/
import Derived.Test.YtdeabimojadgaaaDoorTie
import Derived.Test.YtdeabimojadgaaaDoorCards
import Derived.Test.YtdeabimojadgaaaDoorLawMat
import Derived.Test.YtdeabimojadgaaaDoorHTranspose
import Derived.Test.YtdeabimojadgaaaDoorMxTurn
namespace Go.Proofs.YtdeabimojadgaaaDoor
open Go Go.RowKit Go.WideShapes Go.ChangeShapes Go.Deep

theorem law_Transpose (p c : Int) (u : Value) (rows : List (List Int)) (w : World) (ht : Tab w) (hv : RdG w w.heap.size u rows) (hn : rows.length ≤ 9223372036854775807) (hr : ∀ r, r < rows.length → (rows.getD r []).length ≤ 9223372036854775807) :
    Calls Tryd.prog 7 #[.int .i64 p, .agg #[.int .i64 c, u]] w fun e w' => e = .returned (.bool true) ∧ Below w.heap.size w w' :=
  harness_Transpose p c u rows w _ _ _ ht hv hn hr
    (fun w B v hv hB hn hr => spec_Transpose w B v p c rows hv hB hn hr) (fun w B v ht hv hB hn hr => impl_Transpose w B v p c rows ht hv hB hn hr) (by
      unfold turnR
      cases h : isMat p c rows with
      | false => simp [tot]
      | true =>
        obtain ⟨_, h1, k, rfl, h2, _⟩ := (isMat_iff _ _ _).1 h
        have h3 : k * rows.length ≤ 24 * 24 := Nat.mul_le_mul h2 h1
        simp only [if_true, turn_len, turn_tot, Int.toNat_natCast]
        omega)

theorem fnExactTranspose_fn {H : Type} (ds gs : List (DataW H)) (h1 : ds.length = Tryd.f7.params.toList.length) (h2 : gs.length = Rows.fnExactTransposeSpec.vars.length) : Rows.fnExactTransposeSpec.fn H (ds ++ gs) = { results := [.lit (.bool true)], args := ds, vars := gs } := by
  rw [Tryd.params7] at h1
  match ds, gs, h1, h2 with
  | [_, _], [_], _, _ => rfl
set_option maxRecDepth 100000 in
theorem fnExactTranspose_lifted (os : Os) (started : os.Started) (H : Type) (enc : TypeId × Value → H) :
    ReturnsInHanded {} Tryd.checked os 7 .any (fun w args => (Rows.fnExactTransposeSpec.pre enc Tryd.prog Tryd.f7 [] false w args ∧ laidMetH Tryd.prog Rows.fnExactTransposeRow.laid w) ∧ sizedMet enc Tryd.prog Tryd.f7 (OpenSpec.ofChange Rows.fnExactTransposeSpec) false w args)
      (Rows.fnExactTransposeSpec.post enc Tryd.prog Tryd.f7 false true false false) := by
  refine returnsInHanded_of_change_and (C := Tryd.checked) (X := fun w _ => laidMetH Tryd.prog Rows.fnExactTransposeRow.laid w) (fun _ _ _ hh h => h.of_heap hh) own started (by kernel_rfl) Tryd.func7
    (ChangeSpec.witness_shaped (enc := enc) (C := Tryd.checked) (os := os) (X := fun w _ => laidMetH Tryd.prog Rows.fnExactTransposeRow.laid w) false (World.doorLaid Tryd.prog 400 os) #[.int .i64 0, .agg #[.int .i64 0, .slice none 0 0]] 8 rfl (World.shaped_of_RefB (by kernel_rfl) (by kernel_rfl)) (by kernel_rfl) (by kernel_rfl) (by kernel_rfl) (door_met os _)) ?_
  intro W base args ds gs before hval0 hW _ _ hL _
  have hval : ∀ (j : Nat) t v, Tryd.f7.params[j]? = some t → args[j]? = some v → Value.okWide Tryd.prog W .any base t v := hval0
  have hW' := hW
  obtain ⟨p, q, hA0, hV0, rfl, hfz, hnd⟩ := hW
  have hT := tab_of_laid hL
  replace hA0 : DataW.TrodAll enc Tryd.prog W 0 (fun _ => true) true Tryd.f7.params.toList args.toList ds p := hA0
  have hR0 := Rest.of (f := Tryd.f7) hval hA0 (fun x hx => hW'.lt x hx)
  rw [Tryd.params7] at hR0
  obtain ⟨n0, l0, e0, hR1⟩ := hR0.int
  obtain ⟨c1, u1, rows1, l1, e1, h1a, h1b, h1c, hR2⟩ := hR1.mat
  have e2 := hR2.nil
  have hargs := args_eq e0
  rw [e1, e2] at hargs
  subst hargs
  refine (law_Transpose n0 c1 u1 rows1 W hT h1a h1b h1c).mono fun e W' ⟨he, hb⟩ => ?_
  subst he
  exact ⟨_, rfl, post_true (by kernel_rfl) (by kernel_rfl) (by kernel_rfl) rfl Tryd.underlying4 fnExactTranspose_fn hW' hb⟩
theorem fnExactTranspose_holds : Rows.FnExactTransposeSaid :=
  OpenClaim.holds_of_wide 7 Tryd.f7 rfl rfl rfl rfl rfl rfl rfl ⟨rfl, rfl, rfl, rfl, rfl⟩ rfl rfl rfl rfl rfl (by kernel_rfl) Tryd.func7 (by kernel_rfl)
    (of_decide_eq_true (by kernel_rfl)) (by unfold Func.isWrapper; first | (rw [if_pos (by decide +kernel)]; kernel_rfl) | (rw [if_neg (by decide +kernel)]; exact ⟨rfl, rfl⟩))
    (fun os started H enc _ => fnExactTranspose_lifted os started H enc)
theorem fnExactTranspose_card_holds : Rows.FnExactTransposeCardSaid :=
  Claim7.holds_tied_plain_at .later [] [.data] true _ false
    fnExactTranspose_holds (fun _ h => by cases h) (by kernel_rfl) (fun _ h => by cases h) fnExactTranspose_row_tie rfl ⟨rfl, rfl⟩ (by kernel_rfl) rfl
    (fun f fn hf hfn => by
      obtain rfl : f = 7 := Option.some.inj ((show Tryd.prog.funcNamed "loop.example/g01073/laws.FnExactTranspose" = some 7 by kernel_rfl).symm.trans hf) |>.symm
      obtain rfl : fn = Tryd.f7 := (Option.some.inj (Tryd.func7.symm.trans hfn)).symm
      exact ⟨by kernel_rfl, fun j t ht => by
        rw [Tryd.params7] at ht
        have hm := Array.mem_of_getElem? ht
        have hall : ((#[3, 24] : Array TypeId).toList.all fun u => !Tryd.prog.wantsStandIn u) = true := by kernel_rfl
        exact (show Tryd.prog.wantsStandIn t = false by simpa using List.all_eq_true.1 hall t (Array.mem_toList_iff.2 hm))⟩)
    (by kernel_rfl)
end Go.Proofs.YtdeabimojadgaaaDoor
