/- The law FnExactSolveLinear: for every input it returns true; each argument and the variable smallPrimes read behind the call as before. No conditions but the row's own: smallPrimes starts as the program's text lays it (tied). -/
import Derived.Test.YtiiloioobmkicaaDoorTie
import Derived.Test.YtiiloioobmkicaaDoorCards
import Derived.Test.YtiiloioobmkicaaDoorLawG
import Derived.Test.YtiiloioobmkicaaDoorHSolveLinear
import Derived.Test.YtiiloioobmkicaaDoorSolT
namespace Go.Proofs.YtiiloioobmkicaaDoor
set_option maxRecDepth 100000
open Go Go.RowKit Go.WideShapes Go.ChangeShapes Go.Deep

theorem law_SolveLinear (p0_0 : Int) (p1_0 : Int) (p1_1 : List (List Int)) (p2_0 : List Int) (up1_1 : Value) (up2_0 : Value) (w : World) (ht : Tab w) (hvp1_1 : LfG w w.heap.size up1_1 p1_1) (hvp2_0 : LfR w w.heap.size up2_0 p2_0) :
    Calls Tryd.prog 7 #[.int .i64 p0_0, .agg #[.int .i64 p1_0, up1_1], up2_0] w fun e w' => e = .returned (.bool true) ∧ Below w.heap.size w w' :=
  harness_SolveLinear p0_0 p1_0 p1_1 p2_0 up1_1 up2_0 w _ _ ht hvp1_1 hvp2_0
    (fun w B vp1_1 vp2_0 hp1_1 hp2_0 hB sp1_1 sp2_0 => spec_SolveLinear w B vp1_1 vp2_0 p0_0 p1_0 p1_1 p2_0 hp1_1 hp2_0 hB sp1_1 sp2_0)
    (fun w B vp1_1 vp2_0 ht hp1_1 hp2_0 hB sp1_1 sp2_0 => impl_SolveLinear w B vp1_1 vp2_0 p0_0 p1_0 p1_1 p2_0 ht hp1_1 hp2_0 hB sp1_1 sp2_0)

theorem fnExactSolveLinear_fn {H : Type} (ds gs : List (DataW H)) (h1 : ds.length = Tryd.f7.params.toList.length) (h2 : gs.length = Rows.fnExactSolveLinearSpec.vars.length) : Rows.fnExactSolveLinearSpec.fn H (ds ++ gs) = { results := [.lit (.bool true)], args := ds, vars := gs } := by
  rw [Tryd.params7] at h1
  match ds, gs, h1, h2 with
  | [_, _, _], [_], _, _ => rfl
set_option maxRecDepth 100000 in
theorem fnExactSolveLinear_lifted (os : Os) (started : os.Started) (H : Type) (enc : TypeId × Value → H) :
    ReturnsInHanded {} Tryd.checked os 7 .any (fun w args => (Rows.fnExactSolveLinearSpec.pre enc Tryd.prog Tryd.f7 [] false w args ∧ laidMetH Tryd.prog Rows.fnExactSolveLinearRow.laid w) ∧ sizedMet enc Tryd.prog Tryd.f7 (OpenSpec.ofChange Rows.fnExactSolveLinearSpec) false w args)
      (Rows.fnExactSolveLinearSpec.post enc Tryd.prog Tryd.f7 false true false false) := by
  refine returnsInHanded_of_change_and (C := Tryd.checked) (X := fun w _ => laidMetH Tryd.prog Rows.fnExactSolveLinearRow.laid w) (fun _ _ _ hh h => h.of_heap hh) own started (by kernel_rfl) Tryd.func7
    (ChangeSpec.witness_shaped (enc := enc) (C := Tryd.checked) (os := os) (X := fun w _ => laidMetH Tryd.prog Rows.fnExactSolveLinearRow.laid w) false (World.doorLaid Tryd.prog 400 os) #[.int .i64 0, .agg #[.int .i64 0, .slice none 0 0], .slice none 0 0] 8 rfl (World.shaped_of_RefB (by kernel_rfl) (by kernel_rfl)) (by kernel_rfl) (by kernel_rfl) (by kernel_rfl) (door_met os _)) ?_
  intro W base args ds gs before hval0 hW _ _ hL _
  have hval : ∀ (j : Nat) t v, Tryd.f7.params[j]? = some t → args[j]? = some v → Value.okWide Tryd.prog W .any base t v := hval0
  have hW' := hW
  obtain ⟨p, q, hA0, hV0, rfl, hfz, hnd⟩ := hW
  have hT := tab_of_laid hL
  replace hA0 : DataW.TrodAll enc Tryd.prog W 0 (fun _ => true) true Tryd.f7.params.toList args.toList ds p := hA0
  have hR0 := Rest.of (f := Tryd.f7) hval hA0 (fun x hx => hW'.lt x hx)
  rw [Tryd.params7] at hR0
  obtain ⟨n0_0, l0, e0, hR1⟩ := hR0.int
  obtain ⟨n1_0, u1_1, n1_1, l1, e1, h1_1, hR2⟩ := hR1.sMatrix
  obtain ⟨u2_0, n2_0, l2, e2, h2_0, hR3⟩ := hR2.lfR
  have e3 := hR3.nil
  have hargs := args_eq e0
  rw [e1, e2, e3] at hargs
  subst hargs
  refine (law_SolveLinear n0_0 n1_0 n1_1 n2_0 u1_1 u2_0 W hT h1_1 h2_0).mono fun e W' ⟨he, hb⟩ => ?_
  subst he
  exact ⟨_, rfl, post_true (by kernel_rfl) (by kernel_rfl) (by kernel_rfl) rfl Tryd.underlying4 fnExactSolveLinear_fn hW' hb⟩
theorem fnExactSolveLinear_holds : Rows.FnExactSolveLinearSaid :=
  OpenClaim.holds_of_wide 7 Tryd.f7 rfl rfl rfl rfl rfl rfl rfl ⟨rfl, rfl, rfl, rfl, rfl⟩ rfl rfl rfl rfl rfl (by kernel_rfl) Tryd.func7 (by kernel_rfl)
    (of_decide_eq_true (by kernel_rfl)) (by unfold Func.isWrapper; first | (rw [if_pos (by decide +kernel)]; kernel_rfl) | (rw [if_neg (by decide +kernel)]; exact ⟨rfl, rfl⟩))
    (fun os started H enc _ => fnExactSolveLinear_lifted os started H enc)
theorem fnExactSolveLinear_card_holds : Rows.FnExactSolveLinearCardSaid :=
  Claim7.holds_tied_plain_at .later [] [.data] true _ false
    fnExactSolveLinear_holds (fun _ h => by cases h) (by kernel_rfl) (fun _ h => by cases h) fnExactSolveLinear_row_tie rfl ⟨rfl, rfl⟩ (by kernel_rfl) rfl
    (fun f fn hf hfn => by
      obtain rfl : f = 7 := Option.some.inj ((show Tryd.prog.funcNamed "loop.example/g01073/laws.FnExactSolveLinear" = some 7 by kernel_rfl).symm.trans hf) |>.symm
      obtain rfl : fn = Tryd.f7 := (Option.some.inj (Tryd.func7.symm.trans hfn)).symm
      exact ⟨by kernel_rfl, fun j t ht => by
        rw [Tryd.params7] at ht
        have hm := Array.mem_of_getElem? ht
        have hall : ((#[3, 41, 42] : Array TypeId).toList.all fun u => !Tryd.prog.wantsStandIn u) = true := by kernel_rfl
        exact (show Tryd.prog.wantsStandIn t = false by simpa using List.all_eq_true.1 hall t (Array.mem_toList_iff.2 hm))⟩)
    (by kernel_rfl)
end Go.Proofs.YtiiloioobmkicaaDoor
