/- The law FnExactIsGraph: for every input it returns true; each argument and the variable smallPrimes read behind the call as before. No conditions but the row's own: smallPrimes starts as the program's text lays it (tied). -/
import Derived.Test.YthnhholeaiojjaaDoorTie
import Derived.Test.YthnhholeaiojjaaDoorCards
import Derived.Test.YthnhholeaiojjaaDoorLawG
import Derived.Test.YthnhholeaiojjaaDoorHIsGraph
import Derived.Test.YthnhholeaiojjaaDoorIsG
import Derived.Test.YthnhholeaiojjaaDoorLawE
namespace Go.Proofs.YthnhholeaiojjaaDoor
set_option maxRecDepth 100000
open Go Go.RowKit Go.WideShapes Go.ChangeShapes Go.Deep

theorem law_IsGraph (p0_0 : Int) (p1_0 : Int) (p1_1 : List Ed) (p1_2 : List Int) (p1_3 : List Int) (up1_1 : Value) (up1_2 : Value) (up1_3 : Value) (w : World) (ht : Tab w) (hvp1_1 : LfE w w.heap.size up1_1 p1_1) (hvp1_2 : LfR w w.heap.size up1_2 p1_2) (hvp1_3 : LfR w w.heap.size up1_3 p1_3) :
    Calls Tryd.prog 3 #[.int .i64 p0_0, .agg #[.int .i64 p1_0, up1_1, up1_2, up1_3]] w fun e w' => e = .returned (.bool true) ∧ Below w.heap.size w w' :=
  harness_IsGraph p0_0 p1_0 p1_1 p1_2 p1_3 up1_1 up1_2 up1_3 w _ ht hvp1_1 hvp1_2 hvp1_3
    (fun w B vp1_1 vp1_2 vp1_3 hp1_1 hp1_2 hp1_3 hB sp1_1 sp1_2 sp1_3 => spec_IsGraph w B vp1_1 vp1_2 vp1_3 p0_0 p1_0 p1_1 p1_2 p1_3 hp1_1 hp1_2 hp1_3 hB sp1_1 sp1_2 sp1_3)
    (fun w B vp1_1 vp1_2 vp1_3 ht hp1_1 hp1_2 hp1_3 hB sp1_1 sp1_2 sp1_3 => impl_IsGraph w B vp1_1 vp1_2 vp1_3 p0_0 p1_0 p1_1 p1_2 p1_3 ht hp1_1 hp1_2 hp1_3 hB sp1_1 sp1_2 sp1_3)

theorem fnExactIsGraph_fn {H : Type} (ds gs : List (DataW H)) (h1 : ds.length = Tryd.f3.params.toList.length) (h2 : gs.length = Rows.fnExactIsGraphSpec.vars.length) : Rows.fnExactIsGraphSpec.fn H (ds ++ gs) = { results := [.lit (.bool true)], args := ds, vars := gs } := by
  rw [Tryd.params3] at h1
  match ds, gs, h1, h2 with
  | [_, _], [_], _, _ => rfl
set_option maxRecDepth 100000 in
theorem fnExactIsGraph_lifted (os : Os) (started : os.Started) (H : Type) (enc : TypeId × Value → H) :
    ReturnsInHanded {} Tryd.checked os 3 .any (fun w args => (Rows.fnExactIsGraphSpec.pre enc Tryd.prog Tryd.f3 [] false w args ∧ laidMetH Tryd.prog Rows.fnExactIsGraphRow.laid w) ∧ sizedMet enc Tryd.prog Tryd.f3 (OpenSpec.ofChange Rows.fnExactIsGraphSpec) false w args)
      (Rows.fnExactIsGraphSpec.post enc Tryd.prog Tryd.f3 false true false false) := by
  refine returnsInHanded_of_change_and (C := Tryd.checked) (X := fun w _ => laidMetH Tryd.prog Rows.fnExactIsGraphRow.laid w) (fun _ _ _ hh h => h.of_heap hh) own started (by kernel_rfl) Tryd.func3
    (ChangeSpec.witness_shaped (enc := enc) (C := Tryd.checked) (os := os) (X := fun w _ => laidMetH Tryd.prog Rows.fnExactIsGraphRow.laid w) false (World.doorLaid Tryd.prog 400 os) #[.int .i64 0, .agg #[.int .i64 0, .slice none 0 0, .slice none 0 0, .slice none 0 0]] 8 rfl (World.shaped_of_RefB (by kernel_rfl) (by kernel_rfl)) (by kernel_rfl) (by kernel_rfl) (by kernel_rfl) (door_met os _)) ?_
  intro W base args ds gs before hval0 hW _ _ hL _
  have hval : ∀ (j : Nat) t v, Tryd.f3.params[j]? = some t → args[j]? = some v → Value.okWide Tryd.prog W .any base t v := hval0
  have hW' := hW
  obtain ⟨p, q, hA0, hV0, rfl, hfz, hnd⟩ := hW
  have hT := tab_of_laid hL
  replace hA0 : DataW.TrodAll enc Tryd.prog W 0 (fun _ => true) true Tryd.f3.params.toList args.toList ds p := hA0
  have hR0 := Rest.of (f := Tryd.f3) hval hA0 (fun x hx => hW'.lt x hx)
  rw [Tryd.params3] at hR0
  obtain ⟨n0_0, l0, e0, hR1⟩ := hR0.int
  obtain ⟨n1_0, u1_1, n1_1, u1_2, n1_2, u1_3, n1_3, l1, e1, h1_1, h1_2, h1_3, hR2⟩ := hR1.sGraph
  have e2 := hR2.nil
  have hargs := args_eq e0
  rw [e1, e2] at hargs
  subst hargs
  refine (law_IsGraph n0_0 n1_0 n1_1 n1_2 n1_3 u1_1 u1_2 u1_3 W hT h1_1 h1_2 h1_3).mono fun e W' ⟨he, hb⟩ => ?_
  subst he
  exact ⟨_, rfl, post_true (by kernel_rfl) (by kernel_rfl) (by kernel_rfl) rfl Tryd.underlying4 fnExactIsGraph_fn hW' hb⟩
theorem fnExactIsGraph_holds : Rows.FnExactIsGraphSaid :=
  OpenClaim.holds_of_wide 3 Tryd.f3 rfl rfl rfl rfl rfl rfl rfl ⟨rfl, rfl, rfl, rfl, rfl⟩ rfl rfl rfl rfl rfl (by kernel_rfl) Tryd.func3 (by kernel_rfl)
    (of_decide_eq_true (by kernel_rfl)) (by unfold Func.isWrapper; first | (rw [if_pos (by decide +kernel)]; kernel_rfl) | (rw [if_neg (by decide +kernel)]; exact ⟨rfl, rfl⟩))
    (fun os started H enc _ => fnExactIsGraph_lifted os started H enc)
theorem fnExactIsGraph_card_holds : Rows.FnExactIsGraphCardSaid :=
  Claim7.holds_tied_plain_at .later [] [.data] true _ false
    fnExactIsGraph_holds (fun _ h => by cases h) (by kernel_rfl) (fun _ h => by cases h) fnExactIsGraph_row_tie rfl ⟨rfl, rfl⟩ (by kernel_rfl) rfl
    (fun f fn hf hfn => by
      obtain rfl : f = 3 := Option.some.inj ((show Tryd.prog.funcNamed "loop.example/g01073/laws.FnExactIsGraph" = some 3 by kernel_rfl).symm.trans hf) |>.symm
      obtain rfl : fn = Tryd.f3 := (Option.some.inj (Tryd.func3.symm.trans hfn)).symm
      exact ⟨by kernel_rfl, fun j t ht => by
        rw [Tryd.params3] at ht
        have hm := Array.mem_of_getElem? ht
        have hall : ((#[3, 25] : Array TypeId).toList.all fun u => !Tryd.prog.wantsStandIn u) = true := by kernel_rfl
        exact (show Tryd.prog.wantsStandIn t = false by simpa using List.all_eq_true.1 hall t (Array.mem_toList_iff.2 hm))⟩)
    (by kernel_rfl)
end Go.Proofs.YthnhholeaiojjaaDoor
