/- The law FnExactRelationFrom: for every input it returns true; each argument and the variable smallPrimes read behind the call as before. No conditions but the row's own: smallPrimes starts as the program's text lays it (tied). -/
import Derived.Test.YthppfooomdlonaaDoorTie
import Derived.Test.YthppfooomdlonaaDoorCards
import Derived.Test.YthppfooomdlonaaDoorLawG
import Derived.Test.YthppfooomdlonaaDoorHRelationFrom
import Derived.Test.YthppfooomdlonaaDoorSpanF
namespace Go.Proofs.YthppfooomdlonaaDoor
set_option maxRecDepth 100000
open Go Go.RowKit Go.WideShapes Go.ChangeShapes Go.Deep

theorem law_RelationFrom (p0_0 : Int) (p1_0 : Int) (p2_0 : Int) (p3_0 : List (List Int)) (up3_0 : Value) (w : World) (ht : Tab w) (hbp1_0 : Bi p1_0) (hvp3_0 : LfG w w.heap.size up3_0 p3_0) :
    Calls Tryd.prog 12 #[.int .i64 p0_0, .int .i64 p1_0, .int .i64 p2_0, up3_0] w fun e w' => e = .returned (.bool true) ∧ Below w.heap.size w w' :=
  harness_RelationFrom p0_0 p1_0 p2_0 p3_0 up3_0 w _ _ _ _ ht hvp3_0
    (fun w B vp3_0 hp3_0 hB sp3_0 => spec_RelationFrom w B vp3_0 p0_0 p1_0 p2_0 p3_0 hbp1_0 hp3_0 hB sp3_0)
    (fun w B vp3_0 ht hp3_0 hB sp3_0 => impl_RelationFrom w B vp3_0 p0_0 p1_0 p2_0 p3_0 hbp1_0 ht hp3_0 hB sp3_0)

theorem fnExactRelationFrom_fn {H : Type} (ds gs : List (DataW H)) (h1 : ds.length = Tryd.f12.params.toList.length) (h2 : gs.length = Rows.fnExactRelationFromSpec.vars.length) : Rows.fnExactRelationFromSpec.fn H (ds ++ gs) = { results := [.lit (.bool true)], args := ds, vars := gs } := by
  rw [Tryd.params12] at h1
  match ds, gs, h1, h2 with
  | [_, _, _, _], [_], _, _ => rfl
set_option maxRecDepth 100000 in
theorem fnExactRelationFrom_lifted (os : Os) (started : os.Started) (H : Type) (enc : TypeId × Value → H) :
    ReturnsInHanded {} Tryd.checked os 12 .any (fun w args => (Rows.fnExactRelationFromSpec.pre enc Tryd.prog Tryd.f12 [] false w args ∧ laidMetH Tryd.prog Rows.fnExactRelationFromRow.laid w) ∧ sizedMet enc Tryd.prog Tryd.f12 (OpenSpec.ofChange Rows.fnExactRelationFromSpec) false w args)
      (Rows.fnExactRelationFromSpec.post enc Tryd.prog Tryd.f12 false true false false) := by
  refine returnsInHanded_of_change_and (C := Tryd.checked) (X := fun w _ => laidMetH Tryd.prog Rows.fnExactRelationFromRow.laid w) (fun _ _ _ hh h => h.of_heap hh) own started (by kernel_rfl) Tryd.func12
    (ChangeSpec.witness_shaped (enc := enc) (C := Tryd.checked) (os := os) (X := fun w _ => laidMetH Tryd.prog Rows.fnExactRelationFromRow.laid w) false (World.doorLaid Tryd.prog 400 os) #[.int .i64 0, .int .i64 0, .int .i64 0, .slice none 0 0] 8 rfl (World.shaped_of_RefB (by kernel_rfl) (by kernel_rfl)) (by kernel_rfl) (by kernel_rfl) (by kernel_rfl) (door_met os _)) ?_
  intro W base args ds gs before hval0 hW _ _ hL _
  have hval : ∀ (j : Nat) t v, Tryd.f12.params[j]? = some t → args[j]? = some v → Value.okWide Tryd.prog W .any base t v := hval0
  have hW' := hW
  obtain ⟨p, q, hA0, hV0, rfl, hfz, hnd⟩ := hW
  have hT := tab_of_laid hL
  replace hA0 : DataW.TrodAll enc Tryd.prog W 0 (fun _ => true) true Tryd.f12.params.toList args.toList ds p := hA0
  have hR0 := Rest.of (f := Tryd.f12) hval hA0 (fun x hx => hW'.lt x hx)
  rw [Tryd.params12] at hR0
  obtain ⟨n0_0, l0, e0, hR1⟩ := hR0.int
  obtain ⟨n1_0, l1, e1, hb1, hR2⟩ := hR1.intB
  obtain ⟨n2_0, l2, e2, hR3⟩ := hR2.int
  obtain ⟨u3_0, n3_0, l3, e3, h3_0, hR4⟩ := hR3.lfG
  have e4 := hR4.nil
  have hargs := args_eq e0
  rw [e1, e2, e3, e4] at hargs
  subst hargs
  refine (law_RelationFrom n0_0 n1_0 n2_0 n3_0 u3_0 W hT hb1 h3_0).mono fun e W' ⟨he, hb⟩ => ?_
  subst he
  exact ⟨_, rfl, post_true (by kernel_rfl) (by kernel_rfl) (by kernel_rfl) rfl Tryd.underlying4 fnExactRelationFrom_fn hW' hb⟩
theorem fnExactRelationFrom_holds : Rows.FnExactRelationFromSaid :=
  OpenClaim.holds_of_wide 12 Tryd.f12 rfl rfl rfl rfl rfl rfl rfl ⟨rfl, rfl, rfl, rfl, rfl⟩ rfl rfl rfl rfl rfl (by kernel_rfl) Tryd.func12 (by kernel_rfl)
    (of_decide_eq_true (by kernel_rfl)) (by unfold Func.isWrapper; first | (rw [if_pos (by decide +kernel)]; kernel_rfl) | (rw [if_neg (by decide +kernel)]; exact ⟨rfl, rfl⟩))
    (fun os started H enc _ => fnExactRelationFrom_lifted os started H enc)
theorem fnExactRelationFrom_card_holds : Rows.FnExactRelationFromCardSaid :=
  Claim7.holds_tied_plain_at .later [] [.data] true _ false
    fnExactRelationFrom_holds (fun _ h => by cases h) (by kernel_rfl) (fun _ h => by cases h) fnExactRelationFrom_row_tie rfl ⟨rfl, rfl⟩ (by kernel_rfl) rfl
    (fun f fn hf hfn => by
      obtain rfl : f = 12 := Option.some.inj ((show Tryd.prog.funcNamed "loop.example/g01073/laws.FnExactRelationFrom" = some 12 by kernel_rfl).symm.trans hf) |>.symm
      obtain rfl : fn = Tryd.f12 := (Option.some.inj (Tryd.func12.symm.trans hfn)).symm
      exact ⟨by kernel_rfl, fun j t ht => by
        rw [Tryd.params12] at ht
        have hm := Array.mem_of_getElem? ht
        have hall : ((#[3, 3, 3, 22] : Array TypeId).toList.all fun u => !Tryd.prog.wantsStandIn u) = true := by kernel_rfl
        exact (show Tryd.prog.wantsStandIn t = false by simpa using List.all_eq_true.1 hall t (Array.mem_toList_iff.2 hm))⟩)
    (by kernel_rfl)
end Go.Proofs.YthppfooomdlonaaDoor
