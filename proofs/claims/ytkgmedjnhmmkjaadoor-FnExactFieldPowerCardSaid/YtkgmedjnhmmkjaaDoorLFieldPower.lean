/- The law FnExactFieldPower: for every input it returns true; each argument and the variable smallPrimes read behind the call as before. No conditions but the row's own: smallPrimes starts as the program's text lays it (tied). -/
import Derived.Test.YtkgmedjnhmmkjaaDoorTie
import Derived.Test.YtkgmedjnhmmkjaaDoorCards
import Derived.Test.YtkgmedjnhmmkjaaDoorLawCommon
import Derived.Test.YtkgmedjnhmmkjaaDoorFdFuncs3
namespace Go.Proofs.YtkgmedjnhmmkjaaDoor
open Go Go.RowKit Go.WideShapes Go.ChangeShapes

theorem law_FieldPower (p a n : Int) (w : World) (ht : Tab w) : Calls Tryd.prog 7 #[.int .i64 p, .int .i64 a, .int .i64 n] w fun e w' => e = .returned (.bool true) ∧ Below w.heap.size w w' := by
  have HT := Lib.hid ht
  clear ht
  go_enter Tryd.func7, Tryd.ntmps7
  go_wp2_with fail
  refine (spec_FieldPower p a n _).mono ?_
  rintro e w' ⟨rfl, rfl⟩
  go_wp2_with fail
  refine (impl_FieldPower p a n _ HT.out).mono ?_
  rintro e w' ⟨rfl, hb⟩
  go_wp2
  go_ret
  exact ⟨rfl, hb⟩

theorem fnExactFieldPower_fn {H : Type} (ds gs : List (DataW H)) (h1 : ds.length = Tryd.f7.params.toList.length) (h2 : gs.length = Rows.fnExactFieldPowerSpec.vars.length) : Rows.fnExactFieldPowerSpec.fn H (ds ++ gs) = { results := [.lit (.bool true)], args := ds, vars := gs } := by
  rw [Tryd.params7] at h1
  match ds, gs, h1, h2 with
  | [_, _, _], [_], _, _ => rfl
set_option maxRecDepth 100000 in
theorem fnExactFieldPower_lifted (os : Os) (started : os.Started) (H : Type) (enc : TypeId × Value → H) :
    ReturnsInHanded {} Tryd.checked os 7 .any (fun w args => (Rows.fnExactFieldPowerSpec.pre enc Tryd.prog Tryd.f7 [] false w args ∧ laidMetH Tryd.prog Rows.fnExactFieldPowerRow.laid w) ∧ sizedMet enc Tryd.prog Tryd.f7 (OpenSpec.ofChange Rows.fnExactFieldPowerSpec) false w args)
      (Rows.fnExactFieldPowerSpec.post enc Tryd.prog Tryd.f7 false true false false) := by
  refine returnsInHanded_of_change_and (C := Tryd.checked) (X := fun w _ => laidMetH Tryd.prog Rows.fnExactFieldPowerRow.laid w) (fun _ _ _ hh h => h.of_heap hh) own started (by kernel_rfl) Tryd.func7
    (ChangeSpec.witness_shaped (enc := enc) (C := Tryd.checked) (os := os) (X := fun w _ => laidMetH Tryd.prog Rows.fnExactFieldPowerRow.laid w) false (World.doorLaid Tryd.prog 400 os) #[.int .i64 0, .int .i64 0, .int .i64 0] 8 rfl (World.shaped_of_RefB (by kernel_rfl) (by kernel_rfl)) (by kernel_rfl) (by kernel_rfl) (by kernel_rfl) (door_met os _)) ?_
  intro W base args ds gs before hval0 hW _ _ hL _
  have hval : ∀ (j : Nat) t v, Tryd.f7.params[j]? = some t → args[j]? = some v → Value.okWide Tryd.prog W .any base t v := hval0
  have hW' := hW
  obtain ⟨p, q, hA0, hV0, rfl, hfz, hnd⟩ := hW
  have hT := tab_of_laid hL
  replace hA0 : DataW.TrodAll enc Tryd.prog W 0 (fun _ => true) true Tryd.f7.params.toList args.toList ds p := hA0
  rw [Tryd.params7] at hA0 hval
  obtain ⟨n0, n1, n2, rfl⟩ := ints3 hval hA0
  refine (law_FieldPower n0 n1 n2 W hT).mono fun e W' ⟨he, hb⟩ => ?_
  subst he
  exact ⟨_, rfl, post_true (by kernel_rfl) (by kernel_rfl) (by kernel_rfl) rfl Tryd.underlying4 fnExactFieldPower_fn hW' hb⟩
theorem fnExactFieldPower_holds : Rows.FnExactFieldPowerSaid :=
  OpenClaim.holds_of_wide 7 Tryd.f7 rfl rfl rfl rfl rfl rfl rfl ⟨rfl, rfl, rfl, rfl, rfl⟩ rfl rfl rfl rfl rfl (by kernel_rfl) Tryd.func7 (by kernel_rfl)
    (of_decide_eq_true (by kernel_rfl)) (by unfold Func.isWrapper; first | (rw [if_pos (by decide +kernel)]; kernel_rfl) | (rw [if_neg (by decide +kernel)]; exact ⟨rfl, rfl⟩))
    (fun os started H enc _ => fnExactFieldPower_lifted os started H enc)
theorem fnExactFieldPower_card_holds : Rows.FnExactFieldPowerCardSaid :=
  Claim7.holds_tied_plain_at .later [] [.data] true _ false
    fnExactFieldPower_holds (fun _ h => by cases h) (by kernel_rfl) (fun _ h => by cases h) fnExactFieldPower_row_tie rfl ⟨rfl, rfl⟩ (by kernel_rfl) rfl
    (fun f fn hf hfn => by
      obtain rfl : f = 7 := Option.some.inj ((show Tryd.prog.funcNamed "loop.example/g01073/laws.FnExactFieldPower" = some 7 by kernel_rfl).symm.trans hf) |>.symm
      obtain rfl : fn = Tryd.f7 := (Option.some.inj (Tryd.func7.symm.trans hfn)).symm
      exact ⟨by kernel_rfl, fun j t ht => by
        rw [Tryd.params7] at ht
        have hm := Array.mem_of_getElem? ht
        have hall : ((#[3, 3, 3] : Array TypeId).toList.all fun u => !Tryd.prog.wantsStandIn u) = true := by kernel_rfl
        exact (show Tryd.prog.wantsStandIn t = false by simpa using List.all_eq_true.1 hall t (Array.mem_toList_iff.2 hm))⟩)
    (by kernel_rfl)
end Go.Proofs.YtkgmedjnhmmkjaaDoor
