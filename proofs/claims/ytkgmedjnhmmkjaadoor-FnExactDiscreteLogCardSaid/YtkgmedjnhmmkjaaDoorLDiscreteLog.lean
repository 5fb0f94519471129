/- The law FnExactDiscreteLog: for every input it returns true; each argument and the variable smallPrimes read behind the call as before. No conditions but the row's own: smallPrimes starts as the program's text lays it (tied). -/
import Derived.Test.YtkgmedjnhmmkjaaDoorTie
import Derived.Test.YtkgmedjnhmmkjaaDoorCards
import Derived.Test.YtkgmedjnhmmkjaaDoorLawCommon
import Derived.Test.YtkgmedjnhmmkjaaDoorFdFuncs2
namespace Go.Proofs.YtkgmedjnhmmkjaaDoor
open Go Go.RowKit Go.WideShapes Go.ChangeShapes

theorem law_DiscreteLog (p b a : Int) (w : World) (ht : Tab w) : Calls Tryd.prog 10 #[.int .i64 p, .int .i64 b, .int .i64 a] w fun e w' => e = .returned (.bool true) ∧ Below w.heap.size w w' := by
  have HT := Lib.hid ht
  clear ht
  go_enter Tryd.func10, Tryd.ntmps10
  go_wp2_with fail
  refine (spec_DiscreteLog p b a _).mono ?_
  rintro e w' ⟨rfl, rfl⟩
  go_wp2_with fail
  refine (impl_DiscreteLog p b a _ HT.out).mono ?_
  rintro e w' ⟨rfl, hb⟩
  go_wp2
  go_ret
  exact ⟨rfl, hb⟩

theorem fnExactDiscreteLog_fn {H : Type} (ds gs : List (DataW H)) (h1 : ds.length = Tryd.f10.params.toList.length) (h2 : gs.length = Rows.fnExactDiscreteLogSpec.vars.length) : Rows.fnExactDiscreteLogSpec.fn H (ds ++ gs) = { results := [.lit (.bool true)], args := ds, vars := gs } := by
  rw [Tryd.params10] at h1
  match ds, gs, h1, h2 with
  | [_, _, _], [_], _, _ => rfl
set_option maxRecDepth 100000 in
theorem fnExactDiscreteLog_lifted (os : Os) (started : os.Started) (H : Type) (enc : TypeId × Value → H) :
    ReturnsInHanded {} Tryd.checked os 10 .any (fun w args => (Rows.fnExactDiscreteLogSpec.pre enc Tryd.prog Tryd.f10 [] false w args ∧ laidMetH Tryd.prog Rows.fnExactDiscreteLogRow.laid w) ∧ sizedMet enc Tryd.prog Tryd.f10 (OpenSpec.ofChange Rows.fnExactDiscreteLogSpec) false w args)
      (Rows.fnExactDiscreteLogSpec.post enc Tryd.prog Tryd.f10 false true false false) := by
  refine returnsInHanded_of_change_and (C := Tryd.checked) (X := fun w _ => laidMetH Tryd.prog Rows.fnExactDiscreteLogRow.laid w) (fun _ _ _ hh h => h.of_heap hh) own started (by kernel_rfl) Tryd.func10
    (ChangeSpec.witness_shaped (enc := enc) (C := Tryd.checked) (os := os) (X := fun w _ => laidMetH Tryd.prog Rows.fnExactDiscreteLogRow.laid w) false (World.doorLaid Tryd.prog 400 os) #[.int .i64 0, .int .i64 0, .int .i64 0] 8 rfl (World.shaped_of_RefB (by kernel_rfl) (by kernel_rfl)) (by kernel_rfl) (by kernel_rfl) (by kernel_rfl) (door_met os _)) ?_
  intro W base args ds gs before hval0 hW _ _ hL _
  have hval : ∀ (j : Nat) t v, Tryd.f10.params[j]? = some t → args[j]? = some v → Value.okWide Tryd.prog W .any base t v := hval0
  have hW' := hW
  obtain ⟨p, q, hA0, hV0, rfl, hfz, hnd⟩ := hW
  have hT := tab_of_laid hL
  replace hA0 : DataW.TrodAll enc Tryd.prog W 0 (fun _ => true) true Tryd.f10.params.toList args.toList ds p := hA0
  rw [Tryd.params10] at hA0 hval
  obtain ⟨n0, n1, n2, rfl⟩ := ints3 hval hA0
  refine (law_DiscreteLog n0 n1 n2 W hT).mono fun e W' ⟨he, hb⟩ => ?_
  subst he
  exact ⟨_, rfl, post_true (by kernel_rfl) (by kernel_rfl) (by kernel_rfl) rfl Tryd.underlying4 fnExactDiscreteLog_fn hW' hb⟩
theorem fnExactDiscreteLog_holds : Rows.FnExactDiscreteLogSaid :=
  OpenClaim.holds_of_wide 10 Tryd.f10 rfl rfl rfl rfl rfl rfl rfl ⟨rfl, rfl, rfl, rfl, rfl⟩ rfl rfl rfl rfl rfl (by kernel_rfl) Tryd.func10 (by kernel_rfl)
    (of_decide_eq_true (by kernel_rfl)) (by unfold Func.isWrapper; first | (rw [if_pos (by decide +kernel)]; kernel_rfl) | (rw [if_neg (by decide +kernel)]; exact ⟨rfl, rfl⟩))
    (fun os started H enc _ => fnExactDiscreteLog_lifted os started H enc)
theorem fnExactDiscreteLog_card_holds : Rows.FnExactDiscreteLogCardSaid :=
  Claim7.holds_tied_plain_at .later [] [.data] true _ false
    fnExactDiscreteLog_holds (fun _ h => by cases h) (by kernel_rfl) (fun _ h => by cases h) fnExactDiscreteLog_row_tie rfl ⟨rfl, rfl⟩ (by kernel_rfl) rfl
    (fun f fn hf hfn => by
      obtain rfl : f = 10 := Option.some.inj ((show Tryd.prog.funcNamed "loop.example/g01073/laws.FnExactDiscreteLog" = some 10 by kernel_rfl).symm.trans hf) |>.symm
      obtain rfl : fn = Tryd.f10 := (Option.some.inj (Tryd.func10.symm.trans hfn)).symm
      exact ⟨by kernel_rfl, fun j t ht => by
        rw [Tryd.params10] at ht
        have hm := Array.mem_of_getElem? ht
        have hall : ((#[3, 3, 3] : Array TypeId).toList.all fun u => !Tryd.prog.wantsStandIn u) = true := by kernel_rfl
        exact (show Tryd.prog.wantsStandIn t = false by simpa using List.all_eq_true.1 hall t (Array.mem_toList_iff.2 hm))⟩)
    (by kernel_rfl)
end Go.Proofs.YtkgmedjnhmmkjaaDoor
