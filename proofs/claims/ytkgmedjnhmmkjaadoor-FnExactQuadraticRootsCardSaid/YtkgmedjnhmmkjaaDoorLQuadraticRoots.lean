/- The law FnExactQuadraticRoots: for every input it returns true; each argument and the variable smallPrimes read behind the call as before. No conditions but the row's own: smallPrimes starts as the program's text lays it (tied). -/
import Derived.Test.YtkgmedjnhmmkjaaDoorTie
import Derived.Test.YtkgmedjnhmmkjaaDoorCards
import Derived.Test.YtkgmedjnhmmkjaaDoorLawCommon
import Derived.Test.YtkgmedjnhmmkjaaDoorFdQuad
namespace Go.Proofs.YtkgmedjnhmmkjaaDoor
open Go Go.RowKit Go.WideShapes Go.ChangeShapes

theorem resQ_len (p a b c : Int) : (resQ p a b c).length ≤ 97 := by
  unfold resQ
  cases h : elems p [a, b, c] with
  | false => simp
  | true =>
    have := (elems_cases h).2.1
    have := qroots_len p a b c p.toNat
    simp
    omega
set_option maxHeartbeats 800000 in
set_option maxRecDepth 100000 in
theorem law_QuadraticRoots (p a b c : Int) (w : World) (ht : Tab w) : Calls Tryd.prog 12 #[.int .i64 p, .int .i64 a, .int .i64 b, .int .i64 c] w fun e w' => e = .returned (.bool true) ∧ Below w.heap.size w w' := by
  have HT := Lib.hid ht
  have hlen := resQ_len p a b c
  clear ht
  go_enter Tryd.func12, Tryd.ntmps12
  go_wp2_with fail
  refine (spec_QuadraticRoots p a b c _).mono ?_
  rintro e w1 ⟨v1, rfl, o1, b1⟩
  have HT1 := Lib.hid (HT.out.below b1)
  have HB1 := Lib.hid b1
  have HR1 := Lib.hid o1.read
  clear o1 b1
  go_wp2_with fail
  refine (impl_QuadraticRoots p a b c _ HT1.out).mono ?_
  rintro e w2 ⟨v2, rfl, o2, b2⟩
  have HB2 := Lib.hid b2
  have HT2 := Lib.hid (HT1.out.below b2)
  have HO2 := Lib.hid o2
  have HR2 := Lib.hid (HR1.out.below b2 (Nat.le_refl _))
  clear o2 b2
  go_wp2_with fail
  refine (eqIntS_any _ w2.heap.size _ _ _ _ HO2.out.read (HR2.out.mono HB2.out.size) (by omega)).mono ?_
  rintro e w3 ⟨rfl, n, rfl⟩
  go_wp2_with fail
  refine (markIntS_any _ w1.heap.size _ _ 1 (by exact HO2.out) (by omega) (by omega)).mono ?_
  rintro e w3 ⟨rfl, b3, s3, o3⟩
  have HB3 := Lib.hid (below_undrewN b3)
  have HS3 := Lib.hid (show w3.heap.size = w2.heap.size from s3)
  have HT3 := Lib.hid (HT2.out.below' (below_undrewN b3) HT1.out.size)
  have HO3 := Lib.hid o3
  have HR3 := Lib.hid (HR2.out.below (below_undrewN b3) (Nat.le_refl _))
  clear b3 s3 o3
  go_wp2_with fail
  refine (heldIntS_any _ w3.heap.size _ 1 _ HO3.out.read (by omega) (by omega)).mono ?_
  rintro e w' ⟨rfl, rfl⟩
  have hm : ¬ ((1 : Int) + (resQ p a b c).length < 0) := by omega
  go_wp2_with fail
  refine (impl_QuadraticRoots p a b c _ HT3.out).mono ?_
  rintro e w4 ⟨v4, rfl, o4, b4⟩
  have HB4 := Lib.hid b4
  have HO4 := Lib.hid o4
  have HL := Lib.hid (show w1.heap.size ≤ w3.heap.size by rw [HS3.out]; exact HB2.out.size)
  have HR4 := Lib.hid (HR3.out.below b4 HL.out)
  have HO34 := Lib.hid (HO3.out.below b4)
  clear o4 b4
  go_wp2_with fail
  refine (eqIntS_any _ w4.heap.size _ _ _ _ HO4.out.read (HR4.out.mono (Nat.le_trans HL.out HB4.out.size)) (by omega)).mono ?_
  rintro e w5 ⟨rfl, n', rfl⟩
  go_wp2_with fail
  refine (heldIntS_any _ w4.heap.size _ 1 _ (by exact HO34.out.read) (by omega) (by omega)).mono ?_
  rintro e w' ⟨rfl, rfl⟩
  go_wp2
  go_ret
  refine ⟨rfl, ?_⟩
  have h1 : w.heap.size ≤ w1.heap.size := HB1.out.size
  exact ((HB1.out.trans (HB2.out.mono h1)).trans (HB3.out.mono h1)).trans (below_drewN (HB4.out.mono (Nat.le_trans h1 HL.out)))

theorem fnExactQuadraticRoots_fn {H : Type} (ds gs : List (DataW H)) (h1 : ds.length = Tryd.f12.params.toList.length) (h2 : gs.length = Rows.fnExactQuadraticRootsSpec.vars.length) : Rows.fnExactQuadraticRootsSpec.fn H (ds ++ gs) = { results := [.lit (.bool true)], args := ds, vars := gs } := by
  rw [Tryd.params12] at h1
  match ds, gs, h1, h2 with
  | [_, _, _, _], [_], _, _ => rfl
set_option maxRecDepth 100000 in
theorem fnExactQuadraticRoots_lifted (os : Os) (started : os.Started) (H : Type) (enc : TypeId × Value → H) :
    ReturnsInHanded {} Tryd.checked os 12 .any (fun w args => (Rows.fnExactQuadraticRootsSpec.pre enc Tryd.prog Tryd.f12 [] false w args ∧ laidMetH Tryd.prog Rows.fnExactQuadraticRootsRow.laid w) ∧ sizedMet enc Tryd.prog Tryd.f12 (OpenSpec.ofChange Rows.fnExactQuadraticRootsSpec) false w args)
      (Rows.fnExactQuadraticRootsSpec.post enc Tryd.prog Tryd.f12 false true false false) := by
  refine returnsInHanded_of_change_and (C := Tryd.checked) (X := fun w _ => laidMetH Tryd.prog Rows.fnExactQuadraticRootsRow.laid w) (fun _ _ _ hh h => h.of_heap hh) own started (by kernel_rfl) Tryd.func12
    (ChangeSpec.witness_shaped (enc := enc) (C := Tryd.checked) (os := os) (X := fun w _ => laidMetH Tryd.prog Rows.fnExactQuadraticRootsRow.laid w) false (World.doorLaid Tryd.prog 400 os) #[.int .i64 0, .int .i64 0, .int .i64 0, .int .i64 0] 8 rfl (World.shaped_of_RefB (by kernel_rfl) (by kernel_rfl)) (by kernel_rfl) (by kernel_rfl) (by kernel_rfl) (door_met os _)) ?_
  intro W base args ds gs before hval0 hW _ _ hL _
  have hval : ∀ (j : Nat) t v, Tryd.f12.params[j]? = some t → args[j]? = some v → Value.okWide Tryd.prog W .any base t v := hval0
  have hW' := hW
  obtain ⟨p, q, hA0, hV0, rfl, hfz, hnd⟩ := hW
  have hT := tab_of_laid hL
  replace hA0 : DataW.TrodAll enc Tryd.prog W 0 (fun _ => true) true Tryd.f12.params.toList args.toList ds p := hA0
  rw [Tryd.params12] at hA0 hval
  obtain ⟨n0, n1, n2, n3, rfl⟩ := ints4 hval hA0
  refine (law_QuadraticRoots n0 n1 n2 n3 W hT).mono fun e W' ⟨he, hb⟩ => ?_
  subst he
  exact ⟨_, rfl, post_true (by kernel_rfl) (by kernel_rfl) (by kernel_rfl) rfl Tryd.underlying4 fnExactQuadraticRoots_fn hW' hb⟩
theorem fnExactQuadraticRoots_holds : Rows.FnExactQuadraticRootsSaid :=
  OpenClaim.holds_of_wide 12 Tryd.f12 rfl rfl rfl rfl rfl rfl rfl ⟨rfl, rfl, rfl, rfl, rfl⟩ rfl rfl rfl rfl rfl (by kernel_rfl) Tryd.func12 (by kernel_rfl)
    (of_decide_eq_true (by kernel_rfl)) (by unfold Func.isWrapper; first | (rw [if_pos (by decide +kernel)]; kernel_rfl) | (rw [if_neg (by decide +kernel)]; exact ⟨rfl, rfl⟩))
    (fun os started H enc _ => fnExactQuadraticRoots_lifted os started H enc)
theorem fnExactQuadraticRoots_card_holds : Rows.FnExactQuadraticRootsCardSaid :=
  Claim7.holds_tied_plain_at .later [] [.data] true _ false
    fnExactQuadraticRoots_holds (fun _ h => by cases h) (by kernel_rfl) (fun _ h => by cases h) fnExactQuadraticRoots_row_tie rfl ⟨rfl, rfl⟩ (by kernel_rfl) rfl
    (fun f fn hf hfn => by
      obtain rfl : f = 12 := Option.some.inj ((show Tryd.prog.funcNamed "loop.example/g01073/laws.FnExactQuadraticRoots" = some 12 by kernel_rfl).symm.trans hf) |>.symm
      obtain rfl : fn = Tryd.f12 := (Option.some.inj (Tryd.func12.symm.trans hfn)).symm
      exact ⟨by kernel_rfl, fun j t ht => by
        rw [Tryd.params12] at ht
        have hm := Array.mem_of_getElem? ht
        have hall : ((#[3, 3, 3, 3] : Array TypeId).toList.all fun u => !Tryd.prog.wantsStandIn u) = true := by kernel_rfl
        exact (show Tryd.prog.wantsStandIn t = false by simpa using List.all_eq_true.1 hall t (Array.mem_toList_iff.2 hm))⟩)
    (by kernel_rfl)
end Go.Proofs.YtkgmedjnhmmkjaaDoor
