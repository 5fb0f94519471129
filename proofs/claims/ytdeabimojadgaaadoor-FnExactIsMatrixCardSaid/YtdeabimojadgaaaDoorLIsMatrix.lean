/- The law FnExactIsMatrix: for every input it returns true; each argument and the variable smallPrimes read behind the call as before. No conditions but the row's own: smallPrimes starts as the program's text lays it (tied). -/
import Derived.Test.YtdeabimojadgaaaDoorTie
import Derived.Test.YtdeabimojadgaaaDoorCards
import Derived.Test.YtdeabimojadgaaaDoorLawMat
import Derived.Test.YtdeabimojadgaaaDoorMxGood
namespace Go.Proofs.YtdeabimojadgaaaDoor
open Go Go.RowKit Go.WideShapes Go.ChangeShapes Go.Deep

set_option maxHeartbeats 1600000 in
set_option maxRecDepth 100000 in
theorem law_IsMatrix (p c : Int) (u : Value) (rows : List (List Int)) (w : World) (ht : Tab w) (hv : RdG w w.heap.size u rows) (hn : rows.length ≤ 9223372036854775807) (hr : ∀ r, r < rows.length → (rows.getD r []).length ≤ 9223372036854775807) :
    Calls Tryd.prog 3 #[.int .i64 p, .agg #[.int .i64 c, u]] w fun e w' => e = .returned (.bool true) ∧ Below w.heap.size w w' := by
  have HV := Lib.hid hv
  obtain ⟨A, cp, rfl⟩ := hv.len
  have HT := Lib.hid ht
  have HR := Lib.hid hr
  clear ht hv hr
  go_enter Tryd.func3, Tryd.ntmps3
  go_wp2_with fail
  refine (szMatrix_any _ w.heap.size _ c rows 1048576 (HV.out.below ((Below.refl _ _).alloc (Nat.le_refl _) _) (Nat.le_refl _)) (by simp) (by omega) (by omega) hn HR.out).mono ?_
  rintro e w2 ⟨b2, h2⟩
  have hb2 := ((Below.refl _ w).alloc (Nat.le_refl _) _).trans (b2.mono (B' := w.heap.size) (by simp))
  have hx0 : w2.cell? ⟨w.heap.size, 0, none⟩ = some (.int .i64 c) := by have := b2.cell (p := ⟨w.heap.size, 0, none⟩) (by simp); simpa [go_sem] using this
  have hx1 : w2.cell? ⟨w.heap.size, 1, none⟩ = some (.slice A rows.length cp) := by have := b2.cell (p := ⟨w.heap.size, 1, none⟩) (by simp); simpa [go_sem] using this
  have hs2 : w.heap.size < w2.heap.size := by have := b2.size; simp at this; omega
  have HB2 := Lib.hid hb2
  clear b2 hb2
  rcases h2 with rfl | ⟨hle, rfl⟩
  · go_wp2
    go_ret
    exact ⟨rfl, HB2.out⟩
  · have hge : ¬ (1048576 : Int) - ((rows.length + tot rows : Nat) : Int) < 0 := by omega
    have hl1 : rows.length ≤ 1048576 := by omega
    have HR2 := Lib.hid (show ∀ r, r < rows.length → (rows.getD r []).length ≤ 1048576 from fun r h => by have := row_le h; omega)
    generalize ((rows.length + tot rows : Nat) : Int) = z at hge
    clear hle
    go_wp2_with fail
    refine (toMatrix_any _ w.heap.size _ c rows (HV.out.below HB2.out (Nat.le_refl _)) HB2.out.size (by omega) (fun r h => by have := HR2.out r h; omega)).mono ?_
    rintro e w3 ⟨v3, rfl, b3, o3⟩
    obtain ⟨A3, c3, rfl⟩ := o3.len
    have HB3 := Lib.hid (HB2.out.trans (b3.mono HB2.out.size))
    have HO3 := Lib.hid o3
    have hy0 : w3.cell? ⟨w.heap.size, 0, none⟩ = some (.int .i64 c) := (b3.cell (p := ⟨w.heap.size, 0, none⟩) hs2).trans hx0
    have hy1 : w3.cell? ⟨w.heap.size, 1, none⟩ = some (.slice A rows.length cp) := (b3.cell (p := ⟨w.heap.size, 1, none⟩) hs2).trans hx1
    have hs3 : w.heap.size < w3.heap.size := by have := b3.size; omega
    clear hx0 hx1 b3 o3
    go_wp2_with fail
    refine (specIsMatrix_any _ w3.heap.size _ p c rows HO3.out.readB (Nat.le_refl _) (by omega) (fun r h => by have := HR2.out r h; omega)).mono ?_
    rintro e w4 ⟨rfl, b4⟩
    have HB4 := Lib.hid (HB3.out.trans (b4.mono HB3.out.size))
    have hx0 : w4.cell? ⟨w.heap.size, 0, none⟩ = some (.int .i64 c) := (b4.cell (p := ⟨w.heap.size, 0, none⟩) hs3).trans hy0
    have hx1 : w4.cell? ⟨w.heap.size, 1, none⟩ = some (.slice A rows.length cp) := (b4.cell (p := ⟨w.heap.size, 1, none⟩) hs3).trans hy1
    have hs4 : w.heap.size < w4.heap.size := by have := b4.size; omega
    clear hy0 hy1 b4
    go_wp2_with fail
    refine (toMatrix_any _ w.heap.size _ c rows (HV.out.below HB4.out (Nat.le_refl _)) HB4.out.size (by omega) (fun r h => by have := HR2.out r h; omega)).mono ?_
    rintro e w5 ⟨v5, rfl, b5, o5⟩
    obtain ⟨A5, c5, rfl⟩ := o5.len
    have HB5 := Lib.hid (HB4.out.trans (b5.mono HB4.out.size))
    have HO5 := Lib.hid o5
    have hy0 : w5.cell? ⟨w.heap.size, 0, none⟩ = some (.int .i64 c) := (b5.cell (p := ⟨w.heap.size, 0, none⟩) hs4).trans hx0
    have hy1 : w5.cell? ⟨w.heap.size, 1, none⟩ = some (.slice A rows.length cp) := (b5.cell (p := ⟨w.heap.size, 1, none⟩) hs4).trans hx1
    have hs5 : w.heap.size < w5.heap.size := by have := b5.size; omega
    have HT5 := Lib.hid (fun o => (HT.out.below HB5.out).below ((Below.refl _ w5).alloc (Nat.le_refl _) o))
    have HRD := Lib.hid (fun o => HO5.out.readB.below ((Below.refl _ w5).alloc (Nat.le_refl _) o) (Nat.le_refl _))
    clear hx0 hx1 b5 o5
    go_wp2_with fail
    refine (implIsMatrix_any _ w5.heap.size _ p c rows (HT5.out _) (HRD.out _) (by simp) (by omega) (fun r h => by have := HR2.out r h; omega)).mono ?_
    rintro e w6 ⟨rfl, b6⟩
    have h56 : Below w5.heap.size w5 w6 := ((Below.refl _ w5).alloc (Nat.le_refl _) _).trans (b6.mono (by simp))
    have HB6 := Lib.hid (HB5.out.trans (h56.mono HB5.out.size))
    have H56 := Lib.hid h56
    have hx0 : w6.cell? ⟨w.heap.size, 0, none⟩ = some (.int .i64 c) := (h56.cell (p := ⟨w.heap.size, 0, none⟩) hs5).trans hy0
    have hx1 : w6.cell? ⟨w.heap.size, 1, none⟩ = some (.slice A rows.length cp) := (h56.cell (p := ⟨w.heap.size, 1, none⟩) hs5).trans hy1
    have hz0 : w6.cell? ⟨w5.heap.size, 0, none⟩ = some (.int .i64 c) := by have := b6.cell (p := ⟨w5.heap.size, 0, none⟩) (by simp); simpa [go_sem] using this
    have hz1 : w6.cell? ⟨w5.heap.size, 1, none⟩ = some (.slice A5 rows.length c5) := by have := b6.cell (p := ⟨w5.heap.size, 1, none⟩) (by simp); simpa [go_sem] using this
    have hs6 : w.heap.size < w6.heap.size := by have := h56.size; omega
    have hs56 : w5.heap.size < w6.heap.size := by have := b6.size; simp at this; omega
    have hq : (isMat p c rows != isMat p c rows) = false := by simp
    generalize isMat p c rows = bb at hq
    clear b6 h56 hy0 hy1
    go_wp2_with fail
    have HD6 : Hid (Below w6.heap.size w6 w6.drew) := Lib.hid (Below.refl _ _).drew
    have HV6 := Lib.hid ((HV.out.below HB6.out (Nat.le_refl _)).mono HB6.out.size)
    have HG6 := Lib.hid ((HO5.out.readB.below H56.out (Nat.le_refl _)).mono H56.out.size)
    have HRR := Lib.hid (show ∀ r, r < rows.length → (rows.getD r []).length ≤ 1000000000 from fun r h => by have := HR2.out r h; omega)
    go_region_held3 (fun w' => w'.cell? ⟨w.heap.size, 0, none⟩ = some (.int .i64 c) ∧ w'.cell? ⟨w.heap.size, 1, none⟩ = some (.slice A rows.length cp) ∧ w'.cell? ⟨w5.heap.size, 0, none⟩ = some (.int .i64 c) ∧ w'.cell? ⟨w5.heap.size, 1, none⟩ = some (.slice A5 rows.length c5) ∧ Hid (Below w6.heap.size w6 w'))
      (exact held2 (by assumption) hx0 hx1 hs6 hz0 hz1 hs56)
      (first
        | (go_at_call 16; go_split_ands; refine (toMatrix_from w6 _ (by assumption) _ c rows HV6.out (by omega) HRR.out).mono ?_; rintro e wa ⟨va, rfl, ba, bb, oa⟩)
        | (go_at_call 18; go_split_ands; refine (eqMatrix_from w6 _ (by assumption) _ _ _ c rows HG6.out (by assumption) (by omega) HR.out).mono ?_; rintro e wb ⟨rfl, bc⟩))
    go_wp2
    go_ret
    exact ⟨rfl, HB6.out.trans (bc.out.mono HB6.out.size)⟩

theorem fnExactIsMatrix_fn {H : Type} (ds gs : List (DataW H)) (h1 : ds.length = Tryd.f3.params.toList.length) (h2 : gs.length = Rows.fnExactIsMatrixSpec.vars.length) : Rows.fnExactIsMatrixSpec.fn H (ds ++ gs) = { results := [.lit (.bool true)], args := ds, vars := gs } := by
  rw [Tryd.params3] at h1
  match ds, gs, h1, h2 with
  | [_, _], [_], _, _ => rfl
set_option maxRecDepth 100000 in
theorem fnExactIsMatrix_lifted (os : Os) (started : os.Started) (H : Type) (enc : TypeId × Value → H) :
    ReturnsInHanded {} Tryd.checked os 3 .any (fun w args => (Rows.fnExactIsMatrixSpec.pre enc Tryd.prog Tryd.f3 [] false w args ∧ laidMetH Tryd.prog Rows.fnExactIsMatrixRow.laid w) ∧ sizedMet enc Tryd.prog Tryd.f3 (OpenSpec.ofChange Rows.fnExactIsMatrixSpec) false w args)
      (Rows.fnExactIsMatrixSpec.post enc Tryd.prog Tryd.f3 false true false false) := by
  refine returnsInHanded_of_change_and (C := Tryd.checked) (X := fun w _ => laidMetH Tryd.prog Rows.fnExactIsMatrixRow.laid w) (fun _ _ _ hh h => h.of_heap hh) own started (by kernel_rfl) Tryd.func3
    (ChangeSpec.witness_shaped (enc := enc) (C := Tryd.checked) (os := os) (X := fun w _ => laidMetH Tryd.prog Rows.fnExactIsMatrixRow.laid w) false (World.doorLaid Tryd.prog 400 os) #[.int .i64 0, .agg #[.int .i64 0, .slice none 0 0]] 8 rfl (World.shaped_of_RefB (by kernel_rfl) (by kernel_rfl)) (by kernel_rfl) (by kernel_rfl) (by kernel_rfl) (door_met os _)) ?_
  intro W base args ds gs before hval0 hW _ _ hL _
  have hval : ∀ (j : Nat) t v, Tryd.f3.params[j]? = some t → args[j]? = some v → Value.okWide Tryd.prog W .any base t v := hval0
  have hW' := hW
  obtain ⟨p, q, hA0, hV0, rfl, hfz, hnd⟩ := hW
  have hT := tab_of_laid hL
  replace hA0 : DataW.TrodAll enc Tryd.prog W 0 (fun _ => true) true Tryd.f3.params.toList args.toList ds p := hA0
  have hR0 := Rest.of (f := Tryd.f3) hval hA0 (fun x hx => hW'.lt x hx)
  rw [Tryd.params3] at hR0
  obtain ⟨n0, l0, e0, hR1⟩ := hR0.int
  obtain ⟨c1, u1, rows1, l1, e1, h1a, h1b, h1c, hR2⟩ := hR1.mat
  have e2 := hR2.nil
  have hargs := args_eq e0
  rw [e1, e2] at hargs
  subst hargs
  refine (law_IsMatrix n0 c1 u1 rows1 W hT h1a h1b h1c).mono fun e W' ⟨he, hb⟩ => ?_
  subst he
  exact ⟨_, rfl, post_true (by kernel_rfl) (by kernel_rfl) (by kernel_rfl) rfl Tryd.underlying4 fnExactIsMatrix_fn hW' hb⟩
theorem fnExactIsMatrix_holds : Rows.FnExactIsMatrixSaid :=
  OpenClaim.holds_of_wide 3 Tryd.f3 rfl rfl rfl rfl rfl rfl rfl ⟨rfl, rfl, rfl, rfl, rfl⟩ rfl rfl rfl rfl rfl (by kernel_rfl) Tryd.func3 (by kernel_rfl)
    (of_decide_eq_true (by kernel_rfl)) (by unfold Func.isWrapper; first | (rw [if_pos (by decide +kernel)]; kernel_rfl) | (rw [if_neg (by decide +kernel)]; exact ⟨rfl, rfl⟩))
    (fun os started H enc _ => fnExactIsMatrix_lifted os started H enc)
theorem fnExactIsMatrix_card_holds : Rows.FnExactIsMatrixCardSaid :=
  Claim7.holds_tied_plain_at .later [] [.data] true _ false
    fnExactIsMatrix_holds (fun _ h => by cases h) (by kernel_rfl) (fun _ h => by cases h) fnExactIsMatrix_row_tie rfl ⟨rfl, rfl⟩ (by kernel_rfl) rfl
    (fun f fn hf hfn => by
      obtain rfl : f = 3 := Option.some.inj ((show Tryd.prog.funcNamed "loop.example/g01073/laws.FnExactIsMatrix" = some 3 by kernel_rfl).symm.trans hf) |>.symm
      obtain rfl : fn = Tryd.f3 := (Option.some.inj (Tryd.func3.symm.trans hfn)).symm
      exact ⟨by kernel_rfl, fun j t ht => by
        rw [Tryd.params3] at ht
        have hm := Array.mem_of_getElem? ht
        have hall : ((#[3, 24] : Array TypeId).toList.all fun u => !Tryd.prog.wantsStandIn u) = true := by kernel_rfl
        exact (show Tryd.prog.wantsStandIn t = false by simpa using List.all_eq_true.1 hall t (Array.mem_toList_iff.2 hm))⟩)
    (by kernel_rfl)
end Go.Proofs.YtdeabimojadgaaaDoor
