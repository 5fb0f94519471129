/- The inverse matrix: the model's side. -/
import Derived.Test.YtgncgihneemmcaaDoorMxDet
import Derived.Deep.RegionHeld3
namespace Go.Proofs.YtgncgihneemmcaaDoor
set_option maxRecDepth 100000
open Go Go.RowKit Go.Deep

set_option maxHeartbeats 3200000 in
theorem spec_InverseOf (w : World) (B : Nat) (v : Value) (p c : Int) (rows : List (List Int)) (hv : LfG w B v rows) (hB : B ≤ w.heap.size) (_hs : szG rows ≤ 1048576) :
    Calls Tryd.prog 23 #[.int .i64 p, .agg #[.int .i64 c, v]] w (SRetMatrixB w (invC p c rows) (invR p c rows) (invOk p c rows)) := by
  obtain ⟨A, cp, rfl⟩ := hv.len
  have HVB := Lib.hid (show Below w.heap.size w ((w.alloc (.cells #[.int .i64 c, .slice A rows.length cp] tM)).alloc (.cells #[.int .i64 0, .slice none 0 0] tM)) by repeat' (first | exact Below.refl _ _ | apply Below.alloc | (simp; done) | (simp; omega)))
  have HV := Lib.hid (hv.below HVB.out hB)
  have hB0 : B ≤ ((w.alloc (.cells #[.int .i64 c, .slice A rows.length cp] tM)).alloc (.cells #[.int .i64 0, .slice none 0 0] tM)).heap.size := Nat.le_trans hB HVB.out.size
  have HB := Lib.hid hB
  clear hv hB
  cases hm : isSq p c rows with
  | false =>
    have HM := Lib.hid hm
    have HOK := Lib.hid (invOk_sq hm)
    clear hm
    obtain ⟨xa, xr, xn⟩ := boxes2 (w := w) (w1 := ((w.alloc (.cells #[.int .i64 c, .slice A rows.length cp] tM)).alloc (.cells #[.int .i64 0, .slice none 0 0] tM))) (Below.refl _ _) rfl
    have hsz0 : ((w.alloc (.cells #[.int .i64 c, .slice A rows.length cp] tM)).alloc (.cells #[.int .i64 0, .slice none 0 0] tM)).heap.size = w.heap.size + 2 := by simp
    have HXA := Lib.hid xa
    have HXR := Lib.hid xr
    have HXN := Lib.hid xn
    clear xa xr xn
    go_enter Tryd.func23, Tryd.ntmps23
    go_wp2
    generalize ((w.alloc (.cells #[.int .i64 c, .slice A rows.length cp] tM)).alloc (.cells #[.int .i64 0, .slice none 0 0] tM)) = W at HXA HXR HXN hsz0 HV hB0 HB HVB ⊢
    obtain ⟨hx0, hx1, hxf0, hxf1, hxs⟩ := HXA.out.two
    have HELD : Hid (∀ w' : World, w'.heap[w.heap.size]? = W.heap[w.heap.size]? → w'.cell? ⟨w.heap.size, 0, none⟩ = some (.int .i64 c) ∧ w'.cell? ⟨w.heap.size, 1, none⟩ = some (.slice A rows.length cp)) := Lib.hid (fun w' H => ⟨(World.cell?_of_block (w := W) H).trans hx0, (World.cell?_of_block (w := W) H).trans hx1⟩)
    have HQ0 : Hid (W.drew.heap[w.heap.size]? = W.heap[w.heap.size]?) := Lib.hid rfl
    have HVD := Lib.hid (show LfG W.drew B (.slice A rows.length cp) rows from HV.out)
    have hBD : B ≤ W.drew.heap.size := hB0
    have hWs : w.heap.size + 1 < W.heap.size := by omega
    clear hx0 hx1 hxf0 hxf1 hxs hsz0
    have hcd0 : W.drew.cell? ⟨w.heap.size, 0, none⟩ = some (.int .i64 c) := (HELD.out _ HQ0.out).1
    have hcd1 : W.drew.cell? ⟨w.heap.size, 1, none⟩ = some (.slice A rows.length cp) := (HELD.out _ HQ0.out).2
    first
    | go_region_with ((go_at_call 64; refine (mxSquare_any W.drew B _ p c rows HVD.out hBD).mono ?_; rintro e w1 ⟨rfl, bq⟩; rw [HM.out]; have HBQ : Hid (Below W.heap.size W w1) := Lib.hid ((Below.refl _ _).drew.trans bq); have HQ2 : Hid (w1.heap[w.heap.size]? = W.heap[w.heap.size]?) := Lib.hid (HBQ.out.block _ (by omega)); clear bq))
    | fail
    all_goals
      have HX := Lib.hid (HXA.out.below HBQ.out (by omega))
      have HR := Lib.hid (HXR.out.below HBQ.out (by omega))
      have HBN := Lib.hid (HXN.out.trans (HBQ.out.mono HXN.out.size))
      have HV1 := Lib.hid (HV.out.1.below HBQ.out hB0)
      have hs1 : B ≤ w1.heap.size := Nat.le_trans hB0 HBQ.out.size
      have hz1 : w.heap.size + 2 ≤ w1.heap.size := by have := HBQ.out.size; omega
      clear HELD HQ0 HQ2
      obtain ⟨hx0, hx1, hxf0, hxf1, hxs⟩ := HX.out.two
      obtain ⟨hr0, hr1, hrf0, hrf1, hrs⟩ := HR.out.two
      go_wp2
      refine bodyPost_ret (v := .tuple #[.agg #[.int .i64 0, .slice none 0 0], .bool false]) (by simp [results, Tryd.results23, go_sem, hr0, hr1]) rfl ?_
      rw [(inv_no HOK.out).1, (inv_no HOK.out).2, HOK.out]
      exact ⟨_, rfl, (by refine Below.trans HBN.out ?_; repeat' (first | exact Below.refl _ _ | apply Below.drew | apply Below.setCell | apply Below.alloc | (simp; done) | omega | (simp; omega))), ⟨none, 0, rfl, Or.inl rfl⟩, by simp [szG, tot]⟩
  | true =>
    obtain ⟨hf, hn24, n, rfl, hnl, hmat⟩ := sq_parts hm
    have HM := Lib.hid hm
    have HF := Lib.hid hf
    have HMM := Lib.hid hmat
    have hn : n ≤ 24 := by omega
    have HIN := Lib.hid (red_inv hf hmat (idRows_mat (fld_bd hf).1 n) n (Nat.le_refl n))
    have HNL := Lib.hid hnl
    clear hm hf hmat hnl
    by_cases hrk : (red p rows (idRows n) n).lead.length < n
    · have HOK := Lib.hid (invOk_low hrk)
      obtain ⟨xa, xr, xn⟩ := boxes2 (w := w) (w1 := ((w.alloc (.cells #[.int .i64 n, .slice A rows.length cp] tM)).alloc (.cells #[.int .i64 0, .slice none 0 0] tM))) (Below.refl _ _) rfl
      have hsz0 : ((w.alloc (.cells #[.int .i64 n, .slice A rows.length cp] tM)).alloc (.cells #[.int .i64 0, .slice none 0 0] tM)).heap.size = w.heap.size + 2 := by simp
      have HXA := Lib.hid xa
      have HXR := Lib.hid xr
      have HXN := Lib.hid xn
      clear xa xr xn
      go_enter Tryd.func23, Tryd.ntmps23
      go_wp2
      generalize ((w.alloc (.cells #[.int .i64 n, .slice A rows.length cp] tM)).alloc (.cells #[.int .i64 0, .slice none 0 0] tM)) = W at HXA HXR HXN hsz0 HV hB0 HB HVB ⊢
      obtain ⟨hx0, hx1, hxf0, hxf1, hxs⟩ := HXA.out.two
      have HELD : Hid (∀ w' : World, w'.heap[w.heap.size]? = W.heap[w.heap.size]? → w'.cell? ⟨w.heap.size, 0, none⟩ = some (.int .i64 n) ∧ w'.cell? ⟨w.heap.size, 1, none⟩ = some (.slice A rows.length cp)) := Lib.hid (fun w' H => ⟨(World.cell?_of_block (w := W) H).trans hx0, (World.cell?_of_block (w := W) H).trans hx1⟩)
      have HQ0 : Hid (W.drew.heap[w.heap.size]? = W.heap[w.heap.size]?) := Lib.hid rfl
      have HVD := Lib.hid (show LfG W.drew B (.slice A rows.length cp) rows from HV.out)
      have hBD : B ≤ W.drew.heap.size := hB0
      have hWs : w.heap.size + 1 < W.heap.size := by omega
      clear hx0 hx1 hxf0 hxf1 hxs hsz0
      go_region_held3 (fun w' => w'.cell? ⟨w.heap.size, 0, none⟩ = some (.int .i64 n) ∧ w'.cell? ⟨w.heap.size, 1, none⟩ = some (.slice A rows.length cp))
        (first | with_reducible exact HELD.out _ HQ0.out | with_reducible exact HELD.out _ HQ2.out | with_reducible exact HELD.out _ HQ3.out)
        ((first | (go_at_call 64; go_split_ands; refine (mxSquare_any W.drew B _ p _ rows HVD.out hBD).mono ?_; rintro e wq ⟨rfl, bq⟩; rw [HM.out]; have HBQ : Hid (Below W.heap.size W wq) := Lib.hid ((Below.refl _ _).drew.trans bq); have HQ2 : Hid (wq.heap[w.heap.size]? = W.heap[w.heap.size]?) := Lib.hid (HBQ.out.block _ (by omega)); clear bq) | (go_at_call 62; go_split_ands; refine (mxRank_any wq B _ p n n rows (HV.out.1.below HBQ.out hB0) (Nat.le_trans hB0 HBQ.out.size) HF.out HMM.out (by omega) (by omega)).mono ?_; rintro e w1 ⟨rfl, b1⟩; have HBR : Hid (Below W.heap.size W w1) := Lib.hid (HBQ.out.trans (b1.mono HBQ.out.size)); have HQ3 : Hid (w1.heap[w.heap.size]? = W.heap[w.heap.size]?) := Lib.hid (HBR.out.block _ (by omega)); clear b1)))
      have HX := Lib.hid (HXA.out.below HBR.out (by omega))
      have HR := Lib.hid (HXR.out.below HBR.out (by omega))
      have HBN := Lib.hid (HXN.out.trans (HBR.out.mono HXN.out.size))
      have HV1 := Lib.hid (HV.out.1.below HBR.out hB0)
      have hs1 : B ≤ w1.heap.size := Nat.le_trans hB0 HBR.out.size
      have hz1 : w.heap.size + 2 ≤ w1.heap.size := by have := HBR.out.size; omega
      clear HELD HQ0 HQ2 HQ3
      obtain ⟨hx0, hx1, hxf0, hxf1, hxs⟩ := HX.out.two
      obtain ⟨hr0, hr1, hrf0, hrf1, hrs⟩ := HR.out.two
      have hrkS : (rref p rows n).length < n := by have := rank_eq HF.out HMM.out (idRows n); omega
      go_wp2
      refine bodyPost_ret (v := .tuple #[.agg #[.int .i64 0, .slice none 0 0], .bool false]) (by simp [results, Tryd.results23, go_sem, hr0, hr1]) rfl ?_
      rw [(inv_no HOK.out).1, (inv_no HOK.out).2, HOK.out]
      exact ⟨_, rfl, (by refine Below.trans HBN.out ?_; repeat' (first | exact Below.refl _ _ | apply Below.drew | apply Below.setCell | apply Below.alloc | (simp; done) | omega | (simp; omega))), ⟨none, 0, rfl, Or.inl rfl⟩, by simp [szG, tot]⟩
    · have HYES := Lib.hid (inv_yes HM.out hrk)
      obtain ⟨xa, xr, xn⟩ := boxes2 (w := w) (w1 := ((w.alloc (.cells #[.int .i64 n, .slice A rows.length cp] tM)).alloc (.cells #[.int .i64 0, .slice none 0 0] tM))) (Below.refl _ _) rfl
      have hsz0 : ((w.alloc (.cells #[.int .i64 n, .slice A rows.length cp] tM)).alloc (.cells #[.int .i64 0, .slice none 0 0] tM)).heap.size = w.heap.size + 2 := by simp
      have HXA := Lib.hid xa
      have HXR := Lib.hid xr
      have HXN := Lib.hid xn
      clear xa xr xn
      go_enter Tryd.func23, Tryd.ntmps23
      go_wp2
      generalize ((w.alloc (.cells #[.int .i64 n, .slice A rows.length cp] tM)).alloc (.cells #[.int .i64 0, .slice none 0 0] tM)) = W at HXA HXR HXN hsz0 HV hB0 HB HVB ⊢
      obtain ⟨hx0, hx1, hxf0, hxf1, hxs⟩ := HXA.out.two
      have HELD : Hid (∀ w' : World, w'.heap[w.heap.size]? = W.heap[w.heap.size]? → w'.cell? ⟨w.heap.size, 0, none⟩ = some (.int .i64 n) ∧ w'.cell? ⟨w.heap.size, 1, none⟩ = some (.slice A rows.length cp)) := Lib.hid (fun w' H => ⟨(World.cell?_of_block (w := W) H).trans hx0, (World.cell?_of_block (w := W) H).trans hx1⟩)
      have HQ0 : Hid (W.drew.heap[w.heap.size]? = W.heap[w.heap.size]?) := Lib.hid rfl
      have HVD := Lib.hid (show LfG W.drew B (.slice A rows.length cp) rows from HV.out)
      have hBD : B ≤ W.drew.heap.size := hB0
      have hWs : w.heap.size + 1 < W.heap.size := by omega
      clear hx0 hx1 hxf0 hxf1 hxs hsz0
      go_region_held3 (fun w' => w'.cell? ⟨w.heap.size, 0, none⟩ = some (.int .i64 n) ∧ w'.cell? ⟨w.heap.size, 1, none⟩ = some (.slice A rows.length cp))
        (first | with_reducible exact HELD.out _ HQ0.out | with_reducible exact HELD.out _ HQ2.out | with_reducible exact HELD.out _ HQ3.out)
        ((first | (go_at_call 64; go_split_ands; refine (mxSquare_any W.drew B _ p _ rows HVD.out hBD).mono ?_; rintro e wq ⟨rfl, bq⟩; rw [HM.out]; have HBQ : Hid (Below W.heap.size W wq) := Lib.hid ((Below.refl _ _).drew.trans bq); have HQ2 : Hid (wq.heap[w.heap.size]? = W.heap[w.heap.size]?) := Lib.hid (HBQ.out.block _ (by omega)); clear bq) | (go_at_call 62; go_split_ands; refine (mxRank_any wq B _ p n n rows (HV.out.1.below HBQ.out hB0) (Nat.le_trans hB0 HBQ.out.size) HF.out HMM.out (by omega) (by omega)).mono ?_; rintro e w1 ⟨rfl, b1⟩; have HBR : Hid (Below W.heap.size W w1) := Lib.hid (HBQ.out.trans (b1.mono HBQ.out.size)); have HQ3 : Hid (w1.heap[w.heap.size]? = W.heap[w.heap.size]?) := Lib.hid (HBR.out.block _ (by omega)); clear b1)))
      have HX := Lib.hid (HXA.out.below HBR.out (by omega))
      have HR := Lib.hid (HXR.out.below HBR.out (by omega))
      have HBN := Lib.hid (HXN.out.trans (HBR.out.mono HXN.out.size))
      have HV1 := Lib.hid (HV.out.1.below HBR.out hB0)
      have hs1 : B ≤ w1.heap.size := Nat.le_trans hB0 HBR.out.size
      have hz1 : w.heap.size + 2 ≤ w1.heap.size := by have := HBR.out.size; omega
      clear HELD HQ0 HQ2 HQ3
      obtain ⟨hx0, hx1, hxf0, hxf1, hxs⟩ := HX.out.two
      obtain ⟨hr0, hr1, hrf0, hrf1, hrs⟩ := HR.out.two
      have hrkS : ¬ (rref p rows n).length < n := by have := rank_eq HF.out HMM.out (idRows n); omega
      go_wp2_with fail
      refine (mxReduce_any w1 B _ p n n rows HV1.out hs1 HF.out HMM.out (by omega) (by omega)).mono ?_
      rintro e w2 ⟨v1, v2, S1, S2, rfl, b2, o1, o2, hS1, hS2⟩
      obtain ⟨A1, c1, rfl⟩ := OwG.len o1
      obtain ⟨A2, c2, rfl⟩ := OwG.len o2
      generalize red p rows (idRows n) n = s at o1 o2 HYES HIN hrk ⊢
      have HO2 := Lib.hid (OwG.mono (T := fun k => w1.heap.size ≤ k ∧ k < w2.heap.size) o2 (fun k h1 h2 => ⟨hS2 k h1, h2⟩))
      clear o1 o2 hS1 hS2
      have HX2 := Lib.hid (HX.out.below b2 HX.out.lt)
      clear hx0 hx1 hxf0 hxf1 hxs
      obtain ⟨hx0, hx1, hxf0, hxf1, hxs⟩ := HX2.out.two
      have HS2 := Lib.hid (HR.out.below b2 HR.out.lt)
      clear hr0 hr1 hrf0 hrf1 hrs
      obtain ⟨hr0, hr1, hrf0, hrf1, hrs⟩ := HS2.out.two
      have HB2 := Lib.hid (HBN.out.trans (b2.mono HBN.out.size))
      have hz2 : w1.heap.size ≤ w2.heap.size := b2.size
      clear b2
      have hrkI : ¬ (s.lead.length : Int) < (n : Int) := by omega
      have hrkB : decide ((s.lead.length : Int) < (n : Int)) = false := by simp; omega
      go_wp2
      have hzz : w.heap.size < w2.heap.size := by omega
      refine bodyPost_ret (v := .tuple #[.agg #[.int .i64 n, .slice A2 s.t.length c2], .bool true]) (by simp [results, Tryd.results23, go_sem, hr0, hr1, cell_alloc_lt, hrs, hzz]) rfl ?_
      rw [HYES.out.1, HYES.out.2.1, HYES.out.2.2]
      refine ⟨_, rfl, (by refine Below.trans HB2.out ?_; repeat' (first | exact Below.refl _ _ | apply Below.drew | apply Below.setCell | apply Below.alloc | (simp; done) | omega | (simp; omega))), (HO2.out.blocks (fun k hk _ => ?_)).mono (fun k hk _ => by omega), addM_sz hn hn HIN.out.t⟩
      repeat first | rw [drew_heap] | rw [blk_setCell_other _ _ _ _ (by dsimp only; omega)] | rw [blk_alloc_lt _ _ _ (by simp; omega)]
end Go.Proofs.YtgncgihneemmcaaDoor
