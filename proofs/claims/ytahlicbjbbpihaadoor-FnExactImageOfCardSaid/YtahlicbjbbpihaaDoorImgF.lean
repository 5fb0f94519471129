/- ImageOf: both sides. -/
import Derived.Test.YtahlicbjbbpihaaDoorImgS
import Derived.Test.YtahlicbjbbpihaaDoorImgI
import Derived.Test.YtahlicbjbbpihaaDoorSpI
import Derived.Test.YtahlicbjbbpihaaDoorRetSpaceB
import Derived.Deep.RegionHeld3
namespace Go.Proofs.YtahlicbjbbpihaaDoor
set_option maxRecDepth 100000
open Go Go.RowKit Go.Deep

def imgOk (p c d : Int) (R M : List (List Int)) : Bool := isSp p c R && isMat p d M && decide ((M.length : Int) = c)
def imgC (p c d : Int) (R M : List (List Int)) : Int := if imgOk p c d R M then d else 0
def imgR (p c d : Int) (R M : List (List Int)) : List (List Int) := if imgOk p c d R M then rref p (mmul p d.toNat R M) d.toNat else []
theorem img_no {p c d : Int} {R M : List (List Int)} (h : imgOk p c d R M = false) : imgC p c d R M = 0 ∧ imgR p c d R M = [] := by simp [imgC, imgR, h]
theorem img_yes {p c : Int} {d : Nat} {R M : List (List Int)} (h : imgOk p c d R M = true) : imgC p c d R M = d ∧ imgR p c d R M = rref p (mmul p d R M) d := by simp [imgC, imgR, h]
set_option maxHeartbeats 3200000 in
theorem spec_ImageOf (w : World) (B : Nat) (v vm : Value) (p c d : Int) (R M : List (List Int)) (hv : LfG w B v R) (hm : LfG w B vm M) (hB : B ≤ w.heap.size) (_hs : szG R ≤ 1048576) (_hsm : szG M ≤ 1048576) :
    Calls Tryd.prog 35 #[.int .i64 p, .agg #[.int .i64 c, v], .agg #[.int .i64 d, vm]] w (SRetSpaceB w (imgC p c d R M) (imgR p c d R M) (imgOk p c d R M)) := by
  obtain ⟨A, cp, rfl⟩ := hv.len
  obtain ⟨Am, cm, rfl⟩ := hm.len
  have HVB := Lib.hid (show Below w.heap.size w (((w.alloc (.cells #[.int .i64 c, .slice A R.length cp] tSp)).alloc (.cells #[.int .i64 d, .slice Am M.length cm] tM)).alloc (.cells #[.int .i64 0, .slice none 0 0] tSp)) by repeat' (first | exact Below.refl _ _ | apply Below.alloc | (simp; done) | (simp; omega)))
  have HV := Lib.hid (hv.below HVB.out hB)
  have HW := Lib.hid (hm.below HVB.out hB)
  have hB0 : B ≤ (((w.alloc (.cells #[.int .i64 c, .slice A R.length cp] tSp)).alloc (.cells #[.int .i64 d, .slice Am M.length cm] tM)).alloc (.cells #[.int .i64 0, .slice none 0 0] tSp)).heap.size := Nat.le_trans hB HVB.out.size
  have HX0 := Lib.hid (((cellsAt_new w #[.int .i64 c, .slice A R.length cp] tSp).alloc (.cells #[.int .i64 d, .slice Am M.length cm] tM)).alloc (.cells #[.int .i64 0, .slice none 0 0] tSp))
  have HM0 := Lib.hid ((cellsAt_new' (w.alloc (.cells #[.int .i64 c, .slice A R.length cp] tSp)) #[.int .i64 d, .slice Am M.length cm] tM _ (w.heap.size + 1) (by simp) rfl).alloc (.cells #[.int .i64 0, .slice none 0 0] tSp))
  have HY0 := Lib.hid (cellsAt_new' ((w.alloc (.cells #[.int .i64 c, .slice A R.length cp] tSp)).alloc (.cells #[.int .i64 d, .slice Am M.length cm] tM)) #[.int .i64 0, .slice none 0 0] tSp _ (w.heap.size + 2) (by simp) rfl)
  have hsz0 : (((w.alloc (.cells #[.int .i64 c, .slice A R.length cp] tSp)).alloc (.cells #[.int .i64 d, .slice Am M.length cm] tM)).alloc (.cells #[.int .i64 0, .slice none 0 0] tSp)).heap.size = w.heap.size + 3 := by simp
  clear hv hm
  cases hs : isSp p c R with
  | false =>
    have HS := Lib.hid hs
    have HOK := Lib.hid (show imgOk p c d R M = false by simp [imgOk, hs])
    clear hs
    go_enter Tryd.func35, Tryd.ntmps35
    go_upto_region 1 with fail
    generalize (((w.alloc (.cells #[.int .i64 c, .slice A R.length cp] tSp)).alloc (.cells #[.int .i64 d, .slice Am M.length cm] tM)).alloc (.cells #[.int .i64 0, .slice none 0 0] tSp)) = W0 at HVB HV HW hB0 HX0 HM0 HY0 hsz0 ⊢
    have hz0' : w.heap.size + 3 ≤ W0.heap.size := by omega
    clear hsz0
    obtain ⟨hx0, hx1, hxf0, hxf1, hxs⟩ := HX0.out.two
    go_wp2_with fail
    refine (spGood_any W0 B _ p c R HV.out hB0).mono ?_
    rintro e w1 ⟨rfl, b1⟩
    rw [HS.out]
    have HX1 := Lib.hid (HX0.out.below b1 hxs)
    have HM1 := Lib.hid (HM0.out.below b1 (by omega))
    have HY1 := Lib.hid (HY0.out.below b1 (by omega))
    have HV1 := Lib.hid (HV.out.below b1 hB0)
    have HW1 := Lib.hid (HW.out.below b1 hB0)
    have HB1 := Lib.hid (HVB.out.trans (b1.mono HVB.out.size))
    have hs1 : W0.heap.size ≤ w1.heap.size := b1.size
    have hB1 : B ≤ w1.heap.size := Nat.le_trans hB0 hs1
    clear b1 hx0 hx1 hxf0 hxf1 hxs
    obtain ⟨hy0, hy1, hyf0, hyf1, hys⟩ := HY1.out.two
    go_wp2
    refine bodyPost_ret (v := .tuple #[.agg #[.int .i64 0, .slice none 0 0], .bool false]) (by simp [results, Tryd.results35, go_sem, hy0, hy1]) rfl ?_
    rw [HOK.out, (img_no HOK.out).1, (img_no HOK.out).2]
    exact ⟨_, rfl, (by refine Below.trans HB1.out ?_; repeat' (first | exact Below.refl _ _ | apply Below.drew | apply Below.setCell | apply Below.alloc | (simp; done) | omega | (simp; omega))), ⟨none, 0, rfl, Or.inl rfl⟩, by simp [szG, tot]⟩
  | true =>
    cases hmm : isMat p d M with
    | false =>
      have HS := Lib.hid hs
      have HMM := Lib.hid hmm
      have HOK := Lib.hid (show imgOk p c d R M = false by simp [imgOk, hmm])
      clear hs hmm
      go_enter Tryd.func35, Tryd.ntmps35
      go_upto_region 1 with fail
      generalize (((w.alloc (.cells #[.int .i64 c, .slice A R.length cp] tSp)).alloc (.cells #[.int .i64 d, .slice Am M.length cm] tM)).alloc (.cells #[.int .i64 0, .slice none 0 0] tSp)) = W0 at HVB HV HW hB0 HX0 HM0 HY0 hsz0 ⊢
      have hz0' : w.heap.size + 3 ≤ W0.heap.size := by omega
      clear hsz0
      obtain ⟨hx0, hx1, hxf0, hxf1, hxs⟩ := HX0.out.two
      go_wp2_with fail
      refine (spGood_any W0 B _ p c R HV.out hB0).mono ?_
      rintro e w1 ⟨rfl, b1⟩
      rw [HS.out]
      have HX1 := Lib.hid (HX0.out.below b1 hxs)
      have HM1 := Lib.hid (HM0.out.below b1 (by omega))
      have HY1 := Lib.hid (HY0.out.below b1 (by omega))
      have HV1 := Lib.hid (HV.out.below b1 hB0)
      have HW1 := Lib.hid (HW.out.below b1 hB0)
      have HB1 := Lib.hid (HVB.out.trans (b1.mono HVB.out.size))
      have hs1 : W0.heap.size ≤ w1.heap.size := b1.size
      have hB1 : B ≤ w1.heap.size := Nat.le_trans hB0 hs1
      clear b1 hx0 hx1 hxf0 hxf1 hxs
      obtain ⟨hm0, hm1, hmf0, hmf1, hms⟩ := HM1.out.two
      go_wp2_with fail
      refine (mxGood_any w1 B _ p d M HW1.out.1 hB1 HW1.out.2.1 HW1.out.2.2).mono ?_
      rintro e w2 ⟨rfl, b2⟩
      rw [HMM.out]
      have HX2 := Lib.hid (HX1.out.below b2 (by omega))
      have HM2 := Lib.hid (HM1.out.below b2 (by omega))
      have HY2 := Lib.hid (HY1.out.below b2 (by omega))
      have HV2 := Lib.hid (HV1.out.below b2 hB1)
      have HW2 := Lib.hid (HW1.out.below b2 hB1)
      have HB2 := Lib.hid (HB1.out.trans (b2.mono HB1.out.size))
      have hs2 : w1.heap.size ≤ w2.heap.size := b2.size
      have hB2 : B ≤ w2.heap.size := Nat.le_trans hB1 hs2
      clear b2 hm0 hm1 hmf0 hmf1 hms
      obtain ⟨hy0, hy1, hyf0, hyf1, hys⟩ := HY2.out.two
      go_wp2
      refine bodyPost_ret (v := .tuple #[.agg #[.int .i64 0, .slice none 0 0], .bool false]) (by simp [results, Tryd.results35, go_sem, hy0, hy1]) rfl ?_
      rw [HOK.out, (img_no HOK.out).1, (img_no HOK.out).2]
      exact ⟨_, rfl, (by refine Below.trans HB2.out ?_; repeat' (first | exact Below.refl _ _ | apply Below.drew | apply Below.setCell | apply Below.alloc | (simp; done) | omega | (simp; omega))), ⟨none, 0, rfl, Or.inl rfl⟩, by simp [szG, tot]⟩
    | true =>
      by_cases hl : (M.length : Int) = c
      · obtain ⟨hf, n, rfl, hn24, hln, hred, -⟩ := isSp_parts hs
        obtain ⟨-, hm24, d', rfl, hd24, hmat⟩ := (isMat_iff _ _ _).1 hmm
        have hl' : M.length = n := by omega
        rw [hl'] at hmat
        have HS := Lib.hid hs
        have HMM := Lib.hid hmm
        have HOK := Lib.hid (show imgOk p n d' R M = true by simp [imgOk, hs, hmm, hl'])
        have hq : ((M.length : Int) != (n : Int)) = false := by simp [hl]
        have HF := Lib.hid hf
        have HRM := Lib.hid hred.mat
        have HMT := Lib.hid hmat
        have HSZ := Lib.hid (rref_sz hf hd24 (mmul_mat (p := p) (fld_bd hf).1 d' R M))
        clear hs hmm hf hred hmat hl hl' hm24
        go_enter Tryd.func35, Tryd.ntmps35
        go_upto_region 1 with fail
        generalize (((w.alloc (.cells #[.int .i64 n, .slice A R.length cp] tSp)).alloc (.cells #[.int .i64 d', .slice Am M.length cm] tM)).alloc (.cells #[.int .i64 0, .slice none 0 0] tSp)) = W0 at HVB HV HW hB0 HX0 HM0 HY0 hsz0 ⊢
        have hz0' : w.heap.size + 3 ≤ W0.heap.size := by omega
        clear hsz0
        obtain ⟨hx0, hx1, hxf0, hxf1, hxs⟩ := HX0.out.two
        go_wp2_with fail
        refine (spGood_any W0 B _ p n R HV.out hB0).mono ?_
        rintro e w1 ⟨rfl, b1⟩
        rw [HS.out]
        have HX1 := Lib.hid (HX0.out.below b1 hxs)
        have HM1 := Lib.hid (HM0.out.below b1 (by omega))
        have HY1 := Lib.hid (HY0.out.below b1 (by omega))
        have HV1 := Lib.hid (HV.out.below b1 hB0)
        have HW1 := Lib.hid (HW.out.below b1 hB0)
        have HB1 := Lib.hid (HVB.out.trans (b1.mono HVB.out.size))
        have hs1 : W0.heap.size ≤ w1.heap.size := b1.size
        have hB1 : B ≤ w1.heap.size := Nat.le_trans hB0 hs1
        clear b1 hx0 hx1 hxf0 hxf1 hxs
        obtain ⟨hm0, hm1, hmf0, hmf1, hms⟩ := HM1.out.two
        go_wp2_with fail
        refine (mxGood_any w1 B _ p d' M HW1.out.1 hB1 HW1.out.2.1 HW1.out.2.2).mono ?_
        rintro e w2 ⟨rfl, b2⟩
        rw [HMM.out]
        have HX2 := Lib.hid (HX1.out.below b2 (by omega))
        have HM2 := Lib.hid (HM1.out.below b2 (by omega))
        have HY2 := Lib.hid (HY1.out.below b2 (by omega))
        have HV2 := Lib.hid (HV1.out.below b2 hB1)
        have HW2 := Lib.hid (HW1.out.below b2 hB1)
        have HB2 := Lib.hid (HB1.out.trans (b2.mono HB1.out.size))
        have hs2 : w1.heap.size ≤ w2.heap.size := b2.size
        have hB2 : B ≤ w2.heap.size := Nat.le_trans hB1 hs2
        clear b2 hm0 hm1 hmf0 hmf1 hms
        obtain ⟨hx0, hx1, hxf0, hxf1, hxs⟩ := HX2.out.two
        obtain ⟨hm0, hm1, hmf0, hmf1, hms⟩ := HM2.out.two
        have HELD : Hid (∀ w' : World, w'.heap[w.heap.size]? = w2.heap[w.heap.size]? → w'.heap[w.heap.size + 1]? = w2.heap[w.heap.size + 1]? → w'.cell? ⟨w.heap.size, 0, none⟩ = some (.int .i64 n) ∧ w'.cell? ⟨w.heap.size, 1, none⟩ = some (.slice A R.length cp) ∧ w'.cell? ⟨w.heap.size + 1, 0, none⟩ = some (.int .i64 d') ∧ w'.cell? ⟨w.heap.size + 1, 1, none⟩ = some (.slice Am M.length cm)) := Lib.hid (fun w' H K => ⟨(World.cell?_of_block (w := w2) H).trans hx0, (World.cell?_of_block (w := w2) H).trans hx1, (World.cell?_of_block (w := w2) K).trans hm0, (World.cell?_of_block (w := w2) K).trans hm1⟩)
        have HQ0 : Hid (w2.drew.heap[w.heap.size]? = w2.heap[w.heap.size]?) := Lib.hid rfl
        have HK0 : Hid (w2.drew.heap[w.heap.size + 1]? = w2.heap[w.heap.size + 1]?) := Lib.hid rfl
        have HVD := Lib.hid (show LfG w2.drew B (.slice A R.length cp) R from HV2.out)
        have HWD := Lib.hid (show LfG w2.drew B (.slice Am M.length cm) M from HW2.out)
        have hBD : B ≤ w2.drew.heap.size := hB2
        go_wp2
        clear hx0 hx1 hxf0 hxf1 hxs hm0 hm1 hmf0 hmf1 hms
        go_region_held3 (fun w' => w'.cell? ⟨w.heap.size, 0, none⟩ = some (.int .i64 n) ∧ w'.cell? ⟨w.heap.size, 1, none⟩ = some (.slice A R.length cp) ∧ w'.cell? ⟨w.heap.size + 1, 0, none⟩ = some (.int .i64 d') ∧ w'.cell? ⟨w.heap.size + 1, 1, none⟩ = some (.slice Am M.length cm))
          (first | with_reducible exact HELD.out _ HQ0.out HK0.out | with_reducible exact HELD.out _ HQ3.out HK3.out | exact HELD.out _ (((blk_setCell_other _ _ _ _ (by dsimp only; omega)).trans (blk_setCell_other _ _ _ _ (by dsimp only; omega))).trans HQ3.out) (((blk_setCell_other _ _ _ _ (by dsimp only; omega)).trans (blk_setCell_other _ _ _ _ (by dsimp only; omega))).trans HK3.out))
          (first
            | (go_at_call 85; go_split_ands; refine (spImage_any w2.drew B _ _ p R.length n d' R M HVD.out.1 HWD.out.1 hBD HF.out HRM.out HMT.out (by omega) (by omega) (by omega)).mono ?_; rintro e w3 ⟨v3, rfl, b3, o3⟩; obtain ⟨A3, c3, rfl⟩ := OwG.len o3; have HB3 : Hid (Below w2.heap.size w2 w3) := Lib.hid ((Below.refl _ _).drew.trans b3); have HQ3 : Hid (w3.heap[w.heap.size]? = w2.heap[w.heap.size]?) := Lib.hid (HB3.out.block _ (by omega)); have HK3 : Hid (w3.heap[w.heap.size + 1]? = w2.heap[w.heap.size + 1]?) := Lib.hid (HB3.out.block _ (by omega)); have HO3 := Lib.hid (OwG.mono (T := fun q => w2.heap.size ≤ q) o3 (fun q hq _ => hq)); have HY3 := Lib.hid (HY2.out.below HB3.out (by omega)); obtain ⟨hy0, hy1, hyf0, hyf1, hys⟩ := HY3.out.two; clear b3 o3))
        have HBE := Lib.hid (HB2.out.trans (HB3.out.mono HB2.out.size))
        go_wp2
        refine bodyPost_ret (v := .tuple #[.agg #[.int .i64 d', .slice A3 (rref p (mmul p d' R M) d').length c3], .bool true]) (by simp [results, Tryd.results35, go_sem, hy0, hy1]) rfl ?_
        rw [HOK.out, (img_yes HOK.out).1, (img_yes HOK.out).2]
        refine ⟨_, rfl, (by refine Below.trans HBE.out ?_; repeat' (first | exact Below.refl _ _ | apply Below.drew | apply Below.setCell | apply Below.alloc | (simp; done) | omega | (simp; omega))), (HO3.out.blocks (fun k hk _ => ?_)).mono (fun k hk _ => by omega), HSZ.out⟩
        repeat rw [blk_setCell_other _ _ _ _ (by dsimp only; omega)]
      · have HS := Lib.hid hs
        have HMM := Lib.hid hmm
        have hq : ((M.length : Int) != c) = true := by simp [hl]
        have HOK := Lib.hid (show imgOk p c d R M = false by simp [imgOk, hl])
        clear hs hmm hl
        go_enter Tryd.func35, Tryd.ntmps35
        go_upto_region 1 with fail
        generalize (((w.alloc (.cells #[.int .i64 c, .slice A R.length cp] tSp)).alloc (.cells #[.int .i64 d, .slice Am M.length cm] tM)).alloc (.cells #[.int .i64 0, .slice none 0 0] tSp)) = W0 at HVB HV HW hB0 HX0 HM0 HY0 hsz0 ⊢
        have hz0' : w.heap.size + 3 ≤ W0.heap.size := by omega
        clear hsz0
        obtain ⟨hx0, hx1, hxf0, hxf1, hxs⟩ := HX0.out.two
        go_wp2_with fail
        refine (spGood_any W0 B _ p c R HV.out hB0).mono ?_
        rintro e w1 ⟨rfl, b1⟩
        rw [HS.out]
        have HX1 := Lib.hid (HX0.out.below b1 hxs)
        have HM1 := Lib.hid (HM0.out.below b1 (by omega))
        have HY1 := Lib.hid (HY0.out.below b1 (by omega))
        have HV1 := Lib.hid (HV.out.below b1 hB0)
        have HW1 := Lib.hid (HW.out.below b1 hB0)
        have HB1 := Lib.hid (HVB.out.trans (b1.mono HVB.out.size))
        have hs1 : W0.heap.size ≤ w1.heap.size := b1.size
        have hB1 : B ≤ w1.heap.size := Nat.le_trans hB0 hs1
        clear b1 hx0 hx1 hxf0 hxf1 hxs
        obtain ⟨hm0, hm1, hmf0, hmf1, hms⟩ := HM1.out.two
        go_wp2_with fail
        refine (mxGood_any w1 B _ p d M HW1.out.1 hB1 HW1.out.2.1 HW1.out.2.2).mono ?_
        rintro e w2 ⟨rfl, b2⟩
        rw [HMM.out]
        have HX2 := Lib.hid (HX1.out.below b2 (by omega))
        have HM2 := Lib.hid (HM1.out.below b2 (by omega))
        have HY2 := Lib.hid (HY1.out.below b2 (by omega))
        have HV2 := Lib.hid (HV1.out.below b2 hB1)
        have HW2 := Lib.hid (HW1.out.below b2 hB1)
        have HB2 := Lib.hid (HB1.out.trans (b2.mono HB1.out.size))
        have hs2 : w1.heap.size ≤ w2.heap.size := b2.size
        have hB2 : B ≤ w2.heap.size := Nat.le_trans hB1 hs2
        clear b2 hm0 hm1 hmf0 hmf1 hms
        obtain ⟨hx0, hx1, hxf0, hxf1, hxs⟩ := HX2.out.two
        obtain ⟨hm0, hm1, hmf0, hmf1, hms⟩ := HM2.out.two
        obtain ⟨hy0, hy1, hyf0, hyf1, hys⟩ := HY2.out.two
        go_wp2
        refine bodyPost_ret (v := .tuple #[.agg #[.int .i64 0, .slice none 0 0], .bool false]) (by simp [results, Tryd.results35, go_sem, hy0, hy1]) rfl ?_
        rw [HOK.out, (img_no HOK.out).1, (img_no HOK.out).2]
        exact ⟨_, rfl, (by refine Below.trans HB2.out ?_; repeat' (first | exact Below.refl _ _ | apply Below.drew | apply Below.setCell | apply Below.alloc | (simp; done) | omega | (simp; omega))), ⟨none, 0, rfl, Or.inl rfl⟩, by simp [szG, tot]⟩
set_option maxHeartbeats 3200000 in
theorem impl_ImageOf (w : World) (B : Nat) (v vm : Value) (p c d : Int) (R M : List (List Int)) (ht : Tab w) (hv : LfG w B v R) (hm : LfG w B vm M) (hB : B ≤ w.heap.size) (_hs : szG R ≤ 1048576) (_hsm : szG M ≤ 1048576) :
    Calls Tryd.prog 37 #[.int .i64 p, .agg #[.int .i64 c, v], .agg #[.int .i64 d, vm]] w (IRetSpaceB w (imgC p c d R M) (imgR p c d R M) (imgOk p c d R M)) := by
  obtain ⟨A, cp, rfl⟩ := hv.len
  obtain ⟨Am, cm, rfl⟩ := hm.len
  have HVB := Lib.hid (show Below w.heap.size w (((w.alloc (.cells #[.int .i64 c, .slice A R.length cp] tSp)).alloc (.cells #[.int .i64 d, .slice Am M.length cm] tM)).alloc (.cells #[.int .i64 0, .slice none 0 0] tSp)) by repeat' (first | exact Below.refl _ _ | apply Below.alloc | (simp; done) | (simp; omega)))
  have HV := Lib.hid (hv.below HVB.out hB)
  have HW := Lib.hid (hm.below HVB.out hB)
  have hB0 : B ≤ (((w.alloc (.cells #[.int .i64 c, .slice A R.length cp] tSp)).alloc (.cells #[.int .i64 d, .slice Am M.length cm] tM)).alloc (.cells #[.int .i64 0, .slice none 0 0] tSp)).heap.size := Nat.le_trans hB HVB.out.size
  have HX0 := Lib.hid (((cellsAt_new w #[.int .i64 c, .slice A R.length cp] tSp).alloc (.cells #[.int .i64 d, .slice Am M.length cm] tM)).alloc (.cells #[.int .i64 0, .slice none 0 0] tSp))
  have HM0 := Lib.hid ((cellsAt_new' (w.alloc (.cells #[.int .i64 c, .slice A R.length cp] tSp)) #[.int .i64 d, .slice Am M.length cm] tM _ (w.heap.size + 1) (by simp) rfl).alloc (.cells #[.int .i64 0, .slice none 0 0] tSp))
  have HY0 := Lib.hid (cellsAt_new' ((w.alloc (.cells #[.int .i64 c, .slice A R.length cp] tSp)).alloc (.cells #[.int .i64 d, .slice Am M.length cm] tM)) #[.int .i64 0, .slice none 0 0] tSp _ (w.heap.size + 2) (by simp) rfl)
  have hsz0 : (((w.alloc (.cells #[.int .i64 c, .slice A R.length cp] tSp)).alloc (.cells #[.int .i64 d, .slice Am M.length cm] tM)).alloc (.cells #[.int .i64 0, .slice none 0 0] tSp)).heap.size = w.heap.size + 3 := by simp
  have HT := Lib.hid (ht.below HVB.out)
  clear hv hm ht
  cases hs : isSp p c R with
  | false =>
    have HS := Lib.hid hs
    have HOK := Lib.hid (show imgOk p c d R M = false by simp [imgOk, hs])
    clear hs
    go_enter Tryd.func37, Tryd.ntmps37
    go_upto_region 1 with fail
    generalize (((w.alloc (.cells #[.int .i64 c, .slice A R.length cp] tSp)).alloc (.cells #[.int .i64 d, .slice Am M.length cm] tM)).alloc (.cells #[.int .i64 0, .slice none 0 0] tSp)) = W0 at HVB HV HW hB0 HX0 HM0 HY0 HT hsz0 ⊢
    have hz0' : w.heap.size + 3 ≤ W0.heap.size := by omega
    clear hsz0
    obtain ⟨hx0, hx1, hxf0, hxf1, hxs⟩ := HX0.out.two
    go_wp2_with fail
    refine (implIsSpace_any W0 B _ p c R HT.out HV.out hB0).mono ?_
    rintro e w1 ⟨rfl, b1⟩
    rw [HS.out]
    have HX1 := Lib.hid (HX0.out.below b1 hxs)
    have HM1 := Lib.hid (HM0.out.below b1 (by omega))
    have HY1 := Lib.hid (HY0.out.below b1 (by omega))
    have HV1 := Lib.hid (HV.out.below b1 hB0)
    have HW1 := Lib.hid (HW.out.below b1 hB0)
    have HT1 := Lib.hid (HT.out.below b1)
    have HB1 := Lib.hid (HVB.out.trans (b1.mono HVB.out.size))
    have hs1 : W0.heap.size ≤ w1.heap.size := b1.size
    have hB1 : B ≤ w1.heap.size := Nat.le_trans hB0 hs1
    clear b1 hx0 hx1 hxf0 hxf1 hxs
    obtain ⟨hy0, hy1, hyf0, hyf1, hys⟩ := HY1.out.two
    go_wp2
    refine bodyPost_ret (v := .tuple #[.agg #[.int .i64 0, .slice none 0 0], .bool false]) (by simp [results, Tryd.results37, go_sem, hy0, hy1]) rfl ?_
    rw [HOK.out, (img_no HOK.out).1, (img_no HOK.out).2]
    exact ⟨_, rfl, (by refine Below.trans HB1.out ?_; repeat' (first | exact Below.refl _ _ | apply Below.drew | apply Below.setCell | apply Below.alloc | (simp; done) | omega | (simp; omega))), ⟨none, 0, rfl, Or.inl rfl⟩, by simp [szG, tot]⟩
  | true =>
    cases hmm : isMat p d M with
    | false =>
      have HS := Lib.hid hs
      have HMM := Lib.hid hmm
      have HOK := Lib.hid (show imgOk p c d R M = false by simp [imgOk, hmm])
      clear hs hmm
      go_enter Tryd.func37, Tryd.ntmps37
      go_upto_region 1 with fail
      generalize (((w.alloc (.cells #[.int .i64 c, .slice A R.length cp] tSp)).alloc (.cells #[.int .i64 d, .slice Am M.length cm] tM)).alloc (.cells #[.int .i64 0, .slice none 0 0] tSp)) = W0 at HVB HV HW hB0 HX0 HM0 HY0 HT hsz0 ⊢
      have hz0' : w.heap.size + 3 ≤ W0.heap.size := by omega
      clear hsz0
      obtain ⟨hx0, hx1, hxf0, hxf1, hxs⟩ := HX0.out.two
      go_wp2_with fail
      refine (implIsSpace_any W0 B _ p c R HT.out HV.out hB0).mono ?_
      rintro e w1 ⟨rfl, b1⟩
      rw [HS.out]
      have HX1 := Lib.hid (HX0.out.below b1 hxs)
      have HM1 := Lib.hid (HM0.out.below b1 (by omega))
      have HY1 := Lib.hid (HY0.out.below b1 (by omega))
      have HV1 := Lib.hid (HV.out.below b1 hB0)
      have HW1 := Lib.hid (HW.out.below b1 hB0)
      have HT1 := Lib.hid (HT.out.below b1)
      have HB1 := Lib.hid (HVB.out.trans (b1.mono HVB.out.size))
      have hs1 : W0.heap.size ≤ w1.heap.size := b1.size
      have hB1 : B ≤ w1.heap.size := Nat.le_trans hB0 hs1
      clear b1 hx0 hx1 hxf0 hxf1 hxs
      obtain ⟨hm0, hm1, hmf0, hmf1, hms⟩ := HM1.out.two
      go_wp2_with fail
      refine (implIsMatrix_any w1 B _ p d M HT1.out HW1.out.1 hB1 HW1.out.2.1 HW1.out.2.2).mono ?_
      rintro e w2 ⟨rfl, b2⟩
      rw [HMM.out]
      have HX2 := Lib.hid (HX1.out.below b2 (by omega))
      have HM2 := Lib.hid (HM1.out.below b2 (by omega))
      have HY2 := Lib.hid (HY1.out.below b2 (by omega))
      have HV2 := Lib.hid (HV1.out.below b2 hB1)
      have HW2 := Lib.hid (HW1.out.below b2 hB1)
      have HB2 := Lib.hid (HB1.out.trans (b2.mono HB1.out.size))
      have hs2 : w1.heap.size ≤ w2.heap.size := b2.size
      have hB2 : B ≤ w2.heap.size := Nat.le_trans hB1 hs2
      clear b2 hm0 hm1 hmf0 hmf1 hms
      obtain ⟨hy0, hy1, hyf0, hyf1, hys⟩ := HY2.out.two
      go_wp2
      refine bodyPost_ret (v := .tuple #[.agg #[.int .i64 0, .slice none 0 0], .bool false]) (by simp [results, Tryd.results37, go_sem, hy0, hy1]) rfl ?_
      rw [HOK.out, (img_no HOK.out).1, (img_no HOK.out).2]
      exact ⟨_, rfl, (by refine Below.trans HB2.out ?_; repeat' (first | exact Below.refl _ _ | apply Below.drew | apply Below.setCell | apply Below.alloc | (simp; done) | omega | (simp; omega))), ⟨none, 0, rfl, Or.inl rfl⟩, by simp [szG, tot]⟩
    | true =>
      by_cases hl : (M.length : Int) = c
      · obtain ⟨hf, n, rfl, hn24, hln, hred, -⟩ := isSp_parts hs
        obtain ⟨-, hm24, d', rfl, hd24, hmat⟩ := (isMat_iff _ _ _).1 hmm
        have hl' : M.length = n := by omega
        rw [hl'] at hmat
        have HS := Lib.hid hs
        have HMM := Lib.hid hmm
        have HOK := Lib.hid (show imgOk p n d' R M = true by simp [imgOk, hs, hmm, hl'])
        have hq : ((M.length : Int) != (n : Int)) = false := by simp [hl]
        have HF := Lib.hid hf
        have HRM := Lib.hid hred.mat
        have HMT := Lib.hid hmat
        have HSZ := Lib.hid (rref_sz hf hd24 (mmul_mat (p := p) (fld_bd hf).1 d' R M))
        clear hs hmm hf hred hmat hl hl' hm24
        go_enter Tryd.func37, Tryd.ntmps37
        go_upto_region 1 with fail
        generalize (((w.alloc (.cells #[.int .i64 n, .slice A R.length cp] tSp)).alloc (.cells #[.int .i64 d', .slice Am M.length cm] tM)).alloc (.cells #[.int .i64 0, .slice none 0 0] tSp)) = W0 at HVB HV HW hB0 HX0 HM0 HY0 HT hsz0 ⊢
        have hz0' : w.heap.size + 3 ≤ W0.heap.size := by omega
        clear hsz0
        obtain ⟨hx0, hx1, hxf0, hxf1, hxs⟩ := HX0.out.two
        go_wp2_with fail
        refine (implIsSpace_any W0 B _ p n R HT.out HV.out hB0).mono ?_
        rintro e w1 ⟨rfl, b1⟩
        rw [HS.out]
        have HX1 := Lib.hid (HX0.out.below b1 hxs)
        have HM1 := Lib.hid (HM0.out.below b1 (by omega))
        have HY1 := Lib.hid (HY0.out.below b1 (by omega))
        have HV1 := Lib.hid (HV.out.below b1 hB0)
        have HW1 := Lib.hid (HW.out.below b1 hB0)
        have HT1 := Lib.hid (HT.out.below b1)
        have HB1 := Lib.hid (HVB.out.trans (b1.mono HVB.out.size))
        have hs1 : W0.heap.size ≤ w1.heap.size := b1.size
        have hB1 : B ≤ w1.heap.size := Nat.le_trans hB0 hs1
        clear b1 hx0 hx1 hxf0 hxf1 hxs
        obtain ⟨hm0, hm1, hmf0, hmf1, hms⟩ := HM1.out.two
        go_wp2_with fail
        refine (implIsMatrix_any w1 B _ p d' M HT1.out HW1.out.1 hB1 HW1.out.2.1 HW1.out.2.2).mono ?_
        rintro e w2 ⟨rfl, b2⟩
        rw [HMM.out]
        have HX2 := Lib.hid (HX1.out.below b2 (by omega))
        have HM2 := Lib.hid (HM1.out.below b2 (by omega))
        have HY2 := Lib.hid (HY1.out.below b2 (by omega))
        have HV2 := Lib.hid (HV1.out.below b2 hB1)
        have HW2 := Lib.hid (HW1.out.below b2 hB1)
        have HB2 := Lib.hid (HB1.out.trans (b2.mono HB1.out.size))
        have hs2 : w1.heap.size ≤ w2.heap.size := b2.size
        have hB2 : B ≤ w2.heap.size := Nat.le_trans hB1 hs2
        clear b2 hm0 hm1 hmf0 hmf1 hms
        obtain ⟨hx0, hx1, hxf0, hxf1, hxs⟩ := HX2.out.two
        obtain ⟨hm0, hm1, hmf0, hmf1, hms⟩ := HM2.out.two
        go_wp2_with fail
        refine (imageOf_any w2 B _ _ p R.length n d' R M HV2.out.1 HW2.out.1 hB2 HF.out HRM.out HMT.out (by omega) (by omega) (by omega)).mono ?_
        rintro e w3 ⟨v3, rfl, b3, o3⟩
        obtain ⟨A3, c3, rfl⟩ := OwG.len o3
        have HB3 := Lib.hid b3
        have HO3 := Lib.hid (OwG.mono (T := fun q => w2.heap.size ≤ q) o3 (fun q hq _ => hq))
        have HY3 := Lib.hid (HY2.out.below HB3.out (by omega))
        clear b3 o3
        obtain ⟨hy0, hy1, hyf0, hyf1, hys⟩ := HY3.out.two
        have HBE := Lib.hid (HB2.out.trans (HB3.out.mono HB2.out.size))
        go_wp2
        refine bodyPost_ret (v := .tuple #[.agg #[.int .i64 d', .slice A3 (rref p (mmul p d' R M) d').length c3], .bool true]) (by simp [results, Tryd.results37, go_sem, hy0, hy1]) rfl ?_
        rw [HOK.out, (img_yes HOK.out).1, (img_yes HOK.out).2]
        refine ⟨_, rfl, (by refine Below.trans HBE.out ?_; repeat' (first | exact Below.refl _ _ | apply Below.drew | apply Below.setCell | apply Below.alloc | (simp; done) | omega | (simp; omega))), (HO3.out.blocks (fun k hk _ => ?_)).mono (fun k hk _ => by omega), HSZ.out⟩
        repeat rw [blk_setCell_other _ _ _ _ (by dsimp only; omega)]
      · have HS := Lib.hid hs
        have HMM := Lib.hid hmm
        have hq : ((M.length : Int) != c) = true := by simp [hl]
        have HOK := Lib.hid (show imgOk p c d R M = false by simp [imgOk, hl])
        clear hs hmm hl
        go_enter Tryd.func37, Tryd.ntmps37
        go_upto_region 1 with fail
        generalize (((w.alloc (.cells #[.int .i64 c, .slice A R.length cp] tSp)).alloc (.cells #[.int .i64 d, .slice Am M.length cm] tM)).alloc (.cells #[.int .i64 0, .slice none 0 0] tSp)) = W0 at HVB HV HW hB0 HX0 HM0 HY0 HT hsz0 ⊢
        have hz0' : w.heap.size + 3 ≤ W0.heap.size := by omega
        clear hsz0
        obtain ⟨hx0, hx1, hxf0, hxf1, hxs⟩ := HX0.out.two
        go_wp2_with fail
        refine (implIsSpace_any W0 B _ p c R HT.out HV.out hB0).mono ?_
        rintro e w1 ⟨rfl, b1⟩
        rw [HS.out]
        have HX1 := Lib.hid (HX0.out.below b1 hxs)
        have HM1 := Lib.hid (HM0.out.below b1 (by omega))
        have HY1 := Lib.hid (HY0.out.below b1 (by omega))
        have HV1 := Lib.hid (HV.out.below b1 hB0)
        have HW1 := Lib.hid (HW.out.below b1 hB0)
        have HT1 := Lib.hid (HT.out.below b1)
        have HB1 := Lib.hid (HVB.out.trans (b1.mono HVB.out.size))
        have hs1 : W0.heap.size ≤ w1.heap.size := b1.size
        have hB1 : B ≤ w1.heap.size := Nat.le_trans hB0 hs1
        clear b1 hx0 hx1 hxf0 hxf1 hxs
        obtain ⟨hm0, hm1, hmf0, hmf1, hms⟩ := HM1.out.two
        go_wp2_with fail
        refine (implIsMatrix_any w1 B _ p d M HT1.out HW1.out.1 hB1 HW1.out.2.1 HW1.out.2.2).mono ?_
        rintro e w2 ⟨rfl, b2⟩
        rw [HMM.out]
        have HX2 := Lib.hid (HX1.out.below b2 (by omega))
        have HM2 := Lib.hid (HM1.out.below b2 (by omega))
        have HY2 := Lib.hid (HY1.out.below b2 (by omega))
        have HV2 := Lib.hid (HV1.out.below b2 hB1)
        have HW2 := Lib.hid (HW1.out.below b2 hB1)
        have HB2 := Lib.hid (HB1.out.trans (b2.mono HB1.out.size))
        have hs2 : w1.heap.size ≤ w2.heap.size := b2.size
        have hB2 : B ≤ w2.heap.size := Nat.le_trans hB1 hs2
        clear b2 hm0 hm1 hmf0 hmf1 hms
        obtain ⟨hx0, hx1, hxf0, hxf1, hxs⟩ := HX2.out.two
        obtain ⟨hm0, hm1, hmf0, hmf1, hms⟩ := HM2.out.two
        obtain ⟨hy0, hy1, hyf0, hyf1, hys⟩ := HY2.out.two
        go_wp2
        refine bodyPost_ret (v := .tuple #[.agg #[.int .i64 0, .slice none 0 0], .bool false]) (by simp [results, Tryd.results37, go_sem, hy0, hy1]) rfl ?_
        rw [HOK.out, (img_no HOK.out).1, (img_no HOK.out).2]
        exact ⟨_, rfl, (by refine Below.trans HB2.out ?_; repeat' (first | exact Below.refl _ _ | apply Below.drew | apply Below.setCell | apply Below.alloc | (simp; done) | omega | (simp; omega))), ⟨none, 0, rfl, Or.inl rfl⟩, by simp [szG, tot]⟩
end Go.Proofs.YtahlicbjbbpihaaDoor
