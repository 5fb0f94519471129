/- SolveLinear: the program's side. -/
import Derived.Test.YtiiloioobmkicaaDoorSolM
import Derived.Test.YtiiloioobmkicaaDoorSlEq
import Derived.Test.YtiiloioobmkicaaDoorRdCap
import Derived.Test.YtiiloioobmkicaaDoorRetRB
namespace Go.Proofs.YtiiloioobmkicaaDoor
set_option maxRecDepth 100000
open Go Go.RowKit Go.Deep

theorem sol_no {p c : Int} {M : List (List Int)} {b : List Int} (h : solOk p c M b = false) : solX p c M b = [] := by simp [solX, h]
theorem sol_yes {p : Int} {n : Nat} {M : List (List Int)} {b : List Int} (h : solOk p n M b = true) : solX p n M b = vmul p M.length (coords (rref p M n) b) (red p M (idRows M.length) n).t := by simp [solX, h]
theorem sol_row {p : Int} {n : Nat} {b : List Int} (h : rowB p n b = true) : Vec p n b := rowB_vec' h
theorem lead_in {p : Int} {k n m c : Nat} {s : Red} (h : RInv p n c m k s) (hk : k ≤ c) : ∀ i, i ∈ ints s.lead → 0 ≤ i ∧ i < (c : Int) := by
  intro i hi
  obtain ⟨x, hx, rfl⟩ := List.mem_map.1 hi
  obtain ⟨j, hj, rfl⟩ := List.getElem_of_mem hx
  have := h.lead j hj
  rw [List.getD_eq_getElem?_getD, List.getElem?_eq_getElem hj] at this
  simp at this
  omega
set_option maxRecDepth 100000 in
set_option maxHeartbeats 6400000 in
theorem impl_SolveLinear (w : World) (B : Nat) (v vb : Value) (p c : Int) (M : List (List Int)) (b : List Int) (ht : Tab w) (hv : LfG w B v M) (hb : LfR w B vb b) (hB : B ≤ w.heap.size) (_hs : szG M ≤ 1048576) (_hsb : szR b ≤ 1048576) :
    Calls Tryd.prog 28 #[.int .i64 p, .agg #[.int .i64 c, v], vb] w (IRetRB w (solX p c M b) (solOk p c M b)) := by
  obtain ⟨A, cp, rfl⟩ := hv.len
  obtain ⟨Ab, cb, rfl⟩ := hb.len
  cases hm : isMat p c M with
  | false =>
    have HMM := Lib.hid hm
    have HOX := Lib.hid (show solOk p c M b = false by simp [solOk, hm])
    clear hm
    have HVB := Lib.hid (show Below w.heap.size w (w.alloc (.cells #[.int .i64 c, .slice A M.length cp] tM)) from (Below.refl _ _).alloc (Nat.le_refl _) _)
    have HV := Lib.hid (hv.below HVB.out hB)
    have HX := Lib.hid (hb.below HVB.out hB)
    have hB0 : B ≤ (w.alloc (.cells #[.int .i64 c, .slice A M.length cp] tM)).heap.size := Nat.le_trans hB HVB.out.size
    have HM0 := Lib.hid (cellsAt_new w #[.int .i64 c, .slice A M.length cp] tM)
    have HT := Lib.hid (ht.below HVB.out)
    clear hv hb hB ht
    go_enter Tryd.func28, Tryd.ntmps28
    go_upto_region 1 with fail
    generalize (w.alloc (.cells #[.int .i64 c, .slice A M.length cp] tM)) = W0 at HVB HV HX hB0 HM0 HT ⊢
    obtain ⟨hm0, hm1, hmf0, hmf1, hms⟩ := HM0.out.two
    go_wp2_with fail
    refine (implIsMatrix_any W0 B _ p c M HT.out HV.out.1 hB0 HV.out.2.1 HV.out.2.2).mono ?_
    rintro e w1 ⟨rfl, b1⟩
    rw [HMM.out]
    have HM1 := Lib.hid (HM0.out.below b1 hms)
    have HV1 := Lib.hid (HV.out.below b1 hB0)
    have HX1 := Lib.hid (HX.out.below b1 hB0)
    have HT1 := Lib.hid (HT.out.below b1)
    have HB1 := Lib.hid (HVB.out.trans (b1.mono HVB.out.size))
    have hB1 : B ≤ w1.heap.size := Nat.le_trans hB0 b1.size
    clear b1 hm0 hm1 hmf0 hmf1 hms
    go_wp2
    go_ret2
    rw [HOX.out, sol_no HOX.out]
    exact ⟨_, rfl, HB1.out, OwR.nil _ _, by simp [szR]⟩
  | true =>
    obtain ⟨hf, hn24, n, rfl, hc24, hmat⟩ := (isMat_iff _ _ _).1 hm
    have HMM := Lib.hid hm
    have HF := Lib.hid hf
    have HMT := Lib.hid hmat
    cases hr : rowB p n b with
    | false =>
      have HOX := Lib.hid (show solOk p n M b = false by simp [solOk, hr])
      have HAL := Lib.hid (show areL p n [b] = false by simp [areL, hr])
      clear hm hf hmat hr
      have HVB := Lib.hid (show Below w.heap.size w (w.alloc (.cells #[.int .i64 n, .slice A M.length cp] tM)) from (Below.refl _ _).alloc (Nat.le_refl _) _)
      have HV := Lib.hid (hv.below HVB.out hB)
      have HX := Lib.hid (hb.below HVB.out hB)
      have hB0 : B ≤ (w.alloc (.cells #[.int .i64 n, .slice A M.length cp] tM)).heap.size := Nat.le_trans hB HVB.out.size
      have HM0 := Lib.hid (cellsAt_new w #[.int .i64 n, .slice A M.length cp] tM)
      have HT := Lib.hid (ht.below HVB.out)
      clear hv hb hB ht
      go_enter Tryd.func28, Tryd.ntmps28
      go_upto_region 1 with fail
      generalize (w.alloc (.cells #[.int .i64 n, .slice A M.length cp] tM)) = W0 at HVB HV HX hB0 HM0 HT ⊢
      obtain ⟨hm0, hm1, hmf0, hmf1, hms⟩ := HM0.out.two
      go_wp2_with fail
      refine (implIsMatrix_any W0 B _ p n M HT.out HV.out.1 hB0 HV.out.2.1 HV.out.2.2).mono ?_
      rintro e w1 ⟨rfl, b1⟩
      rw [HMM.out]
      have HM1 := Lib.hid (HM0.out.below b1 hms)
      have HV1 := Lib.hid (HV.out.below b1 hB0)
      have HX1 := Lib.hid (HX.out.below b1 hB0)
      have HT1 := Lib.hid (HT.out.below b1)
      have HB1 := Lib.hid (HVB.out.trans (b1.mono HVB.out.size))
      have hB1 : B ≤ w1.heap.size := Nat.le_trans hB0 b1.size
      clear b1 hm0 hm1 hmf0 hmf1 hms
      obtain ⟨hm0, hm1, hmf0, hmf1, hms⟩ := HM1.out.two
      have HA := Lib.hid (show Below w1.heap.size w1 (w1.alloc (.cells #[.slice Ab b.length cb] 42)) from (Below.refl _ _).alloc (Nat.le_refl _) _)
      have HRG := Lib.hid (rdG_one (cellsAt_new w1 #[.slice Ab b.length cb] 42) ((HX1.out.1.below HA.out hB1).mono (T := fun q => q < w1.heap.size + 1) (fun q hq => by omega)) (by omega) 1)
      have HTA := Lib.hid (HT1.out.below HA.out)
      have HM2 := Lib.hid (HM1.out.below HA.out hms)
      have HV2 := Lib.hid (HV1.out.below HA.out hB1)
      have HX2 := Lib.hid (HX1.out.below HA.out hB1)
      have hB2 : B ≤ (w1.alloc (.cells #[.slice Ab b.length cb] 42)).heap.size := Nat.le_trans hB1 HA.out.size
      have HB2 := Lib.hid (HB1.out.trans (HA.out.mono HB1.out.size))
      go_wp2_with fail
      refine (areLists_any _ (w1.heap.size + 1) _ p n [b] HTA.out HRG.out (by simp) (fun r hr => match r, hr with | 0, _ => HX1.out.2 | _ + 1, h => absurd h (by simp))).mono ?_
      rintro e w' ⟨rfl, rfl⟩
      rw [HAL.out]
      clear hm0 hm1 hmf0 hmf1 hms HA HRG
      generalize (w1.alloc (.cells #[.slice Ab b.length cb] 42)) = w2 at HTA HM2 HV2 HX2 hB2 HB2 ⊢
      go_wp2
      go_ret2
      rw [HOX.out, sol_no HOX.out]
      exact ⟨_, rfl, HB2.out, OwR.nil _ _, by simp [szR]⟩
    | true =>
      have HAL := Lib.hid (show areL p n [b] = true by simp [areL, hr, hf])
      have hvec := rowB_vec' hr
      have HVL := Lib.hid hvec.1
      have HIN := Lib.hid (red_inv hf hmat (idRows_mat (fld_bd hf).1 M.length) n (Nat.le_refl n))
      have HPK := Lib.hid (pick_lead hf hmat (idRows M.length) b)
      have HVR := Lib.hid (vmul_red hf hmat (idRows M.length) b)
      have HCE := Lib.hid (coords_el (rref_red hf hmat) hvec)
      have HIX := Lib.hid (show ∀ i, i ∈ ints (red p M (idRows M.length) n).lead → 0 ≤ i ∧ i < (b.length : Int) by rw [hvec.1]; exact lead_in HIN.out (Nat.le_refl n))
      have hrl : (rref p M n).length ≤ 24 := Nat.le_trans (rref_le hf hmat) (by omega)
      have hrm : (rref p M n).length ≤ M.length := by rw [rref_len hf hmat]; exact (rr_inv hf hmat (Nat.le_refl n)).rank
      have hp1 := (fld_bd hf).1
      have hp2 := (fld_bd hf).2
      cases hh : hasV p n (rref p M n) b with
      | false =>
        have HHV := Lib.hid hh
        have HOX := Lib.hid (show solOk p n M b = false by simp [solOk, hh])
        have HTT := Lib.hid (show (red p M (idRows M.length) n).t = (red p M (idRows M.length) n).t from rfl)
        clear hm hf hmat hr hvec hh
        have HVB := Lib.hid (show Below w.heap.size w (w.alloc (.cells #[.int .i64 n, .slice A M.length cp] tM)) from (Below.refl _ _).alloc (Nat.le_refl _) _)
        have HV := Lib.hid (hv.below HVB.out hB)
        have HX := Lib.hid (hb.below HVB.out hB)
        have hB0 : B ≤ (w.alloc (.cells #[.int .i64 n, .slice A M.length cp] tM)).heap.size := Nat.le_trans hB HVB.out.size
        have HM0 := Lib.hid (cellsAt_new w #[.int .i64 n, .slice A M.length cp] tM)
        have HT := Lib.hid (ht.below HVB.out)
        clear hv hb hB ht
        go_enter Tryd.func28, Tryd.ntmps28
        go_upto_region 1 with fail
        generalize (w.alloc (.cells #[.int .i64 n, .slice A M.length cp] tM)) = W0 at HVB HV HX hB0 HM0 HT ⊢
        obtain ⟨hm0, hm1, hmf0, hmf1, hms⟩ := HM0.out.two
        go_wp2_with fail
        refine (implIsMatrix_any W0 B _ p n M HT.out HV.out.1 hB0 HV.out.2.1 HV.out.2.2).mono ?_
        rintro e w1 ⟨rfl, b1⟩
        rw [HMM.out]
        have HM1 := Lib.hid (HM0.out.below b1 hms)
        have HV1 := Lib.hid (HV.out.below b1 hB0)
        have HX1 := Lib.hid (HX.out.below b1 hB0)
        have HT1 := Lib.hid (HT.out.below b1)
        have HB1 := Lib.hid (HVB.out.trans (b1.mono HVB.out.size))
        have hB1 : B ≤ w1.heap.size := Nat.le_trans hB0 b1.size
        clear b1 hm0 hm1 hmf0 hmf1 hms
        obtain ⟨hm0, hm1, hmf0, hmf1, hms⟩ := HM1.out.two
        have HA := Lib.hid (show Below w1.heap.size w1 (w1.alloc (.cells #[.slice Ab b.length cb] 42)) from (Below.refl _ _).alloc (Nat.le_refl _) _)
        have HRG := Lib.hid (rdG_one (cellsAt_new w1 #[.slice Ab b.length cb] 42) ((HX1.out.1.below HA.out hB1).mono (T := fun q => q < w1.heap.size + 1) (fun q hq => by omega)) (by omega) 1)
        have HTA := Lib.hid (HT1.out.below HA.out)
        have HM2 := Lib.hid (HM1.out.below HA.out hms)
        have HV2 := Lib.hid (HV1.out.below HA.out hB1)
        have HX2 := Lib.hid (HX1.out.below HA.out hB1)
        have hB2 : B ≤ (w1.alloc (.cells #[.slice Ab b.length cb] 42)).heap.size := Nat.le_trans hB1 HA.out.size
        have HB2 := Lib.hid (HB1.out.trans (HA.out.mono HB1.out.size))
        go_wp2_with fail
        refine (areLists_any _ (w1.heap.size + 1) _ p n [b] HTA.out HRG.out (by simp) (fun r hr => match r, hr with | 0, _ => HX1.out.2 | _ + 1, h => absurd h (by simp))).mono ?_
        rintro e w' ⟨rfl, rfl⟩
        rw [HAL.out]
        clear hm0 hm1 hmf0 hmf1 hms HA HRG
        generalize (w1.alloc (.cells #[.slice Ab b.length cb] 42)) = w2 at HTA HM2 HV2 HX2 hB2 HB2 ⊢
        obtain ⟨hm0, hm1, hmf0, hmf1, hms⟩ := HM2.out.two
        go_wp2_with fail
        refine (reduceMatrix_ct w2 B _ p M.length n M HV2.out.1 hB2 HF.out HMT.out (by omega) (by omega)).mono ?_
        rintro e w3 ⟨Aa, ca, At, ct, Al, cl, Sa, St, hct, rfl, b3, hSa, hSt, hSat, oa, ot, ol⟩
        generalize red p M (idRows M.length) n = s at oa ot ol HIN HPK HVR HTT HIX ⊢
        have hrn : s.lead.length ≤ M.length := HIN.out.rank
        have HLA := Lib.hid HIN.out.a.1
        have HLT := Lib.hid HIN.out.t.1
        have HM3 := Lib.hid (HM2.out.below b3 hms)
        have HX3 := Lib.hid (HX2.out.1.below b3 hB2)
        have HB3 := Lib.hid (HB2.out.trans (b3.mono HB2.out.size))
        have HRA := Lib.hid (OwG.readB oa)
        have HRT := Lib.hid (OwG.readB ot)
        have HRL := Lib.hid (OwR.readB ol)
        have hB3 : B ≤ w3.heap.size := Nat.le_trans hB2 b3.size
        clear b3 hSa hSt hSat oa ot ol hct hm0 hm1 hmf0 hmf1 hms
        go_upto_region 4 with fail
        have HY4 := Lib.hid (cellsAt_new w3 #[.int .i64 p, .slice Aa M.length ca, .slice At M.length ct, .slice Al s.lead.length cl, .int .i64 s.fac] tRd)
        have HA4 := Lib.hid (show Below w3.heap.size w3 (w3.alloc (.cells #[.int .i64 p, .slice Aa M.length ca, .slice At M.length ct, .slice Al s.lead.length cl, .int .i64 s.fac] tRd)) from (Below.refl _ _).alloc (Nat.le_refl _) _)
        have HM4 := Lib.hid (HM3.out.below HA4.out HM3.out.lt)
        have HX4 := Lib.hid (HX3.out.below HA4.out hB3)
        have HB4 := Lib.hid (HB3.out.trans (HA4.out.mono HB3.out.size))
        have HRA4 := Lib.hid ((HRA.out.below HA4.out (Nat.le_refl _)).mono HA4.out.size)
        have HRT4 := Lib.hid ((HRT.out.below HA4.out (Nat.le_refl _)).mono HA4.out.size)
        have HRL4 := Lib.hid ((HRL.out.below HA4.out (Nat.le_refl _)).mono (T := fun q => q < (w3.alloc (.cells #[.int .i64 p, .slice Aa M.length ca, .slice At M.length ct, .slice Al s.lead.length cl, .int .i64 s.fac] tRd)).heap.size) (fun q hq => Nat.lt_of_lt_of_le hq HA4.out.size))
        have hB4 : B ≤ (w3.alloc (.cells #[.int .i64 p, .slice Aa M.length ca, .slice At M.length ct, .slice Al s.lead.length cl, .int .i64 s.fac] tRd)).heap.size := Nat.le_trans hB3 HA4.out.size
        change Code.wp _ _ _ _ (w3.alloc (.cells #[.int .i64 p, .slice Aa M.length ca, .slice At M.length ct, .slice Al s.lead.length cl, .int .i64 s.fac] tRd))
        generalize (w3.alloc (.cells #[.int .i64 p, .slice Aa M.length ca, .slice At M.length ct, .slice Al s.lead.length cl, .int .i64 s.fac] tRd)) = W4 at HY4 HM4 HX4 HB4 HRA4 HRT4 HRL4 hB4 ⊢
        obtain ⟨hy0, hy1, hy2, hy3, hy4, hyf, hys⟩ := HY4.out.five
        go_wp2_with fail
        refine (elementsAt_any W4 W4.heap.size _ _ b (ints s.lead) (HX4.out.mono (T := fun q => q < W4.heap.size) (fun q hq => Nat.lt_of_lt_of_le hq hB4)) (by have h := HRL4.out; exact h) (Nat.le_refl _) (by rw [ints_len]; omega) HIX.out).mono ?_
        rintro e w5 ⟨v5, rfl, b5, o5⟩
        rw [HPK.out] at o5
        obtain ⟨A5, c5, rfl⟩ := o5.len
        have HY5 := Lib.hid (HY4.out.below b5 hys)
        have HM5 := Lib.hid (HM4.out.below b5 HM4.out.lt)
        have HX5 := Lib.hid (HX4.out.below b5 hB4)
        have HB5 := Lib.hid (HB4.out.trans (b5.mono HB4.out.size))
        have HRA5 := Lib.hid ((HRA4.out.below b5 (Nat.le_refl _)).mono b5.size)
        have HRT5 := Lib.hid ((HRT4.out.below b5 (Nat.le_refl _)).mono b5.size)
        have HC5 := Lib.hid o5.readB
        have hB5 : B ≤ w5.heap.size := Nat.le_trans hB4 b5.size
        clear b5 o5 hy0 hy1 hy2 hy3 hy4 hyf hys
        obtain ⟨hy0, hy1, hy2, hy3, hy4, hyf, hys⟩ := HY5.out.five
        obtain ⟨hm0, hm1, hmf0, hmf1, hms⟩ := HM5.out.two
        go_wp2_with fail
        refine (combineRows_any w5 w5.heap.size _ _ p n (coords (rref p M n) b) s.a HC5.out (by have h := HRA5.out; exact h) (Nat.le_refl _) hp1 hp2 (by omega) (by rw [coords_len]; omega) (by rw [coords_len, HLA.out]; omega) HCE.out (fun r hr => HIN.out.a.2 r hr)).mono ?_
        rintro e w6 ⟨v6, rfl, b6, o6⟩
        rw [HVR.out] at o6
        obtain ⟨A6, c6, rfl⟩ := o6.len
        have HY6 := Lib.hid (HY5.out.below b6 hys)
        have HM6 := Lib.hid (HM5.out.below b6 hms)
        have HX6 := Lib.hid (HX5.out.below b6 hB5)
        have HB6 := Lib.hid (HB5.out.trans (b6.mono HB5.out.size))
        have HRT6 := Lib.hid ((HRT5.out.below b6 (Nat.le_refl _)).mono b6.size)
        have HC6 := Lib.hid ((HC5.out.below b6 (Nat.le_refl _)).mono (T := fun q => q < w6.heap.size) (fun q hq => Nat.lt_of_lt_of_le hq b6.size))
        have HO6 := Lib.hid o6.readB
        have hB6 : B ≤ w6.heap.size := Nat.le_trans hB5 b6.size
        clear b6 o6 hy0 hy1 hy2 hy3 hy4 hyf hys hm0 hm1 hmf0 hmf1 hms
        go_wp2_with fail
        refine (equal_any w6 w6.heap.size _ _ (vmul p n (coords (rref p M n) b) (rref p M n)) b HO6.out (HX6.out.mono (T := fun q => q < w6.heap.size) (fun q hq => Nat.lt_of_lt_of_le hq hB6)) (by rw [vmul_len]; omega)).mono ?_
        rintro e w' ⟨rfl, m7, rfl⟩
        rw [show decide (vmul p n (coords (rref p M n) b) (rref p M n) = b) = hasV p n (rref p M n) b from rfl, HHV.out]
        have HB7 := Lib.hid (show Below w.heap.size w (w6.drewN m7) from below_drewN HB6.out)
        go_wp2
        go_ret2
        rw [HOX.out, sol_no HOX.out]
        exact ⟨_, rfl, HB7.out, OwR.nil _ _, by simp [szR]⟩
      | true =>
        have HHV := Lib.hid hh
        have HOX := Lib.hid (show solOk p n M b = true by simp [solOk, hh, hm, hr])
        have HTT := Lib.hid (sol_yes HOX.out)
        have HSZ := Lib.hid (show szR (solX p n M b) ≤ 1099511627776 by rw [sol_yes HOX.out]; unfold szR; rw [vmul_len]; omega)
        clear hm hf hmat hr hvec hh
        have HVB := Lib.hid (show Below w.heap.size w (w.alloc (.cells #[.int .i64 n, .slice A M.length cp] tM)) from (Below.refl _ _).alloc (Nat.le_refl _) _)
        have HV := Lib.hid (hv.below HVB.out hB)
        have HX := Lib.hid (hb.below HVB.out hB)
        have hB0 : B ≤ (w.alloc (.cells #[.int .i64 n, .slice A M.length cp] tM)).heap.size := Nat.le_trans hB HVB.out.size
        have HM0 := Lib.hid (cellsAt_new w #[.int .i64 n, .slice A M.length cp] tM)
        have HT := Lib.hid (ht.below HVB.out)
        clear hv hb hB ht
        go_enter Tryd.func28, Tryd.ntmps28
        go_upto_region 1 with fail
        generalize (w.alloc (.cells #[.int .i64 n, .slice A M.length cp] tM)) = W0 at HVB HV HX hB0 HM0 HT ⊢
        obtain ⟨hm0, hm1, hmf0, hmf1, hms⟩ := HM0.out.two
        go_wp2_with fail
        refine (implIsMatrix_any W0 B _ p n M HT.out HV.out.1 hB0 HV.out.2.1 HV.out.2.2).mono ?_
        rintro e w1 ⟨rfl, b1⟩
        rw [HMM.out]
        have HM1 := Lib.hid (HM0.out.below b1 hms)
        have HV1 := Lib.hid (HV.out.below b1 hB0)
        have HX1 := Lib.hid (HX.out.below b1 hB0)
        have HT1 := Lib.hid (HT.out.below b1)
        have HB1 := Lib.hid (HVB.out.trans (b1.mono HVB.out.size))
        have hB1 : B ≤ w1.heap.size := Nat.le_trans hB0 b1.size
        clear b1 hm0 hm1 hmf0 hmf1 hms
        obtain ⟨hm0, hm1, hmf0, hmf1, hms⟩ := HM1.out.two
        have HA := Lib.hid (show Below w1.heap.size w1 (w1.alloc (.cells #[.slice Ab b.length cb] 42)) from (Below.refl _ _).alloc (Nat.le_refl _) _)
        have HRG := Lib.hid (rdG_one (cellsAt_new w1 #[.slice Ab b.length cb] 42) ((HX1.out.1.below HA.out hB1).mono (T := fun q => q < w1.heap.size + 1) (fun q hq => by omega)) (by omega) 1)
        have HTA := Lib.hid (HT1.out.below HA.out)
        have HM2 := Lib.hid (HM1.out.below HA.out hms)
        have HV2 := Lib.hid (HV1.out.below HA.out hB1)
        have HX2 := Lib.hid (HX1.out.below HA.out hB1)
        have hB2 : B ≤ (w1.alloc (.cells #[.slice Ab b.length cb] 42)).heap.size := Nat.le_trans hB1 HA.out.size
        have HB2 := Lib.hid (HB1.out.trans (HA.out.mono HB1.out.size))
        go_wp2_with fail
        refine (areLists_any _ (w1.heap.size + 1) _ p n [b] HTA.out HRG.out (by simp) (fun r hr => match r, hr with | 0, _ => HX1.out.2 | _ + 1, h => absurd h (by simp))).mono ?_
        rintro e w' ⟨rfl, rfl⟩
        rw [HAL.out]
        clear hm0 hm1 hmf0 hmf1 hms HA HRG
        generalize (w1.alloc (.cells #[.slice Ab b.length cb] 42)) = w2 at HTA HM2 HV2 HX2 hB2 HB2 ⊢
        obtain ⟨hm0, hm1, hmf0, hmf1, hms⟩ := HM2.out.two
        go_wp2_with fail
        refine (reduceMatrix_ct w2 B _ p M.length n M HV2.out.1 hB2 HF.out HMT.out (by omega) (by omega)).mono ?_
        rintro e w3 ⟨Aa, ca, At, ct, Al, cl, Sa, St, hct, rfl, b3, hSa, hSt, hSat, oa, ot, ol⟩
        generalize red p M (idRows M.length) n = s at oa ot ol HIN HPK HVR HTT HIX ⊢
        have hrn : s.lead.length ≤ M.length := HIN.out.rank
        have HLA := Lib.hid HIN.out.a.1
        have HLT := Lib.hid HIN.out.t.1
        have HM3 := Lib.hid (HM2.out.below b3 hms)
        have HX3 := Lib.hid (HX2.out.1.below b3 hB2)
        have HB3 := Lib.hid (HB2.out.trans (b3.mono HB2.out.size))
        have HRA := Lib.hid (OwG.readB oa)
        have HRT := Lib.hid (OwG.readB ot)
        have HRL := Lib.hid (OwR.readB ol)
        have hB3 : B ≤ w3.heap.size := Nat.le_trans hB2 b3.size
        clear b3 hSa hSt hSat oa ot ol hct hm0 hm1 hmf0 hmf1 hms
        go_upto_region 4 with fail
        have HY4 := Lib.hid (cellsAt_new w3 #[.int .i64 p, .slice Aa M.length ca, .slice At M.length ct, .slice Al s.lead.length cl, .int .i64 s.fac] tRd)
        have HA4 := Lib.hid (show Below w3.heap.size w3 (w3.alloc (.cells #[.int .i64 p, .slice Aa M.length ca, .slice At M.length ct, .slice Al s.lead.length cl, .int .i64 s.fac] tRd)) from (Below.refl _ _).alloc (Nat.le_refl _) _)
        have HM4 := Lib.hid (HM3.out.below HA4.out HM3.out.lt)
        have HX4 := Lib.hid (HX3.out.below HA4.out hB3)
        have HB4 := Lib.hid (HB3.out.trans (HA4.out.mono HB3.out.size))
        have HRA4 := Lib.hid ((HRA.out.below HA4.out (Nat.le_refl _)).mono HA4.out.size)
        have HRT4 := Lib.hid ((HRT.out.below HA4.out (Nat.le_refl _)).mono HA4.out.size)
        have HRL4 := Lib.hid ((HRL.out.below HA4.out (Nat.le_refl _)).mono (T := fun q => q < (w3.alloc (.cells #[.int .i64 p, .slice Aa M.length ca, .slice At M.length ct, .slice Al s.lead.length cl, .int .i64 s.fac] tRd)).heap.size) (fun q hq => Nat.lt_of_lt_of_le hq HA4.out.size))
        have hB4 : B ≤ (w3.alloc (.cells #[.int .i64 p, .slice Aa M.length ca, .slice At M.length ct, .slice Al s.lead.length cl, .int .i64 s.fac] tRd)).heap.size := Nat.le_trans hB3 HA4.out.size
        change Code.wp _ _ _ _ (w3.alloc (.cells #[.int .i64 p, .slice Aa M.length ca, .slice At M.length ct, .slice Al s.lead.length cl, .int .i64 s.fac] tRd))
        generalize (w3.alloc (.cells #[.int .i64 p, .slice Aa M.length ca, .slice At M.length ct, .slice Al s.lead.length cl, .int .i64 s.fac] tRd)) = W4 at HY4 HM4 HX4 HB4 HRA4 HRT4 HRL4 hB4 ⊢
        obtain ⟨hy0, hy1, hy2, hy3, hy4, hyf, hys⟩ := HY4.out.five
        go_wp2_with fail
        refine (elementsAt_any W4 W4.heap.size _ _ b (ints s.lead) (HX4.out.mono (T := fun q => q < W4.heap.size) (fun q hq => Nat.lt_of_lt_of_le hq hB4)) (by have h := HRL4.out; exact h) (Nat.le_refl _) (by rw [ints_len]; omega) HIX.out).mono ?_
        rintro e w5 ⟨v5, rfl, b5, o5⟩
        rw [HPK.out] at o5
        obtain ⟨A5, c5, rfl⟩ := o5.len
        have HY5 := Lib.hid (HY4.out.below b5 hys)
        have HM5 := Lib.hid (HM4.out.below b5 HM4.out.lt)
        have HX5 := Lib.hid (HX4.out.below b5 hB4)
        have HB5 := Lib.hid (HB4.out.trans (b5.mono HB4.out.size))
        have HRA5 := Lib.hid ((HRA4.out.below b5 (Nat.le_refl _)).mono b5.size)
        have HRT5 := Lib.hid ((HRT4.out.below b5 (Nat.le_refl _)).mono b5.size)
        have HC5 := Lib.hid o5.readB
        have hB5 : B ≤ w5.heap.size := Nat.le_trans hB4 b5.size
        clear b5 o5 hy0 hy1 hy2 hy3 hy4 hyf hys
        obtain ⟨hy0, hy1, hy2, hy3, hy4, hyf, hys⟩ := HY5.out.five
        obtain ⟨hm0, hm1, hmf0, hmf1, hms⟩ := HM5.out.two
        go_wp2_with fail
        refine (combineRows_any w5 w5.heap.size _ _ p n (coords (rref p M n) b) s.a HC5.out (by have h := HRA5.out; exact h) (Nat.le_refl _) hp1 hp2 (by omega) (by rw [coords_len]; omega) (by rw [coords_len, HLA.out]; omega) HCE.out (fun r hr => HIN.out.a.2 r hr)).mono ?_
        rintro e w6 ⟨v6, rfl, b6, o6⟩
        rw [HVR.out] at o6
        obtain ⟨A6, c6, rfl⟩ := o6.len
        have HY6 := Lib.hid (HY5.out.below b6 hys)
        have HM6 := Lib.hid (HM5.out.below b6 hms)
        have HX6 := Lib.hid (HX5.out.below b6 hB5)
        have HB6 := Lib.hid (HB5.out.trans (b6.mono HB5.out.size))
        have HRT6 := Lib.hid ((HRT5.out.below b6 (Nat.le_refl _)).mono b6.size)
        have HC6 := Lib.hid ((HC5.out.below b6 (Nat.le_refl _)).mono (T := fun q => q < w6.heap.size) (fun q hq => Nat.lt_of_lt_of_le hq b6.size))
        have HO6 := Lib.hid o6.readB
        have hB6 : B ≤ w6.heap.size := Nat.le_trans hB5 b6.size
        clear b6 o6 hy0 hy1 hy2 hy3 hy4 hyf hys hm0 hm1 hmf0 hmf1 hms
        go_wp2_with fail
        refine (equal_any w6 w6.heap.size _ _ (vmul p n (coords (rref p M n) b) (rref p M n)) b HO6.out (HX6.out.mono (T := fun q => q < w6.heap.size) (fun q hq => Nat.lt_of_lt_of_le hq hB6)) (by rw [vmul_len]; omega)).mono ?_
        rintro e w' ⟨rfl, m7, rfl⟩
        rw [show decide (vmul p n (coords (rref p M n) b) (rref p M n) = b) = hasV p n (rref p M n) b from rfl, HHV.out]
        have HB7 := Lib.hid (show Below w.heap.size w (w6.drewN m7) from below_drewN HB6.out)
        have HY7 := Lib.hid (show CellsAt (w6.drewN m7) w3.heap.size tRd _ from HY6.out)
        have HM7 := Lib.hid (show CellsAt (w6.drewN m7) w.heap.size tM _ from HM6.out)
        obtain ⟨hy0, hy1, hy2, hy3, hy4, hyf, hys⟩ := HY7.out.five
        obtain ⟨hm0, hm1, hmf0, hmf1, hms⟩ := HM7.out.two
        go_wp2_with fail
        refine (combineRows_any (w6.drewN m7) w6.heap.size _ _ p M.length (coords (rref p M n) b) s.t HC6.out (by have h := HRT6.out; exact h) (Nat.le_refl _) hp1 hp2 (by omega) (by rw [coords_len]; omega) (by rw [coords_len, HLT.out]; omega) HCE.out (fun r hr => HIN.out.t.2 r hr)).mono ?_
        rintro e w8 ⟨v8, rfl, b8, o8⟩
        have HO8 := Lib.hid o8
        have HB8 := Lib.hid (HB7.out.trans (b8.mono HB7.out.size))
        have hz7 := HB7.out.size
        clear b8 o8
        go_wp2
        go_ret2
        rw [HOX.out]
        refine ⟨_, rfl, HB8.out, ?_, HSZ.out⟩
        rw [HTT.out]
        exact OwR.mono (T := fun q => w.heap.size ≤ q) HO8.out (fun q hq _ => Nat.le_trans hz7 hq)
end Go.Proofs.YtiiloioobmkicaaDoor
