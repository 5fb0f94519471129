/- SolveLinear: the model's side. -/
import Derived.Test.YtiiloioobmkicaaDoorSolS
import Derived.Test.YtiiloioobmkicaaDoorSolI
namespace Go.Proofs.YtiiloioobmkicaaDoor
set_option maxRecDepth 100000
open Go Go.RowKit Go.Deep

set_option maxRecDepth 100000 in
set_option maxHeartbeats 6400000 in
theorem spec_SolveLinear (w : World) (B : Nat) (v vb : Value) (p c : Int) (M : List (List Int)) (b : List Int) (hv : LfG w B v M) (hb : LfR w B vb b) (hB : B ≤ w.heap.size) (_hs : szG M ≤ 1048576) (_hsb : szR b ≤ 1048576) :
    Calls Tryd.prog 25 #[.int .i64 p, .agg #[.int .i64 c, v], vb] w (SRetRB w (solX p c M b) (solOk p c M b)) := by
  obtain ⟨A, cp, rfl⟩ := hv.len
  obtain ⟨Ab, cb, rfl⟩ := hb.len
  cases hm : isMat p c M with
  | false =>
    have HMM := Lib.hid hm
    have HOX := Lib.hid (show solOk p c M b = false by simp [solOk, hm])
    clear hm
    have HVB := Lib.hid (show Below w.heap.size w (w.alloc (.cells #[.int .i64 c, .slice A M.length cp] tM)) from (Below.refl _ _).alloc (Nat.le_refl _) _)
    have HV := Lib.hid (hv.below HVB.out hB)
    have HX := Lib.hid (hb.below HVB.out hB)
    have hB0 : B ≤ (w.alloc (.cells #[.int .i64 c, .slice A M.length cp] tM)).heap.size := Nat.le_trans hB HVB.out.size
    have HM0 := Lib.hid (cellsAt_new w #[.int .i64 c, .slice A M.length cp] tM)
    clear hv hb hB
    go_enter Tryd.func25, Tryd.ntmps25
    go_upto_region 1 with fail
    generalize (w.alloc (.cells #[.int .i64 c, .slice A M.length cp] tM)) = W0 at HVB HV HX hB0 HM0 ⊢
    obtain ⟨hm0, hm1, hmf0, hmf1, hms⟩ := HM0.out.two
    go_wp2_with fail
    refine (mxGood_any W0 B _ p c M HV.out.1 hB0 HV.out.2.1 HV.out.2.2).mono ?_
    rintro e w1 ⟨rfl, b1⟩
    rw [HMM.out]
    have HM1 := Lib.hid (HM0.out.below b1 hms)
    have HV1 := Lib.hid (HV.out.below b1 hB0)
    have HX1 := Lib.hid (HX.out.below b1 hB0)
    have HB1 := Lib.hid (HVB.out.trans (b1.mono HVB.out.size))
    have hB1 : B ≤ w1.heap.size := Nat.le_trans hB0 b1.size
    clear b1 hm0 hm1 hmf0 hmf1 hms
    obtain ⟨hm0, hm1, hmf0, hmf1, hms⟩ := HM1.out.two
    clear hm0 hm1 hmf0 hmf1 hms
    go_wp2
    go_ret2
    rw [HOX.out, sol_no HOX.out]
    exact ⟨_, rfl, HB1.out, OwR.nil _ _, by simp [szR]⟩
  | true =>
    obtain ⟨hf, hn24, n, rfl, hc24, hmat⟩ := (isMat_iff _ _ _).1 hm
    have HMM := Lib.hid hm
    have HF := Lib.hid hf
    have HMT := Lib.hid hmat
    have hp1 := (fld_bd hf).1
    have hp2 := (fld_bd hf).2
    by_cases hl : b.length = n
    · have hq : ((b.length : Int) != (n : Int)) = false := by simp; omega
      have HL := Lib.hid hl
      clear hl
      cases hae : b.all (el p) with
      | false =>
        have HAE := Lib.hid hae
        have HOX := Lib.hid (show solOk p n M b = false by simp [solOk, rowB, hae])
        clear hm hf hmat hae
        have HVB := Lib.hid (show Below w.heap.size w (w.alloc (.cells #[.int .i64 n, .slice A M.length cp] tM)) from (Below.refl _ _).alloc (Nat.le_refl _) _)
        have HV := Lib.hid (hv.below HVB.out hB)
        have HX := Lib.hid (hb.below HVB.out hB)
        have hB0 : B ≤ (w.alloc (.cells #[.int .i64 n, .slice A M.length cp] tM)).heap.size := Nat.le_trans hB HVB.out.size
        have HM0 := Lib.hid (cellsAt_new w #[.int .i64 n, .slice A M.length cp] tM)
        clear hv hb hB
        go_enter Tryd.func25, Tryd.ntmps25
        go_upto_region 1 with fail
        generalize (w.alloc (.cells #[.int .i64 n, .slice A M.length cp] tM)) = W0 at HVB HV HX hB0 HM0 ⊢
        obtain ⟨hm0, hm1, hmf0, hmf1, hms⟩ := HM0.out.two
        go_wp2_with fail
        refine (mxGood_any W0 B _ p n M HV.out.1 hB0 HV.out.2.1 HV.out.2.2).mono ?_
        rintro e w1 ⟨rfl, b1⟩
        rw [HMM.out]
        have HM1 := Lib.hid (HM0.out.below b1 hms)
        have HV1 := Lib.hid (HV.out.below b1 hB0)
        have HX1 := Lib.hid (HX.out.below b1 hB0)
        have HB1 := Lib.hid (HVB.out.trans (b1.mono HVB.out.size))
        have hB1 : B ≤ w1.heap.size := Nat.le_trans hB0 b1.size
        clear b1 hm0 hm1 hmf0 hmf1 hms
        obtain ⟨hm0, hm1, hmf0, hmf1, hms⟩ := HM1.out.two
        go_wp2_with fail
        refine (fdIn_any w1 B _ p b HX1.out.1 HX1.out.2 hp1 hp2).mono ?_
        rintro e w' ⟨rfl, rfl⟩
        rw [HAE.out]
        go_wp2
        go_ret2
        rw [HOX.out, sol_no HOX.out]
        exact ⟨_, rfl, HB1.out, OwR.nil _ _, by simp [szR]⟩
      | true =>
        have HAE := Lib.hid hae
        have hr : rowB p n b = true := by unfold rowB; rw [hae, decide_eq_true (by have := HL.out; omega)]; rfl
        have HBV := Lib.hid (rowB_vec' hr)
        cases hh : hasV p n (rref p M n) b with
        | false =>
          have HHV := Lib.hid hh
          have HOX := Lib.hid (show solOk p n M b = false by simp [solOk, hh])
          clear hm hf hmat hr hh hae
          have HVB := Lib.hid (show Below w.heap.size w (w.alloc (.cells #[.int .i64 n, .slice A M.length cp] tM)) from (Below.refl _ _).alloc (Nat.le_refl _) _)
          have HV := Lib.hid (hv.below HVB.out hB)
          have HX := Lib.hid (hb.below HVB.out hB)
          have hB0 : B ≤ (w.alloc (.cells #[.int .i64 n, .slice A M.length cp] tM)).heap.size := Nat.le_trans hB HVB.out.size
          have HM0 := Lib.hid (cellsAt_new w #[.int .i64 n, .slice A M.length cp] tM)
          clear hv hb hB
          go_enter Tryd.func25, Tryd.ntmps25
          go_upto_region 1 with fail
          generalize (w.alloc (.cells #[.int .i64 n, .slice A M.length cp] tM)) = W0 at HVB HV HX hB0 HM0 ⊢
          obtain ⟨hm0, hm1, hmf0, hmf1, hms⟩ := HM0.out.two
          go_wp2_with fail
          refine (mxGood_any W0 B _ p n M HV.out.1 hB0 HV.out.2.1 HV.out.2.2).mono ?_
          rintro e w1 ⟨rfl, b1⟩
          rw [HMM.out]
          have HM1 := Lib.hid (HM0.out.below b1 hms)
          have HV1 := Lib.hid (HV.out.below b1 hB0)
          have HX1 := Lib.hid (HX.out.below b1 hB0)
          have HB1 := Lib.hid (HVB.out.trans (b1.mono HVB.out.size))
          have hB1 : B ≤ w1.heap.size := Nat.le_trans hB0 b1.size
          clear b1 hm0 hm1 hmf0 hmf1 hms
          obtain ⟨hm0, hm1, hmf0, hmf1, hms⟩ := HM1.out.two
          go_wp2_with fail
          refine (fdIn_any w1 B _ p b HX1.out.1 HX1.out.2 hp1 hp2).mono ?_
          rintro e w' ⟨rfl, rfl⟩
          rw [HAE.out]
          go_wp2_with fail
          refine (mxSolve_any w1 B _ _ p n M b HV1.out.1 HX1.out.1 hB1 HF.out HMT.out HBV.out (by omega) (by omega)).mono ?_
          rintro e w2 ⟨v2, rfl, b2, o2⟩
          rw [HHV.out]
          have HB2 := Lib.hid (HB1.out.trans (b2.mono HB1.out.size))
          have hz1 := HB1.out.size
          have HO2 := Lib.hid o2
          clear b2 o2 hm0 hm1 hmf0 hmf1 hms
          go_wp2
          go_ret2
          rw [HOX.out, sol_no HOX.out]
          exact ⟨_, rfl, HB2.out, OwR.nil _ _, by simp [szR]⟩
        | true =>
          have HHV := Lib.hid hh
          have HOX := Lib.hid (show solOk p n M b = true by simp [solOk, hh, hm, hr])
          have HSZ := Lib.hid (show szR (solX p n M b) ≤ 1099511627776 by rw [sol_yes HOX.out]; unfold szR; rw [vmul_len]; omega)
          clear hm hf hmat hr hh hae
          have HVB := Lib.hid (show Below w.heap.size w (w.alloc (.cells #[.int .i64 n, .slice A M.length cp] tM)) from (Below.refl _ _).alloc (Nat.le_refl _) _)
          have HV := Lib.hid (hv.below HVB.out hB)
          have HX := Lib.hid (hb.below HVB.out hB)
          have hB0 : B ≤ (w.alloc (.cells #[.int .i64 n, .slice A M.length cp] tM)).heap.size := Nat.le_trans hB HVB.out.size
          have HM0 := Lib.hid (cellsAt_new w #[.int .i64 n, .slice A M.length cp] tM)
          clear hv hb hB
          go_enter Tryd.func25, Tryd.ntmps25
          go_upto_region 1 with fail
          generalize (w.alloc (.cells #[.int .i64 n, .slice A M.length cp] tM)) = W0 at HVB HV HX hB0 HM0 ⊢
          obtain ⟨hm0, hm1, hmf0, hmf1, hms⟩ := HM0.out.two
          go_wp2_with fail
          refine (mxGood_any W0 B _ p n M HV.out.1 hB0 HV.out.2.1 HV.out.2.2).mono ?_
          rintro e w1 ⟨rfl, b1⟩
          rw [HMM.out]
          have HM1 := Lib.hid (HM0.out.below b1 hms)
          have HV1 := Lib.hid (HV.out.below b1 hB0)
          have HX1 := Lib.hid (HX.out.below b1 hB0)
          have HB1 := Lib.hid (HVB.out.trans (b1.mono HVB.out.size))
          have hB1 : B ≤ w1.heap.size := Nat.le_trans hB0 b1.size
          clear b1 hm0 hm1 hmf0 hmf1 hms
          obtain ⟨hm0, hm1, hmf0, hmf1, hms⟩ := HM1.out.two
          go_wp2_with fail
          refine (fdIn_any w1 B _ p b HX1.out.1 HX1.out.2 hp1 hp2).mono ?_
          rintro e w' ⟨rfl, rfl⟩
          rw [HAE.out]
          go_wp2_with fail
          refine (mxSolve_any w1 B _ _ p n M b HV1.out.1 HX1.out.1 hB1 HF.out HMT.out HBV.out (by omega) (by omega)).mono ?_
          rintro e w2 ⟨v2, rfl, b2, o2⟩
          rw [HHV.out]
          have HB2 := Lib.hid (HB1.out.trans (b2.mono HB1.out.size))
          have hz1 := HB1.out.size
          have HO2 := Lib.hid o2
          clear b2 o2 hm0 hm1 hmf0 hmf1 hms
          go_wp2
          go_ret2
          rw [HOX.out]
          refine ⟨_, rfl, HB2.out, ?_, HSZ.out⟩
          rw [sol_yes HOX.out]
          exact OwR.mono (T := fun q => w.heap.size ≤ q) HO2.out (fun q hq _ => Nat.le_trans hz1 hq)
    · have hq : ((b.length : Int) != (n : Int)) = true := by simp; omega
      have HOX := Lib.hid (show solOk p n M b = false by simp [solOk, rowB]; omega)
      clear hm hf hmat
      have HVB := Lib.hid (show Below w.heap.size w (w.alloc (.cells #[.int .i64 n, .slice A M.length cp] tM)) from (Below.refl _ _).alloc (Nat.le_refl _) _)
      have HV := Lib.hid (hv.below HVB.out hB)
      have HX := Lib.hid (hb.below HVB.out hB)
      have hB0 : B ≤ (w.alloc (.cells #[.int .i64 n, .slice A M.length cp] tM)).heap.size := Nat.le_trans hB HVB.out.size
      have HM0 := Lib.hid (cellsAt_new w #[.int .i64 n, .slice A M.length cp] tM)
      clear hv hb hB
      go_enter Tryd.func25, Tryd.ntmps25
      go_upto_region 1 with fail
      generalize (w.alloc (.cells #[.int .i64 n, .slice A M.length cp] tM)) = W0 at HVB HV HX hB0 HM0 ⊢
      obtain ⟨hm0, hm1, hmf0, hmf1, hms⟩ := HM0.out.two
      go_wp2_with fail
      refine (mxGood_any W0 B _ p n M HV.out.1 hB0 HV.out.2.1 HV.out.2.2).mono ?_
      rintro e w1 ⟨rfl, b1⟩
      rw [HMM.out]
      have HM1 := Lib.hid (HM0.out.below b1 hms)
      have HV1 := Lib.hid (HV.out.below b1 hB0)
      have HX1 := Lib.hid (HX.out.below b1 hB0)
      have HB1 := Lib.hid (HVB.out.trans (b1.mono HVB.out.size))
      have hB1 : B ≤ w1.heap.size := Nat.le_trans hB0 b1.size
      clear b1 hm0 hm1 hmf0 hmf1 hms
      obtain ⟨hm0, hm1, hmf0, hmf1, hms⟩ := HM1.out.two
      go_wp2
      go_ret2
      rw [HOX.out, sol_no HOX.out]
      exact ⟨_, rfl, HB1.out, OwR.nil _ _, by simp [szR]⟩
end Go.Proofs.YtiiloioobmkicaaDoor
