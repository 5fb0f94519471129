/- HasVector and CoordinatesOf: the program's side. -/
import Derived.Test.YtahlicbjbbpihaaDoorVecI
import Derived.Test.YtahlicbjbbpihaaDoorVecS
import Derived.Test.YtahlicbjbbpihaaDoorElems
namespace Go.Proofs.YtahlicbjbbpihaaDoor
set_option maxRecDepth 100000
open Go Go.RowKit Go.Deep

/-- A new block with one slice reads as one row. -/
theorem RdG.one {w : World} {B b : Nat} {A : Option Addr} {c : Nat} {v : List Int} {t : TypeId} (hc : CellsAt w b t [.slice A v.length c]) (hv : RdS w (fun q => q < B) (.slice A v.length c) v) (hb : b < B) (d : Nat) : RdG w B (.slice (some ⟨b, 0, none⟩) 1 d) [v] := by
  refine ⟨_, d, rfl, fun r hr => ?_⟩
  obtain rfl : r = 0 := by simp at hr; omega
  exact ⟨b, 0, _, rfl, hb, by simpa using hc.cell (i := 0) (by simp), hv⟩
set_option maxHeartbeats 1600000 in
theorem areSpVec_any (w : World) (B : Nat) (vb vv : Value) (p c : Int) (rows : List (List Int)) (v : List Int) (ht : Tab w) (hb : LfG w B vb rows) (hv : LfR w B vv v) (hB : B ≤ w.heap.size) :
    Calls Tryd.prog 70 #[.int .i64 p, .agg #[.int .i64 c, vb], vv] w (SaysB w (vecOk p c rows v)) := by
  obtain ⟨A, cp, rfl⟩ := hb.len
  obtain ⟨Av, cv, rfl⟩ := hv.len
  have HVB := Lib.hid (show Below w.heap.size w (w.alloc (.cells #[.int .i64 c, .slice A rows.length cp] tSp)) from (Below.refl _ _).alloc (Nat.le_refl _) _)
  have HV := Lib.hid (hb.below HVB.out hB)
  have HW := Lib.hid (hv.below HVB.out hB)
  have hB0 : B ≤ (w.alloc (.cells #[.int .i64 c, .slice A rows.length cp] tSp)).heap.size := Nat.le_trans hB HVB.out.size
  have HX0 := Lib.hid (cellsAt_new w #[.int .i64 c, .slice A rows.length cp] tSp)
  have HT := Lib.hid (ht.below HVB.out)
  clear hb hv hB ht
  cases hs : isSp p c rows with
  | false =>
    have HS := Lib.hid hs
    have HOK := Lib.hid (vecOk_sp (v := v) hs)
    clear hs
    go_enter Tryd.func70, Tryd.ntmps70
    go_wp2_with fail
    refine (implIsSpace_any _ B _ p c rows HT.out HV.out hB0).mono ?_
    rintro e w1 ⟨rfl, b1⟩
    rw [HS.out]
    have HB1 := Lib.hid (HVB.out.trans (b1.mono HVB.out.size))
    clear b1
    go_wp2
    go_ret
    rw [HOK.out]
    exact ⟨rfl, HB1.out⟩
  | true =>
    obtain ⟨hf, n, rfl, hn24, -, -, -⟩ := isSp_parts hs
    have HS := Lib.hid hs
    have HOK := Lib.hid ((vecOk_yes (v := v) hs).trans (show rowB p n v = areL p n [v] by rw [areL_rows _ _ _ hf]; simp))
    clear hs hf
    go_enter Tryd.func70, Tryd.ntmps70
    go_wp2_with fail
    refine (implIsSpace_any _ B _ p n rows HT.out HV.out hB0).mono ?_
    rintro e w1 ⟨rfl, b1⟩
    rw [HS.out]
    have HB1 := Lib.hid (HVB.out.trans (b1.mono HVB.out.size))
    have HX1 := Lib.hid (HX0.out.below b1 (by rw [nblk_alloc]; omega))
    have HW1 := Lib.hid (HW.out.below b1 hB0)
    have HT1 := Lib.hid (HT.out.below b1)
    have hs1 : B ≤ w1.heap.size := Nat.le_trans hB0 b1.size
    clear b1
    obtain ⟨hx0, hx1, hxf0, hxf1, hxs⟩ := HX1.out.two
    have HA := Lib.hid (show Below w1.heap.size w1 (w1.alloc (.cells #[.slice Av v.length cv] 33)) from (Below.refl _ _).alloc (Nat.le_refl _) _)
    have HRG := Lib.hid (RdG.one (cellsAt_new w1 #[.slice Av v.length cv] 33) ((HW1.out.1.below HA.out hs1).mono (T := fun q => q < w1.heap.size + 1) (fun q hq => by omega)) (by omega) 1)
    have HTA := Lib.hid (HT1.out.below HA.out)
    go_wp2_with fail
    refine (areLists_any _ (w1.heap.size + 1) _ p n [v] HTA.out HRG.out (by simp) (fun r hr => match r, hr with | 0, _ => HW1.out.2 | _ + 1, h => absurd h (by simp))).mono ?_
    rintro e w' ⟨rfl, rfl⟩
    go_wp2
    go_ret
    rw [HOK.out]
    exact ⟨rfl, HB1.out.trans (HA.out.mono HB1.out.size)⟩
set_option maxHeartbeats 1600000 in
theorem impl_HasVector (w : World) (B : Nat) (vb vv : Value) (p c : Int) (rows : List (List Int)) (v : List Int) (ht : Tab w) (hb : LfG w B vb rows) (hv : LfR w B vv v) (hB : B ≤ w.heap.size) (_hsb : szG rows ≤ 1048576) (_hsv : szR v ≤ 1048576) :
    Calls Tryd.prog 26 #[.int .i64 p, .agg #[.int .i64 c, vb], vv] w (IRetBB w (hvV p c rows v) (vecOk p c rows v)) := by
  obtain ⟨A, cp, rfl⟩ := hb.len
  obtain ⟨Av, cv, rfl⟩ := hv.len
  have HVB := Lib.hid (show Below w.heap.size w (w.alloc (.cells #[.int .i64 c, .slice A rows.length cp] tSp)) from (Below.refl _ _).alloc (Nat.le_refl _) _)
  have HV := Lib.hid (hb.below HVB.out hB)
  have HW := Lib.hid (hv.below HVB.out hB)
  have hB0 : B ≤ (w.alloc (.cells #[.int .i64 c, .slice A rows.length cp] tSp)).heap.size := Nat.le_trans hB HVB.out.size
  have HX0 := Lib.hid (cellsAt_new w #[.int .i64 c, .slice A rows.length cp] tSp)
  have HT := Lib.hid (ht.below HVB.out)
  clear hb hv hB ht
  cases hs : vecOk p c rows v with
  | false =>
    have HS := Lib.hid hs
    have HOK := Lib.hid (hvV_no hs)
    clear hs
    go_enter Tryd.func26, Tryd.ntmps26
    go_wp2_with fail
    refine (areSpVec_any _ B _ _ p c rows v HT.out HV.out HW.out hB0).mono ?_
    rintro e w1 ⟨rfl, b1⟩
    rw [HS.out]
    have HB1 := Lib.hid (HVB.out.trans (b1.mono HVB.out.size))
    clear b1
    go_wp2
    go_ret2
    rw [HOK.out]
    exact ⟨rfl, HB1.out⟩
  | true =>
    obtain ⟨hsp, hrv⟩ := vecOk_parts hs
    obtain ⟨hf, n, rfl, hn24, hln, hred, -⟩ := isSp_parts hsp
    have HS := Lib.hid hs
    have HOK := Lib.hid (hvV_yes hs)
    have HF := Lib.hid hf
    have HRD := Lib.hid hred
    have HVC := Lib.hid (rowB_vec hrv)
    clear hs hsp hrv hf hred
    go_enter Tryd.func26, Tryd.ntmps26
    go_wp2_with fail
    refine (areSpVec_any _ B _ _ p n rows v HT.out HV.out HW.out hB0).mono ?_
    rintro e w1 ⟨rfl, b1⟩
    rw [HS.out]
    have HB1 := Lib.hid (HVB.out.trans (b1.mono HVB.out.size))
    have HX1 := Lib.hid (HX0.out.below b1 (by rw [nblk_alloc]; omega))
    have HV1 := Lib.hid (HV.out.below b1 hB0)
    have HW1 := Lib.hid (HW.out.below b1 hB0)
    have hs1 : B ≤ w1.heap.size := Nat.le_trans hB0 b1.size
    clear b1
    obtain ⟨hx0, hx1, hxf0, hxf1, hxs⟩ := HX1.out.two
    go_wp2_with fail
    refine (contains_sp w1 B _ _ p n rows v HV1.out.1 HW1.out.1 hs1 HF.out HRD.out HVC.out hn24).mono ?_
    rintro e w2 ⟨rfl, b2⟩
    have HB2 := Lib.hid (HB1.out.trans (b2.mono HB1.out.size))
    clear b2
    go_wp2
    go_ret2
    rw [HOK.out]
    exact ⟨rfl, HB2.out⟩
set_option maxHeartbeats 1600000 in
theorem impl_CoordinatesOf (w : World) (B : Nat) (vb vv : Value) (p c : Int) (rows : List (List Int)) (v : List Int) (ht : Tab w) (hb : LfG w B vb rows) (hv : LfR w B vv v) (hB : B ≤ w.heap.size) (_hsb : szG rows ≤ 1048576) (_hsv : szR v ≤ 1048576) :
    Calls Tryd.prog 29 #[.int .i64 p, .agg #[.int .i64 c, vb], vv] w (IRetRB w (coR p c rows v) (hvV p c rows v)) := by
  obtain ⟨A, cp, rfl⟩ := hb.len
  obtain ⟨Av, cv, rfl⟩ := hv.len
  have HVB := Lib.hid (show Below w.heap.size w (w.alloc (.cells #[.int .i64 c, .slice A rows.length cp] tSp)) from (Below.refl _ _).alloc (Nat.le_refl _) _)
  have HV := Lib.hid (hb.below HVB.out hB)
  have HW := Lib.hid (hv.below HVB.out hB)
  have hB0 : B ≤ (w.alloc (.cells #[.int .i64 c, .slice A rows.length cp] tSp)).heap.size := Nat.le_trans hB HVB.out.size
  have HX0 := Lib.hid (cellsAt_new w #[.int .i64 c, .slice A rows.length cp] tSp)
  have HT := Lib.hid (ht.below HVB.out)
  clear hb hv hB ht
  cases hs : vecOk p c rows v with
  | false =>
    have HS := Lib.hid hs
    have HOK := Lib.hid (hvV_no hs)
    clear hs
    go_enter Tryd.func29, Tryd.ntmps29
    go_wp2_with fail
    refine (areSpVec_any _ B _ _ p c rows v HT.out HV.out HW.out hB0).mono ?_
    rintro e w1 ⟨rfl, b1⟩
    rw [HS.out]
    have HB1 := Lib.hid (HVB.out.trans (b1.mono HVB.out.size))
    clear b1
    go_wp2
    go_ret2
    rw [coR_no HOK.out, HOK.out]
    exact ⟨_, rfl, HB1.out, OwR.nil none 0, by simp [szR]⟩
  | true =>
    obtain ⟨hsp, hrv⟩ := vecOk_parts hs
    obtain ⟨hf, n, rfl, hn24, hln, hred, -⟩ := isSp_parts hsp
    have HS := Lib.hid hs
    have HOK := Lib.hid (hvV_yes hs)
    have HF := Lib.hid hf
    have HRD := Lib.hid hred
    have HVC := Lib.hid (rowB_vec hrv)
    clear hs hsp hrv hf hred
    cases hh : hasV p n rows v with
    | false =>
      have HH := Lib.hid hh
      rw [hh] at HOK
      clear hh
      go_enter Tryd.func29, Tryd.ntmps29
      go_wp2_with fail
      refine (areSpVec_any _ B _ _ p n rows v HT.out HV.out HW.out hB0).mono ?_
      rintro e w1 ⟨rfl, b1⟩
      rw [HS.out]
      have HB1 := Lib.hid (HVB.out.trans (b1.mono HVB.out.size))
      have HX1 := Lib.hid (HX0.out.below b1 (by rw [nblk_alloc]; omega))
      have HV1 := Lib.hid (HV.out.below b1 hB0)
      have HW1 := Lib.hid (HW.out.below b1 hB0)
      have hs1 : B ≤ w1.heap.size := Nat.le_trans hB0 b1.size
      clear b1
      obtain ⟨hx0, hx1, hxf0, hxf1, hxs⟩ := HX1.out.two
      go_wp2_with fail
      refine (contains_sp w1 B _ _ p n rows v HV1.out.1 HW1.out.1 hs1 HF.out HRD.out HVC.out hn24).mono ?_
      rintro e w2 ⟨rfl, b2⟩
      rw [HH.out]
      have HB2 := Lib.hid (HB1.out.trans (b2.mono HB1.out.size))
      clear b2
      go_wp2
      go_ret2
      rw [coR_no HOK.out, HOK.out]
      exact ⟨_, rfl, HB2.out, OwR.nil none 0, by simp [szR]⟩
    | true =>
      have HH := Lib.hid hh
      rw [hh] at HOK
      have HCL := Lib.hid (coords_len rows v)
      clear hh
      go_enter Tryd.func29, Tryd.ntmps29
      go_wp2_with fail
      refine (areSpVec_any _ B _ _ p n rows v HT.out HV.out HW.out hB0).mono ?_
      rintro e w1 ⟨rfl, b1⟩
      rw [HS.out]
      have HB1 := Lib.hid (HVB.out.trans (b1.mono HVB.out.size))
      have HX1 := Lib.hid (HX0.out.below b1 (by rw [nblk_alloc]; omega))
      have HV1 := Lib.hid (HV.out.below b1 hB0)
      have HW1 := Lib.hid (HW.out.below b1 hB0)
      have hs1 : B ≤ w1.heap.size := Nat.le_trans hB0 b1.size
      clear b1
      obtain ⟨hx0, hx1, hxf0, hxf1, hxs⟩ := HX1.out.two
      go_wp2_with fail
      refine (contains_sp w1 B _ _ p n rows v HV1.out.1 HW1.out.1 hs1 HF.out HRD.out HVC.out hn24).mono ?_
      rintro e w2 ⟨rfl, b2⟩
      rw [HH.out]
      have HB2 := Lib.hid (HB1.out.trans (b2.mono HB1.out.size))
      have HX2 := Lib.hid (HX1.out.below b2 hxs)
      have HV2 := Lib.hid (HV1.out.below b2 hs1)
      have HW2 := Lib.hid (HW1.out.below b2 hs1)
      have hs2 : B ≤ w2.heap.size := Nat.le_trans hs1 b2.size
      clear b2 hx0 hx1 hxf0 hxf1 hxs
      obtain ⟨hx0, hx1, hxf0, hxf1, hxs⟩ := HX2.out.two
      go_wp2_with fail
      refine (leadingIndices_any w2 B _ rows HV2.out.1 hs2 (by omega) (fun r hr => by rw [(HRD.out.mat.row hr).1]; omega)).mono ?_
      rintro e w3 ⟨vl, rfl, b3, ol⟩
      have hll := OwR.len ol
      have HLL := Lib.hid (leadsL_len rows)
      obtain ⟨Al, cl, rfl⟩ := hll
      have HLR := Lib.hid (OwR.readB ol)
      have HB3 := Lib.hid b3
      have hs3 : w2.heap.size ≤ w3.heap.size := b3.size
      have HPK := Lib.hid (pick_leads HRD.out v)
      have HLB : Hid (∀ i, i ∈ leadsL rows → 0 ≤ i ∧ i < (v.length : Int)) := Lib.hid (fun i hi => by
        obtain ⟨k, hk, rfl⟩ := mem_getD 0 hi
        rw [leadsL_len] at hk
        rw [leadsL_get hk, leadI_pos (by rw [(HRD.out.mat.row hk).1]; exact HRD.out.lt k hk), HVC.out.1]
        have := HRD.out.lt k hk
        omega)
      clear b3 ol hx0 hx1 hxf0 hxf1 hxs
      generalize leadsL rows = LS at HLL HLR HPK HLB ⊢
      go_wp2_with fail
      refine (elementsAt_any w3 w3.heap.size _ _ v LS ((HW2.out.1.below HB3.out hs2).mono (fun q hq => by omega)) HLR.out (Nat.le_refl _) (by rw [HLL.out]; omega) HLB.out).mono ?_
      rintro e w4 ⟨v4, rfl, b4, o4⟩
      have HB4 := Lib.hid (HB2.out.trans ((HB3.out.trans (b4.mono HB3.out.size)).mono HB2.out.size))
      have HO4 := Lib.hid (OwR.mono (T := fun q => w3.heap.size ≤ q) o4 (fun q hq _ => hq))
      have hs4 := HB2.out.size
      obtain ⟨A4, c4, rfl⟩ := OwR.len o4
      clear b4 o4
      go_wp2
      go_ret2
      rw [coR_yes HOK.out, HOK.out]
      have HPC : pick v LS = coords rows v := HPK.out
      rw [← HPC]
      exact ⟨_, rfl, HB4.out, HO4.out.mono (fun q hq _ => by omega), by unfold szR; rw [pick_len, HLL.out]; omega⟩
end Go.Proofs.YtahlicbjbbpihaaDoor
