/- HasVector and CoordinatesOf: the model's side. -/
import Derived.Test.YtahlicbjbbpihaaDoorVecF
import Derived.Test.YtahlicbjbbpihaaDoorRetBB
import Derived.Test.YtahlicbjbbpihaaDoorRetRB
namespace Go.Proofs.YtahlicbjbbpihaaDoor
set_option maxRecDepth 100000
open Go Go.RowKit Go.Deep

theorem rowB_vec {p : Int} {n : Nat} {v : List Int} (h : rowB p n v = true) : Vec p n v := by
  unfold rowB at h
  simp only [Bool.and_eq_true, decide_eq_true_eq, List.all_eq_true, el_iff] at h
  exact ⟨by omega, h.2⟩
/-- Whether a space and a vector of it are valid. -/
def vecOk (p c : Int) (rows : List (List Int)) (v : List Int) : Bool := isSp p c rows && rowB p c v
theorem vecOk_sp {p c : Int} {rows : List (List Int)} {v : List Int} (h : isSp p c rows = false) : vecOk p c rows v = false := by simp [vecOk, h]
theorem vecOk_row {p c : Int} {rows : List (List Int)} {v : List Int} (h : rowB p c v = false) : vecOk p c rows v = false := by simp [vecOk, h]
theorem vecOk_yes {p c : Int} {rows : List (List Int)} {v : List Int} (h : isSp p c rows = true) : vecOk p c rows v = rowB p c v := by simp [vecOk, h]
theorem vecOk_parts {p c : Int} {rows : List (List Int)} {v : List Int} (h : vecOk p c rows v = true) : isSp p c rows = true ∧ rowB p c v = true := by
  unfold vecOk at h
  rwa [Bool.and_eq_true] at h
set_option maxHeartbeats 1600000 in
theorem spVector_any (w : World) (B : Nat) (vb vv : Value) (p c : Int) (rows : List (List Int)) (v : List Int) (hb : LfG w B vb rows) (hv : LfR w B vv v) (hB : B ≤ w.heap.size) :
    Calls Tryd.prog 68 #[.int .i64 p, .agg #[.int .i64 c, vb], vv] w (SaysB w (vecOk p c rows v)) := by
  obtain ⟨A, cp, rfl⟩ := hb.len
  obtain ⟨Av, cv, rfl⟩ := hv.len
  have HVB := Lib.hid (show Below w.heap.size w (w.alloc (.cells #[.int .i64 c, .slice A rows.length cp] tSp)) from (Below.refl _ _).alloc (Nat.le_refl _) _)
  have HV := Lib.hid (hb.below HVB.out hB)
  have HW := Lib.hid (hv.below HVB.out hB)
  have hB0 : B ≤ (w.alloc (.cells #[.int .i64 c, .slice A rows.length cp] tSp)).heap.size := Nat.le_trans hB HVB.out.size
  have HX0 := Lib.hid (cellsAt_new w #[.int .i64 c, .slice A rows.length cp] tSp)
  clear hb hv hB
  cases hs : isSp p c rows with
  | false =>
    have HS := Lib.hid hs
    have HOK := Lib.hid (vecOk_sp (v := v) hs)
    clear hs
    go_enter Tryd.func68, Tryd.ntmps68
    go_wp2_with fail
    refine (spGood_any _ B _ p c rows HV.out hB0).mono ?_
    rintro e w1 ⟨rfl, b1⟩
    rw [HS.out]
    have HB1 := Lib.hid (HVB.out.trans (b1.mono HVB.out.size))
    clear b1
    go_wp2
    go_ret
    rw [HOK.out]
    exact ⟨rfl, HB1.out⟩
  | true =>
    obtain ⟨hf, n, rfl, hn24, -, -, -⟩ := isSp_parts hs
    obtain ⟨h1, h2⟩ := fld_bd hf
    have HS := Lib.hid hs
    have HOK := Lib.hid (vecOk_yes (v := v) hs)
    clear hs hf
    by_cases hl : (v.length : Int) = (n : Int)
    · have hq : ((v.length : Int) == (n : Int)) = true := by simp [hl]
      have HRB := Lib.hid (show rowB p n v = v.all (el p) by unfold rowB; simp [hl])
      have HL := Lib.hid hl
      clear hl
      go_enter Tryd.func68, Tryd.ntmps68
      go_wp2_with fail
      refine (spGood_any _ B _ p n rows HV.out hB0).mono ?_
      rintro e w1 ⟨rfl, b1⟩
      rw [HS.out]
      have HB1 := Lib.hid (HVB.out.trans (b1.mono HVB.out.size))
      have HX1 := Lib.hid (HX0.out.below b1 (by rw [nblk_alloc]; omega))
      have HW1 := Lib.hid (HW.out.below b1 hB0)
      clear b1
      obtain ⟨hx0, hx1, hxf0, hxf1, hxs⟩ := HX1.out.two
      have hl64 : v.length ≤ 9223372036854775807 := HW1.out.2
      go_wp2_with fail
      refine (fdIn_any _ B _ p v HW1.out.1 hl64 h1 h2).mono ?_
      rintro e w' ⟨rfl, rfl⟩
      go_wp2
      go_ret
      rw [HOK.out, HRB.out]
      exact ⟨rfl, HB1.out⟩
    · have hq : ((v.length : Int) == (n : Int)) = false := by simp; omega
      have HRB := Lib.hid (show rowB p n v = false by unfold rowB; simp [hl])
      clear hl
      go_enter Tryd.func68, Tryd.ntmps68
      go_wp2_with fail
      refine (spGood_any _ B _ p n rows HV.out hB0).mono ?_
      rintro e w1 ⟨rfl, b1⟩
      rw [HS.out]
      have HB1 := Lib.hid (HVB.out.trans (b1.mono HVB.out.size))
      have HX1 := Lib.hid (HX0.out.below b1 (by rw [nblk_alloc]; omega))
      clear b1
      obtain ⟨hx0, hx1, hxf0, hxf1, hxs⟩ := HX1.out.two
      go_wp2
      go_ret
      rw [HOK.out, HRB.out]
      exact ⟨rfl, HB1.out⟩
set_option maxHeartbeats 800000 in
theorem spHas_any (w : World) (B : Nat) (vb vv : Value) (p : Int) (c : Nat) (R : List (List Int)) (v : List Int) (hb : RdG w B vb R) (hv : RdS w (fun b => b < B) vv v) (hB : B ≤ w.heap.size) (hf : fld p = true) (hR : IsRed p R.length c R) (hV : Vec p c v) (hc : c ≤ 1000000) :
    Calls Tryd.prog 69 #[.int .i64 p, vb, vv] w (SaysB w (hasV p c R v)) := by
  obtain ⟨A, cp, rfl⟩ := hb.len
  obtain ⟨Av, cv, rfl, hv'⟩ := hv
  have HV := Lib.hid (show RdS w (fun b => b < B) (.slice Av v.length cv) v from ⟨Av, cv, rfl, hv'⟩)
  have HG := Lib.hid hb
  have HB := Lib.hid hB
  have HR := Lib.hid hR
  have HVV := Lib.hid hV
  have hRc := hR.le
  have hvl : v.length = c := hV.1
  have HVL := Lib.hid hvl
  have HCE := Lib.hid (coords_el hR hV)
  have HCL := Lib.hid (coords_len R v)
  have HHV := Lib.hid (show hasV p c R v = decide (vmul p c (coords R v) R = v) from rfl)
  have HVML := Lib.hid (vmul_len p c (coords R v) R)
  obtain ⟨h1, h2⟩ := fld_bd hf
  clear hb hv' hB hR hV hf
  rw [hvl] at HV ⊢
  clear hvl
  go_enter Tryd.func69, Tryd.ntmps69
  go_wp2_with fail
  refine (spCoords_any w B _ _ R v HG.out HV.out HB.out (by omega) (fun r hr => by rw [(HR.out.mat.row hr).1]; exact hc) (fun r hr => by rw [HVL.out]; exact HR.out.lt r hr)).mono ?_
  rintro e w1 ⟨v1, rfl, b1, o1⟩
  have HO1 := Lib.hid (OwR.readB o1)
  obtain ⟨A1, c1, rfl⟩ := OwR.len o1
  have HB1 := Lib.hid b1
  have hs1 : B ≤ w1.heap.size := Nat.le_trans HB.out b1.size
  clear b1 o1
  generalize coords R v = cs at HO1 HCE HCL HHV HVML
  go_wp2_with fail
  refine (spSum_any w1 w1.heap.size _ _ p c cs R HO1.out ((HG.out.below HB1.out HB.out).mono hs1) (Nat.le_refl _) h1 h2 hc (by omega) HCL.out HCE.out (fun r hr => HR.out.mat.vec hr)).mono ?_
  rintro e w2 ⟨v2, rfl, b2, o2⟩
  have HO2 := Lib.hid (OwR.readB o2)
  have hol := OwR.len o2
  rw [HVML.out] at hol
  obtain ⟨A2, c2, rfl⟩ := hol
  have HB2 := Lib.hid (HB1.out.trans (b2.mono HB1.out.size))
  clear b2 o2
  generalize vmul p c cs R = u at HO2 HHV HVML
  go_wp2_with fail
  refine (l1Same_any w2 w2.heap.size _ _ u v HO2.out ((HV.out.below HB2.out HB.out).mono (fun q hq => by have := HB.out; have := HB2.out.size; omega)) (by rw [HVML.out]; omega)).mono ?_
  rintro e w3 ⟨rfl, n3, rfl⟩
  go_wp2
  go_ret
  rw [HHV.out]
  exact ⟨rfl, below_drewN HB2.out⟩
def hvV (p c : Int) (rows : List (List Int)) (v : List Int) : Bool := vecOk p c rows v && hasV p c.toNat rows v
theorem hvV_no {p c : Int} {rows : List (List Int)} {v : List Int} (h : vecOk p c rows v = false) : hvV p c rows v = false := by simp [hvV, h]
theorem hvV_yes {p : Int} {c : Nat} {rows : List (List Int)} {v : List Int} (h : vecOk p c rows v = true) : hvV p c rows v = hasV p c rows v := by simp [hvV, h]
set_option maxHeartbeats 1600000 in
theorem spec_HasVector (w : World) (B : Nat) (vb vv : Value) (p c : Int) (rows : List (List Int)) (v : List Int) (hb : LfG w B vb rows) (hv : LfR w B vv v) (hB : B ≤ w.heap.size) (_hsb : szG rows ≤ 1048576) (_hsv : szR v ≤ 1048576) :
    Calls Tryd.prog 24 #[.int .i64 p, .agg #[.int .i64 c, vb], vv] w (SRetBB w (hvV p c rows v) (vecOk p c rows v)) := by
  obtain ⟨A, cp, rfl⟩ := hb.len
  obtain ⟨Av, cv, rfl⟩ := hv.len
  have HVB := Lib.hid (show Below w.heap.size w (w.alloc (.cells #[.int .i64 c, .slice A rows.length cp] tSp)) from (Below.refl _ _).alloc (Nat.le_refl _) _)
  have HV := Lib.hid (hb.below HVB.out hB)
  have HW := Lib.hid (hv.below HVB.out hB)
  have hB0 : B ≤ (w.alloc (.cells #[.int .i64 c, .slice A rows.length cp] tSp)).heap.size := Nat.le_trans hB HVB.out.size
  have HX0 := Lib.hid (cellsAt_new w #[.int .i64 c, .slice A rows.length cp] tSp)
  clear hb hv hB
  cases hs : vecOk p c rows v with
  | false =>
    have HS := Lib.hid hs
    have HOK := Lib.hid (hvV_no hs)
    clear hs
    go_enter Tryd.func24, Tryd.ntmps24
    go_wp2_with fail
    refine (spVector_any _ B _ _ p c rows v HV.out HW.out hB0).mono ?_
    rintro e w1 ⟨rfl, b1⟩
    rw [HS.out]
    have HB1 := Lib.hid (HVB.out.trans (b1.mono HVB.out.size))
    clear b1
    go_wp2
    go_ret2
    rw [HOK.out]
    exact ⟨rfl, HB1.out⟩
  | true =>
    obtain ⟨hsp, hrv⟩ := vecOk_parts hs
    obtain ⟨hf, n, rfl, hn24, hln, hred, -⟩ := isSp_parts hsp
    have HS := Lib.hid hs
    have HOK := Lib.hid (hvV_yes hs)
    have HF := Lib.hid hf
    have HRD := Lib.hid hred
    have HVC := Lib.hid (rowB_vec hrv)
    clear hs hsp hrv hf hred
    go_enter Tryd.func24, Tryd.ntmps24
    go_wp2_with fail
    refine (spVector_any _ B _ _ p n rows v HV.out HW.out hB0).mono ?_
    rintro e w1 ⟨rfl, b1⟩
    rw [HS.out]
    have HB1 := Lib.hid (HVB.out.trans (b1.mono HVB.out.size))
    have HX1 := Lib.hid (HX0.out.below b1 (by rw [nblk_alloc]; omega))
    have HV1 := Lib.hid (HV.out.below b1 hB0)
    have HW1 := Lib.hid (HW.out.below b1 hB0)
    have hs1 : B ≤ w1.heap.size := Nat.le_trans hB0 b1.size
    clear b1
    obtain ⟨hx0, hx1, hxf0, hxf1, hxs⟩ := HX1.out.two
    go_wp2_with fail
    refine (spHas_any w1 B _ _ p n rows v HV1.out.1 HW1.out.1 hs1 HF.out HRD.out HVC.out (by omega)).mono ?_
    rintro e w2 ⟨rfl, b2⟩
    have HB2 := Lib.hid (HB1.out.trans (b2.mono HB1.out.size))
    clear b2
    go_wp2
    go_ret2
    rw [HOK.out]
    exact ⟨rfl, HB2.out⟩
/-- CoordinatesOf. -/
def coR (p c : Int) (rows : List (List Int)) (v : List Int) : List Int := if hvV p c rows v then coords rows v else []
theorem coR_no {p c : Int} {rows : List (List Int)} {v : List Int} (h : hvV p c rows v = false) : coR p c rows v = [] := by simp [coR, h]
theorem coR_yes {p c : Int} {rows : List (List Int)} {v : List Int} (h : hvV p c rows v = true) : coR p c rows v = coords rows v := by simp [coR, h]
set_option maxHeartbeats 1600000 in
theorem spec_CoordinatesOf (w : World) (B : Nat) (vb vv : Value) (p c : Int) (rows : List (List Int)) (v : List Int) (hb : LfG w B vb rows) (hv : LfR w B vv v) (hB : B ≤ w.heap.size) (_hsb : szG rows ≤ 1048576) (_hsv : szR v ≤ 1048576) :
    Calls Tryd.prog 28 #[.int .i64 p, .agg #[.int .i64 c, vb], vv] w (SRetRB w (coR p c rows v) (hvV p c rows v)) := by
  obtain ⟨A, cp, rfl⟩ := hb.len
  obtain ⟨Av, cv, rfl⟩ := hv.len
  have HVB := Lib.hid (show Below w.heap.size w (w.alloc (.cells #[.int .i64 c, .slice A rows.length cp] tSp)) from (Below.refl _ _).alloc (Nat.le_refl _) _)
  have HV := Lib.hid (hb.below HVB.out hB)
  have HW := Lib.hid (hv.below HVB.out hB)
  have hB0 : B ≤ (w.alloc (.cells #[.int .i64 c, .slice A rows.length cp] tSp)).heap.size := Nat.le_trans hB HVB.out.size
  have HX0 := Lib.hid (cellsAt_new w #[.int .i64 c, .slice A rows.length cp] tSp)
  clear hb hv hB
  cases hs : vecOk p c rows v with
  | false =>
    have HS := Lib.hid hs
    have HOK := Lib.hid (hvV_no hs)
    clear hs
    go_enter Tryd.func28, Tryd.ntmps28
    go_wp2_with fail
    refine (spVector_any _ B _ _ p c rows v HV.out HW.out hB0).mono ?_
    rintro e w1 ⟨rfl, b1⟩
    rw [HS.out]
    have HB1 := Lib.hid (HVB.out.trans (b1.mono HVB.out.size))
    clear b1
    go_wp2
    go_ret2
    rw [coR_no HOK.out, HOK.out]
    exact ⟨_, rfl, HB1.out, OwR.nil none 0, by simp [szR]⟩
  | true =>
    obtain ⟨hsp, hrv⟩ := vecOk_parts hs
    obtain ⟨hf, n, rfl, hn24, hln, hred, -⟩ := isSp_parts hsp
    have HS := Lib.hid hs
    have HOK := Lib.hid (hvV_yes hs)
    have HF := Lib.hid hf
    have HRD := Lib.hid hred
    have HVC := Lib.hid (rowB_vec hrv)
    clear hs hsp hrv hf hred
    cases hh : hasV p n rows v with
    | false =>
      have HH := Lib.hid hh
      rw [hh] at HOK
      clear hh
      go_enter Tryd.func28, Tryd.ntmps28
      go_wp2_with fail
      refine (spVector_any _ B _ _ p n rows v HV.out HW.out hB0).mono ?_
      rintro e w1 ⟨rfl, b1⟩
      rw [HS.out]
      have HB1 := Lib.hid (HVB.out.trans (b1.mono HVB.out.size))
      have HX1 := Lib.hid (HX0.out.below b1 (by rw [nblk_alloc]; omega))
      have HV1 := Lib.hid (HV.out.below b1 hB0)
      have HW1 := Lib.hid (HW.out.below b1 hB0)
      have hs1 : B ≤ w1.heap.size := Nat.le_trans hB0 b1.size
      clear b1
      obtain ⟨hx0, hx1, hxf0, hxf1, hxs⟩ := HX1.out.two
      go_wp2_with fail
      refine (spHas_any w1 B _ _ p n rows v HV1.out.1 HW1.out.1 hs1 HF.out HRD.out HVC.out (by omega)).mono ?_
      rintro e w2 ⟨rfl, b2⟩
      rw [HH.out]
      have HB2 := Lib.hid (HB1.out.trans (b2.mono HB1.out.size))
      clear b2
      go_wp2
      go_ret2
      rw [coR_no HOK.out, HOK.out]
      exact ⟨_, rfl, HB2.out, OwR.nil none 0, by simp [szR]⟩
    | true =>
      have HH := Lib.hid hh
      rw [hh] at HOK
      have HCL := Lib.hid (coords_len rows v)
      clear hh
      go_enter Tryd.func28, Tryd.ntmps28
      go_wp2_with fail
      refine (spVector_any _ B _ _ p n rows v HV.out HW.out hB0).mono ?_
      rintro e w1 ⟨rfl, b1⟩
      rw [HS.out]
      have HB1 := Lib.hid (HVB.out.trans (b1.mono HVB.out.size))
      have HX1 := Lib.hid (HX0.out.below b1 (by rw [nblk_alloc]; omega))
      have HV1 := Lib.hid (HV.out.below b1 hB0)
      have HW1 := Lib.hid (HW.out.below b1 hB0)
      have hs1 : B ≤ w1.heap.size := Nat.le_trans hB0 b1.size
      clear b1
      obtain ⟨hx0, hx1, hxf0, hxf1, hxs⟩ := HX1.out.two
      go_wp2_with fail
      refine (spHas_any w1 B _ _ p n rows v HV1.out.1 HW1.out.1 hs1 HF.out HRD.out HVC.out (by omega)).mono ?_
      rintro e w2 ⟨rfl, b2⟩
      rw [HH.out]
      have HB2 := Lib.hid (HB1.out.trans (b2.mono HB1.out.size))
      have HX2 := Lib.hid (HX1.out.below b2 hxs)
      have HV2 := Lib.hid (HV1.out.below b2 hs1)
      have HW2 := Lib.hid (HW1.out.below b2 hs1)
      have hs2 : B ≤ w2.heap.size := Nat.le_trans hs1 b2.size
      clear b2 hx0 hx1 hxf0 hxf1 hxs
      obtain ⟨hx0, hx1, hxf0, hxf1, hxs⟩ := HX2.out.two
      go_wp2_with fail
      refine (spCoords_any w2 B _ _ rows v HV2.out.1 HW2.out.1 hs2 (by omega) (fun r hr => by rw [(HRD.out.mat.row hr).1]; omega) (fun r hr => by rw [HVC.out.1]; exact HRD.out.lt r hr)).mono ?_
      rintro e w3 ⟨v3, rfl, b3, o3⟩
      have HB3 := Lib.hid (HB2.out.trans (b3.mono HB2.out.size))
      have HO3 := Lib.hid (OwR.mono (T := fun q => w2.heap.size ≤ q) o3 (fun q hq _ => hq))
      have hs3 := HB2.out.size
      obtain ⟨A3, c3, rfl⟩ := OwR.len o3
      clear b3 o3
      go_wp2
      go_ret2
      rw [coR_yes HOK.out, HOK.out]
      exact ⟨_, rfl, HB3.out, HO3.out.mono (fun q hq _ => by omega), by unfold szR; rw [HCL.out]; omega⟩
end Go.Proofs.YtahlicbjbbpihaaDoor
