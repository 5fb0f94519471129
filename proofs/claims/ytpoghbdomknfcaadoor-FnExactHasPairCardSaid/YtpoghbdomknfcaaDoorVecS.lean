/- HasVector and CoordinatesOf: the model's side. -/
import Derived.Test.YtpoghbdomknfcaaDoorVecF
import Derived.Test.YtpoghbdomknfcaaDoorRetBB
import Derived.Test.YtpoghbdomknfcaaDoorRetRB
namespace Go.Proofs.YtpoghbdomknfcaaDoor
set_option maxRecDepth 100000
open Go Go.RowKit Go.Deep

theorem rowB_vec {p : Int} {n : Nat} {v : List Int} (h : rowB p n v = true) : Vec p n v := by
  unfold rowB at h
  simp only [Bool.and_eq_true, decide_eq_true_eq, List.all_eq_true, el_iff] at h
  exact ⟨by omega, h.2⟩
/-- Whether a space and a vector of it are valid. -/
def vecOk (p c : Int) (rows : List (List Int)) (v : List Int) : Bool := isSp p c rows && rowB p c v
theorem vecOk_sp {p c : Int} {rows : List (List Int)} {v : List Int} (h : isSp p c rows = false) : vecOk p c rows v = false := by simp [vecOk, h]
theorem vecOk_row {p c : Int} {rows : List (List Int)} {v : List Int} (h : rowB p c v = false) : vecOk p c rows v = false := by simp [vecOk, h]
theorem vecOk_yes {p c : Int} {rows : List (List Int)} {v : List Int} (h : isSp p c rows = true) : vecOk p c rows v = rowB p c v := by simp [vecOk, h]
theorem vecOk_parts {p c : Int} {rows : List (List Int)} {v : List Int} (h : vecOk p c rows v = true) : isSp p c rows = true ∧ rowB p c v = true := by
  unfold vecOk at h
  rwa [Bool.and_eq_true] at h
set_option maxHeartbeats 800000 in
theorem spHas_any (w : World) (B : Nat) (vb vv : Value) (p : Int) (c : Nat) (R : List (List Int)) (v : List Int) (hb : RdG w B vb R) (hv : RdS w (fun b => b < B) vv v) (hB : B ≤ w.heap.size) (hf : fld p = true) (hR : IsRed p R.length c R) (hV : Vec p c v) (hc : c ≤ 1000000) :
    Calls Tryd.prog 119 #[.int .i64 p, vb, vv] w (SaysB w (hasV p c R v)) := by
  obtain ⟨A, cp, rfl⟩ := hb.len
  obtain ⟨Av, cv, rfl, kc_cv, hv'⟩ := hv
  have HV := Lib.hid (show RdS w (fun b => b < B) (.slice Av v.length cv) v from ⟨Av, cv, rfl, kc_cv, hv'⟩)
  have HG := Lib.hid hb
  have HB := Lib.hid hB
  have HR := Lib.hid hR
  have HVV := Lib.hid hV
  have hRc := hR.le
  have hvl : v.length = c := hV.1
  have HVL := Lib.hid hvl
  have HCE := Lib.hid (coords_el hR hV)
  have HCL := Lib.hid (coords_len R v)
  have HHV := Lib.hid (show hasV p c R v = decide (vmul p c (coords R v) R = v) from rfl)
  have HVML := Lib.hid (vmul_len p c (coords R v) R)
  obtain ⟨h1, h2⟩ := fld_bd hf
  clear hb hv' hB hR hV hf
  rw [hvl] at HV ⊢
  clear hvl
  go_enter Tryd.func119, Tryd.ntmps119
  go_wp2_with fail
  refine (spCoords_any w B _ _ R v HG.out HV.out HB.out (by omega) (fun r hr => by rw [(HR.out.mat.row hr).1]; exact hc) (fun r hr => by rw [HVL.out]; exact HR.out.lt r hr)).mono ?_
  rintro e w1 ⟨v1, rfl, b1, o1⟩
  have HO1 := Lib.hid (OwR.readB o1)
  obtain ⟨A1, c1, rfl⟩ := OwR.len o1
  have HB1 := Lib.hid b1
  have hs1 : B ≤ w1.heap.size := Nat.le_trans HB.out b1.size
  clear b1 o1
  generalize coords R v = cs at HO1 HCE HCL HHV HVML
  go_wp2_with fail
  refine (spSum_any w1 w1.heap.size _ _ p c cs R HO1.out ((HG.out.below HB1.out HB.out).mono hs1) (Nat.le_refl _) h1 h2 hc (by omega) HCL.out HCE.out (fun r hr => HR.out.mat.vec hr)).mono ?_
  rintro e w2 ⟨v2, rfl, b2, o2⟩
  have HO2 := Lib.hid (OwR.readB o2)
  have hol := OwR.len o2
  rw [HVML.out] at hol
  obtain ⟨A2, c2, rfl⟩ := hol
  have HB2 := Lib.hid (HB1.out.trans (b2.mono HB1.out.size))
  clear b2 o2
  generalize vmul p c cs R = u at HO2 HHV HVML
  go_wp2_with fail
  refine (l1Same_any w2 w2.heap.size _ _ u v HO2.out ((HV.out.below HB2.out HB.out).mono (fun q hq => by have := HB.out; have := HB2.out.size; omega)) (by rw [HVML.out]; omega)).mono ?_
  rintro e w3 ⟨rfl, n3, rfl⟩
  go_wp2
  go_ret
  rw [HHV.out]
  exact ⟨rfl, below_drewN HB2.out⟩
def hvV (p c : Int) (rows : List (List Int)) (v : List Int) : Bool := vecOk p c rows v && hasV p c.toNat rows v
theorem hvV_no {p c : Int} {rows : List (List Int)} {v : List Int} (h : vecOk p c rows v = false) : hvV p c rows v = false := by simp [hvV, h]
theorem hvV_yes {p : Int} {c : Nat} {rows : List (List Int)} {v : List Int} (h : vecOk p c rows v = true) : hvV p c rows v = hasV p c rows v := by simp [hvV, h]
/-- CoordinatesOf. -/
def coR (p c : Int) (rows : List (List Int)) (v : List Int) : List Int := if hvV p c rows v then coords rows v else []
theorem coR_no {p c : Int} {rows : List (List Int)} {v : List Int} (h : hvV p c rows v = false) : coR p c rows v = [] := by simp [coR, h]
theorem coR_yes {p c : Int} {rows : List (List Int)} {v : List Int} (h : hvV p c rows v = true) : coR p c rows v = coords rows v := by simp [coR, h]
end Go.Proofs.YtpoghbdomknfcaaDoor
