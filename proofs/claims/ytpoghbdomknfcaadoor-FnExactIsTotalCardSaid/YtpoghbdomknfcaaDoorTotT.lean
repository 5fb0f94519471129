/- IsTotal, IsSingleValued: both sides. -/
import Derived.Test.YtpoghbdomknfcaaDoorTotH
import Derived.Test.YtpoghbdomknfcaaDoorIsRl
import Derived.Test.YtpoghbdomknfcaaDoorLawGB
import Derived.Test.YtpoghbdomknfcaaDoorRetBB
namespace Go.Proofs.YtpoghbdomknfcaaDoor
set_option maxRecDepth 100000
open Go Go.RowKit Go.Deep

def totV (p l r : Int) (R : List (List Int)) : Bool := isRl p l r R && decide ((rref p (firsts l.toNat R) l.toNat).length = l.toNat)
def sgV (p l r : Int) (R : List (List Int)) : Bool := isRl p l r R && singB l.toNat R
theorem tot_no {p l r : Int} {R : List (List Int)} (h : isRl p l r R = false) : totV p l r R = false := by simp [totV, h]
theorem sg_no {p l r : Int} {R : List (List Int)} (h : isRl p l r R = false) : sgV p l r R = false := by simp [sgV, h]
theorem tot_yes {p : Int} {a b : Nat} {R : List (List Int)} (h : isRl p a b R = true) : totV p a b R = decide ((rref p (firsts a R) a).length = a) := by simp [totV, h]
theorem sg_yes {p : Int} {a b : Nat} {R : List (List Int)} (h : isRl p a b R = true) : sgV p a b R = singB a R := by simp [sgV, h]
theorem sg_yes' {p : Int} {a b : Nat} {R : List (List Int)} (h : isRl p a b R = true) : sgV p a b R = decide ((rref p (firsts a R) a).length = R.length) := by
  rw [sg_yes h]
  obtain ⟨hf, a', b', h1, h2, -, -, hred⟩ := isRl_parts h
  obtain rfl : a = a' := by omega
  obtain rfl : b = b' := by omega
  exact (single_eq hf hred).symm
set_option maxHeartbeats 3200000 in
theorem impl_IsTotal (w : World) (B : Nat) (v : Value) (p l r : Int) (R : List (List Int)) (hbl : Bi l) (_hbr : Bi r) (ht : Tab w) (hv : LfG w B v R) (hB : B ≤ w.heap.size) (_hs : szG R ≤ 1048576) :
    Calls Tryd.prog 40 #[.int .i64 p, .agg #[.int .i64 l, .int .i64 r, v]] w (IRetBB w (totV p l r R) (isRl p l r R)) := by
  obtain ⟨A, cp, rfl⟩ := hv.len
  cases hs : isRl p l r R with
  | false =>
    have HOK := Lib.hid hs
    clear hs
    have HVB := Lib.hid (show Below w.heap.size w (w.alloc (.cells #[.int .i64 l, .int .i64 r, .slice A R.length cp] tRl)) by repeat' (first | exact Below.refl _ _ | apply Below.alloc | (simp; done) | (simp; omega)))
    have HV := Lib.hid (hv.below HVB.out hB)
    have hB0 : B ≤ (w.alloc (.cells #[.int .i64 l, .int .i64 r, .slice A R.length cp] tRl)).heap.size := Nat.le_trans hB HVB.out.size
    have HX0 := Lib.hid ((cellsAt_new w #[.int .i64 l, .int .i64 r, .slice A R.length cp] tRl))
    have hsz0 : (w.alloc (.cells #[.int .i64 l, .int .i64 r, .slice A R.length cp] tRl)).heap.size = w.heap.size + 1 := by simp
    have HT := Lib.hid (ht.below HVB.out)
    have HBL := Lib.hid hbl.2
    clear hv hB hbl ht
    go_enter Tryd.func40, Tryd.ntmps40
    go_upto_region 1 with fail
    generalize (w.alloc (.cells #[.int .i64 l, .int .i64 r, .slice A R.length cp] tRl)) = W0 at HVB HV hB0 HX0 HT hsz0 ⊢
    have hz0 : w.heap.size + 1 ≤ W0.heap.size := by omega
    clear hsz0
    obtain ⟨hx0, hx1, hx2, hxf0, hxf1, hxf2, hxs⟩ := HX0.out.three
    go_wp2_with fail
    refine (implIsRelation_any W0 B _ p l r R HT.out HV.out hB0 HBL.out).mono ?_
    rintro e w1 ⟨rfl, b1⟩
    rw [HOK.out]
    have HX1 := Lib.hid (HX0.out.below b1 hxs)
    have HV1 := Lib.hid (HV.out.below b1 hB0)
    have HB1 := Lib.hid (HVB.out.trans (b1.mono HVB.out.size))
    have hs1 : W0.heap.size ≤ w1.heap.size := b1.size
    have hB1 : B ≤ w1.heap.size := Nat.le_trans hB0 hs1
    clear b1 hx0 hx1 hx2 hxf0 hxf1 hxf2 hxs
    go_wp2
    go_ret2
    rw [tot_no HOK.out]
    exact ⟨rfl, HB1.out⟩
  | true =>
    obtain ⟨hf, a, b, rfl, rfl, hab, hln, hred⟩ := isRl_parts hs
    have HOK := Lib.hid hs
    have HYS := Lib.hid (tot_yes hs)
    have HF := Lib.hid hf
    have HRM := Lib.hid hred.mat
    clear hs hf hred
    have HVB := Lib.hid (show Below w.heap.size w (w.alloc (.cells #[.int .i64 a, .int .i64 b, .slice A R.length cp] tRl)) by repeat' (first | exact Below.refl _ _ | apply Below.alloc | (simp; done) | (simp; omega)))
    have HV := Lib.hid (hv.below HVB.out hB)
    have hB0 : B ≤ (w.alloc (.cells #[.int .i64 a, .int .i64 b, .slice A R.length cp] tRl)).heap.size := Nat.le_trans hB HVB.out.size
    have HX0 := Lib.hid ((cellsAt_new w #[.int .i64 a, .int .i64 b, .slice A R.length cp] tRl))
    have hsz0 : (w.alloc (.cells #[.int .i64 a, .int .i64 b, .slice A R.length cp] tRl)).heap.size = w.heap.size + 1 := by simp
    have HT := Lib.hid (ht.below HVB.out)
    have HBL := Lib.hid hbl.2
    clear hv hB hbl ht
    go_enter Tryd.func40, Tryd.ntmps40
    go_upto_region 1 with fail
    generalize (w.alloc (.cells #[.int .i64 a, .int .i64 b, .slice A R.length cp] tRl)) = W0 at HVB HV hB0 HX0 HT hsz0 ⊢
    have hz0 : w.heap.size + 1 ≤ W0.heap.size := by omega
    clear hsz0
    obtain ⟨hx0, hx1, hx2, hxf0, hxf1, hxf2, hxs⟩ := HX0.out.three
    go_wp2_with fail
    refine (implIsRelation_any W0 B _ p a b R HT.out HV.out hB0 HBL.out).mono ?_
    rintro e w1 ⟨rfl, b1⟩
    rw [HOK.out]
    have HX1 := Lib.hid (HX0.out.below b1 hxs)
    have HV1 := Lib.hid (HV.out.below b1 hB0)
    have HB1 := Lib.hid (HVB.out.trans (b1.mono HVB.out.size))
    have hs1 : W0.heap.size ≤ w1.heap.size := b1.size
    have hB1 : B ≤ w1.heap.size := Nat.le_trans hB0 hs1
    clear b1 hx0 hx1 hx2 hxf0 hxf1 hxf2 hxs
    obtain ⟨hx0, hx1, hx2, hxf0, hxf1, hxf2, hxs⟩ := HX1.out.three
    go_wp2_with fail
    refine (isTotal_any w1 B _ p a b R HV1.out.1 hB1 HF.out HRM.out (by omega) (by omega)).mono ?_
    rintro e w4 ⟨rfl, b4⟩
    have HBE := Lib.hid (HB1.out.trans (b4.mono HB1.out.size))
    clear b4
    rw [← HYS.out]
    go_wp2
    go_ret2
    exact ⟨rfl, HBE.out⟩
set_option maxHeartbeats 3200000 in
theorem spec_IsTotal (w : World) (B : Nat) (v : Value) (p l r : Int) (R : List (List Int)) (hbl : Bi l) (_hbr : Bi r) (hv : LfG w B v R) (hB : B ≤ w.heap.size) (_hs : szG R ≤ 1048576) :
    Calls Tryd.prog 39 #[.int .i64 p, .agg #[.int .i64 l, .int .i64 r, v]] w (SRetBB w (totV p l r R) (isRl p l r R)) := by
  obtain ⟨A, cp, rfl⟩ := hv.len
  cases hs : isRl p l r R with
  | false =>
    have HOK := Lib.hid hs
    clear hs
    have HVB := Lib.hid (show Below w.heap.size w (w.alloc (.cells #[.int .i64 l, .int .i64 r, .slice A R.length cp] tRl)) by repeat' (first | exact Below.refl _ _ | apply Below.alloc | (simp; done) | (simp; omega)))
    have HV := Lib.hid (hv.below HVB.out hB)
    have hB0 : B ≤ (w.alloc (.cells #[.int .i64 l, .int .i64 r, .slice A R.length cp] tRl)).heap.size := Nat.le_trans hB HVB.out.size
    have HX0 := Lib.hid ((cellsAt_new w #[.int .i64 l, .int .i64 r, .slice A R.length cp] tRl))
    have hsz0 : (w.alloc (.cells #[.int .i64 l, .int .i64 r, .slice A R.length cp] tRl)).heap.size = w.heap.size + 1 := by simp
    clear hv hB hbl
    go_enter Tryd.func39, Tryd.ntmps39
    go_upto_region 1 with fail
    generalize (w.alloc (.cells #[.int .i64 l, .int .i64 r, .slice A R.length cp] tRl)) = W0 at HVB HV hB0 HX0 hsz0 ⊢
    have hz0 : w.heap.size + 1 ≤ W0.heap.size := by omega
    clear hsz0
    obtain ⟨hx0, hx1, hx2, hxf0, hxf1, hxf2, hxs⟩ := HX0.out.three
    go_wp2_with fail
    refine (rlGood_any W0 B _ p l r R HV.out hB0).mono ?_
    rintro e w1 ⟨rfl, b1⟩
    rw [HOK.out]
    have HX1 := Lib.hid (HX0.out.below b1 hxs)
    have HV1 := Lib.hid (HV.out.below b1 hB0)
    have HB1 := Lib.hid (HVB.out.trans (b1.mono HVB.out.size))
    have hs1 : W0.heap.size ≤ w1.heap.size := b1.size
    have hB1 : B ≤ w1.heap.size := Nat.le_trans hB0 hs1
    clear b1 hx0 hx1 hx2 hxf0 hxf1 hxf2 hxs
    go_wp2
    go_ret2
    rw [tot_no HOK.out]
    exact ⟨rfl, HB1.out⟩
  | true =>
    obtain ⟨hf, a, b, rfl, rfl, hab, hln, hred⟩ := isRl_parts hs
    have HOK := Lib.hid hs
    have HYS := Lib.hid (tot_yes hs)
    have HF := Lib.hid hf
    have HRM := Lib.hid hred.mat
    clear hs hf hred
    have HVB := Lib.hid (show Below w.heap.size w (w.alloc (.cells #[.int .i64 a, .int .i64 b, .slice A R.length cp] tRl)) by repeat' (first | exact Below.refl _ _ | apply Below.alloc | (simp; done) | (simp; omega)))
    have HV := Lib.hid (hv.below HVB.out hB)
    have hB0 : B ≤ (w.alloc (.cells #[.int .i64 a, .int .i64 b, .slice A R.length cp] tRl)).heap.size := Nat.le_trans hB HVB.out.size
    have HX0 := Lib.hid ((cellsAt_new w #[.int .i64 a, .int .i64 b, .slice A R.length cp] tRl))
    have hsz0 : (w.alloc (.cells #[.int .i64 a, .int .i64 b, .slice A R.length cp] tRl)).heap.size = w.heap.size + 1 := by simp
    clear hv hB hbl
    go_enter Tryd.func39, Tryd.ntmps39
    go_upto_region 1 with fail
    generalize (w.alloc (.cells #[.int .i64 a, .int .i64 b, .slice A R.length cp] tRl)) = W0 at HVB HV hB0 HX0 hsz0 ⊢
    have hz0 : w.heap.size + 1 ≤ W0.heap.size := by omega
    clear hsz0
    obtain ⟨hx0, hx1, hx2, hxf0, hxf1, hxf2, hxs⟩ := HX0.out.three
    go_wp2_with fail
    refine (rlGood_any W0 B _ p a b R HV.out hB0).mono ?_
    rintro e w1 ⟨rfl, b1⟩
    rw [HOK.out]
    have HX1 := Lib.hid (HX0.out.below b1 hxs)
    have HV1 := Lib.hid (HV.out.below b1 hB0)
    have HB1 := Lib.hid (HVB.out.trans (b1.mono HVB.out.size))
    have hs1 : W0.heap.size ≤ w1.heap.size := b1.size
    have hB1 : B ≤ w1.heap.size := Nat.le_trans hB0 hs1
    clear b1 hx0 hx1 hx2 hxf0 hxf1 hxf2 hxs
    obtain ⟨hx0, hx1, hx2, hxf0, hxf1, hxf2, hxs⟩ := HX1.out.three
    go_wp2_with fail
    refine (rlTotal_any w1 B _ p a b R HV1.out.1 hB1 HF.out HRM.out (by omega) (by omega)).mono ?_
    rintro e w4 ⟨rfl, b4⟩
    have HBE := Lib.hid (HB1.out.trans (b4.mono HB1.out.size))
    clear b4
    rw [← HYS.out]
    go_wp2
    go_ret2
    exact ⟨rfl, HBE.out⟩
set_option maxHeartbeats 3200000 in
theorem impl_IsSingleValued (w : World) (B : Nat) (v : Value) (p l r : Int) (R : List (List Int)) (hbl : Bi l) (_hbr : Bi r) (ht : Tab w) (hv : LfG w B v R) (hB : B ≤ w.heap.size) (_hs : szG R ≤ 1048576) :
    Calls Tryd.prog 42 #[.int .i64 p, .agg #[.int .i64 l, .int .i64 r, v]] w (IRetBB w (sgV p l r R) (isRl p l r R)) := by
  obtain ⟨A, cp, rfl⟩ := hv.len
  cases hs : isRl p l r R with
  | false =>
    have HOK := Lib.hid hs
    clear hs
    have HVB := Lib.hid (show Below w.heap.size w (w.alloc (.cells #[.int .i64 l, .int .i64 r, .slice A R.length cp] tRl)) by repeat' (first | exact Below.refl _ _ | apply Below.alloc | (simp; done) | (simp; omega)))
    have HV := Lib.hid (hv.below HVB.out hB)
    have hB0 : B ≤ (w.alloc (.cells #[.int .i64 l, .int .i64 r, .slice A R.length cp] tRl)).heap.size := Nat.le_trans hB HVB.out.size
    have HX0 := Lib.hid ((cellsAt_new w #[.int .i64 l, .int .i64 r, .slice A R.length cp] tRl))
    have hsz0 : (w.alloc (.cells #[.int .i64 l, .int .i64 r, .slice A R.length cp] tRl)).heap.size = w.heap.size + 1 := by simp
    have HT := Lib.hid (ht.below HVB.out)
    have HBL := Lib.hid hbl.2
    clear hv hB hbl ht
    go_enter Tryd.func42, Tryd.ntmps42
    go_upto_region 1 with fail
    generalize (w.alloc (.cells #[.int .i64 l, .int .i64 r, .slice A R.length cp] tRl)) = W0 at HVB HV hB0 HX0 HT hsz0 ⊢
    have hz0 : w.heap.size + 1 ≤ W0.heap.size := by omega
    clear hsz0
    obtain ⟨hx0, hx1, hx2, hxf0, hxf1, hxf2, hxs⟩ := HX0.out.three
    go_wp2_with fail
    refine (implIsRelation_any W0 B _ p l r R HT.out HV.out hB0 HBL.out).mono ?_
    rintro e w1 ⟨rfl, b1⟩
    rw [HOK.out]
    have HX1 := Lib.hid (HX0.out.below b1 hxs)
    have HV1 := Lib.hid (HV.out.below b1 hB0)
    have HB1 := Lib.hid (HVB.out.trans (b1.mono HVB.out.size))
    have hs1 : W0.heap.size ≤ w1.heap.size := b1.size
    have hB1 : B ≤ w1.heap.size := Nat.le_trans hB0 hs1
    clear b1 hx0 hx1 hx2 hxf0 hxf1 hxf2 hxs
    go_wp2
    go_ret2
    rw [sg_no HOK.out]
    exact ⟨rfl, HB1.out⟩
  | true =>
    obtain ⟨hf, a, b, rfl, rfl, hab, hln, hred⟩ := isRl_parts hs
    have HOK := Lib.hid hs
    have HYS := Lib.hid (sg_yes' hs)
    have HF := Lib.hid hf
    have HRM := Lib.hid hred.mat
    clear hs hf hred
    have HVB := Lib.hid (show Below w.heap.size w (w.alloc (.cells #[.int .i64 a, .int .i64 b, .slice A R.length cp] tRl)) by repeat' (first | exact Below.refl _ _ | apply Below.alloc | (simp; done) | (simp; omega)))
    have HV := Lib.hid (hv.below HVB.out hB)
    have hB0 : B ≤ (w.alloc (.cells #[.int .i64 a, .int .i64 b, .slice A R.length cp] tRl)).heap.size := Nat.le_trans hB HVB.out.size
    have HX0 := Lib.hid ((cellsAt_new w #[.int .i64 a, .int .i64 b, .slice A R.length cp] tRl))
    have hsz0 : (w.alloc (.cells #[.int .i64 a, .int .i64 b, .slice A R.length cp] tRl)).heap.size = w.heap.size + 1 := by simp
    have HT := Lib.hid (ht.below HVB.out)
    have HBL := Lib.hid hbl.2
    clear hv hB hbl ht
    go_enter Tryd.func42, Tryd.ntmps42
    go_upto_region 1 with fail
    generalize (w.alloc (.cells #[.int .i64 a, .int .i64 b, .slice A R.length cp] tRl)) = W0 at HVB HV hB0 HX0 HT hsz0 ⊢
    have hz0 : w.heap.size + 1 ≤ W0.heap.size := by omega
    clear hsz0
    obtain ⟨hx0, hx1, hx2, hxf0, hxf1, hxf2, hxs⟩ := HX0.out.three
    go_wp2_with fail
    refine (implIsRelation_any W0 B _ p a b R HT.out HV.out hB0 HBL.out).mono ?_
    rintro e w1 ⟨rfl, b1⟩
    rw [HOK.out]
    have HX1 := Lib.hid (HX0.out.below b1 hxs)
    have HV1 := Lib.hid (HV.out.below b1 hB0)
    have HB1 := Lib.hid (HVB.out.trans (b1.mono HVB.out.size))
    have hs1 : W0.heap.size ≤ w1.heap.size := b1.size
    have hB1 : B ≤ w1.heap.size := Nat.le_trans hB0 hs1
    clear b1 hx0 hx1 hx2 hxf0 hxf1 hxf2 hxs
    obtain ⟨hx0, hx1, hx2, hxf0, hxf1, hxf2, hxs⟩ := HX1.out.three
    go_wp2_with fail
    refine (isSingle_any w1 B _ p a b R HV1.out.1 hB1 HF.out HRM.out (by omega) (by omega)).mono ?_
    rintro e w4 ⟨rfl, b4⟩
    have HBE := Lib.hid (HB1.out.trans (b4.mono HB1.out.size))
    clear b4
    rw [← HYS.out]
    go_wp2
    go_ret2
    exact ⟨rfl, HBE.out⟩
set_option maxHeartbeats 3200000 in
theorem spec_IsSingleValued (w : World) (B : Nat) (v : Value) (p l r : Int) (R : List (List Int)) (hbl : Bi l) (_hbr : Bi r) (hv : LfG w B v R) (hB : B ≤ w.heap.size) (_hs : szG R ≤ 1048576) :
    Calls Tryd.prog 41 #[.int .i64 p, .agg #[.int .i64 l, .int .i64 r, v]] w (SRetBB w (sgV p l r R) (isRl p l r R)) := by
  obtain ⟨A, cp, rfl⟩ := hv.len
  cases hs : isRl p l r R with
  | false =>
    have HOK := Lib.hid hs
    clear hs
    have HVB := Lib.hid (show Below w.heap.size w (w.alloc (.cells #[.int .i64 l, .int .i64 r, .slice A R.length cp] tRl)) by repeat' (first | exact Below.refl _ _ | apply Below.alloc | (simp; done) | (simp; omega)))
    have HV := Lib.hid (hv.below HVB.out hB)
    have hB0 : B ≤ (w.alloc (.cells #[.int .i64 l, .int .i64 r, .slice A R.length cp] tRl)).heap.size := Nat.le_trans hB HVB.out.size
    have HX0 := Lib.hid ((cellsAt_new w #[.int .i64 l, .int .i64 r, .slice A R.length cp] tRl))
    have hsz0 : (w.alloc (.cells #[.int .i64 l, .int .i64 r, .slice A R.length cp] tRl)).heap.size = w.heap.size + 1 := by simp
    clear hv hB hbl
    go_enter Tryd.func41, Tryd.ntmps41
    go_upto_region 1 with fail
    generalize (w.alloc (.cells #[.int .i64 l, .int .i64 r, .slice A R.length cp] tRl)) = W0 at HVB HV hB0 HX0 hsz0 ⊢
    have hz0 : w.heap.size + 1 ≤ W0.heap.size := by omega
    clear hsz0
    obtain ⟨hx0, hx1, hx2, hxf0, hxf1, hxf2, hxs⟩ := HX0.out.three
    go_wp2_with fail
    refine (rlGood_any W0 B _ p l r R HV.out hB0).mono ?_
    rintro e w1 ⟨rfl, b1⟩
    rw [HOK.out]
    have HX1 := Lib.hid (HX0.out.below b1 hxs)
    have HV1 := Lib.hid (HV.out.below b1 hB0)
    have HB1 := Lib.hid (HVB.out.trans (b1.mono HVB.out.size))
    have hs1 : W0.heap.size ≤ w1.heap.size := b1.size
    have hB1 : B ≤ w1.heap.size := Nat.le_trans hB0 hs1
    clear b1 hx0 hx1 hx2 hxf0 hxf1 hxf2 hxs
    go_wp2
    go_ret2
    rw [sg_no HOK.out]
    exact ⟨rfl, HB1.out⟩
  | true =>
    obtain ⟨hf, a, b, rfl, rfl, hab, hln, hred⟩ := isRl_parts hs
    have HOK := Lib.hid hs
    have HYS := Lib.hid (sg_yes hs)
    have HF := Lib.hid hf
    have HRM := Lib.hid hred.mat
    clear hs hf hred
    have HVB := Lib.hid (show Below w.heap.size w (w.alloc (.cells #[.int .i64 a, .int .i64 b, .slice A R.length cp] tRl)) by repeat' (first | exact Below.refl _ _ | apply Below.alloc | (simp; done) | (simp; omega)))
    have HV := Lib.hid (hv.below HVB.out hB)
    have hB0 : B ≤ (w.alloc (.cells #[.int .i64 a, .int .i64 b, .slice A R.length cp] tRl)).heap.size := Nat.le_trans hB HVB.out.size
    have HX0 := Lib.hid ((cellsAt_new w #[.int .i64 a, .int .i64 b, .slice A R.length cp] tRl))
    have hsz0 : (w.alloc (.cells #[.int .i64 a, .int .i64 b, .slice A R.length cp] tRl)).heap.size = w.heap.size + 1 := by simp
    clear hv hB hbl
    go_enter Tryd.func41, Tryd.ntmps41
    go_upto_region 1 with fail
    generalize (w.alloc (.cells #[.int .i64 a, .int .i64 b, .slice A R.length cp] tRl)) = W0 at HVB HV hB0 HX0 hsz0 ⊢
    have hz0 : w.heap.size + 1 ≤ W0.heap.size := by omega
    clear hsz0
    obtain ⟨hx0, hx1, hx2, hxf0, hxf1, hxf2, hxs⟩ := HX0.out.three
    go_wp2_with fail
    refine (rlGood_any W0 B _ p a b R HV.out hB0).mono ?_
    rintro e w1 ⟨rfl, b1⟩
    rw [HOK.out]
    have HX1 := Lib.hid (HX0.out.below b1 hxs)
    have HV1 := Lib.hid (HV.out.below b1 hB0)
    have HB1 := Lib.hid (HVB.out.trans (b1.mono HVB.out.size))
    have hs1 : W0.heap.size ≤ w1.heap.size := b1.size
    have hB1 : B ≤ w1.heap.size := Nat.le_trans hB0 hs1
    clear b1 hx0 hx1 hx2 hxf0 hxf1 hxf2 hxs
    obtain ⟨hx0, hx1, hx2, hxf0, hxf1, hxf2, hxs⟩ := HX1.out.three
    go_wp2_with fail
    refine (rlSingle_any w1 B _ a b R HV1.out.1 hB1 (by omega) (fun j hj => by rw [(HRM.out.row hj).1]; omega)).mono ?_
    rintro e w4 ⟨rfl, b4⟩
    have HBE := Lib.hid (HB1.out.trans (b4.mono HB1.out.size))
    clear b4
    rw [← HYS.out]
    go_wp2
    go_ret2
    exact ⟨rfl, HBE.out⟩
end Go.Proofs.YtpoghbdomknfcaaDoor
