/- FunctionOf: both sides. -/
import Derived.Test.YtiiloioobmkicaaDoorTotT
import Derived.Test.YtiiloioobmkicaaDoorRetMatrixB
import Derived.Test.YtiiloioobmkicaaDoorPushG
import Derived.Test.YtiiloioobmkicaaDoorLawGB
namespace Go.Proofs.YtiiloioobmkicaaDoor
set_option maxRecDepth 100000
open Go Go.RowKit Go.Deep

def fnOk (p l r : Int) (R : List (List Int)) : Bool := isRl p l r R && decide ((rref p (firsts l.toNat R) l.toNat).length = l.toNat) && singB l.toNat R
def fnC (p l r : Int) (R : List (List Int)) : Int := if fnOk p l r R then r else 0
def fnR (p l r : Int) (R : List (List Int)) : List (List Int) := if fnOk p l r R then seconds l.toNat R else []
theorem fn_no {p l r : Int} {R : List (List Int)} (h : fnOk p l r R = false) : fnC p l r R = 0 ∧ fnR p l r R = [] := by simp [fnC, fnR, h]
theorem fn_yes {p : Int} {a b : Nat} {R : List (List Int)} (h : fnOk p a b R = true) : fnC p a b R = b ∧ fnR p a b R = seconds a R := by simp [fnC, fnR, h]
theorem fn_single {p : Int} {a b : Nat} {R : List (List Int)} (h : isRl p a b R = true) : decide ((rref p (firsts a R) a).length = R.length) = singB a R := (sg_yes' h).symm.trans (sg_yes h)
theorem sec_sz {p : Int} {n a b : Nat} {R : List (List Int)} (h : Mat p n (a + b) R) (hn : n ≤ 1000) (hab : a + b ≤ 24) : szG (seconds a R) ≤ 1099511627776 := by
  have h2 := tot_const (fun r hr => ((seconds_mat h).2 r hr).1)
  rw [seconds_len, h.1] at h2
  unfold szG
  rw [seconds_len, h.1, h2]
  have : n * b ≤ 1000 * 24 := Nat.mul_le_mul hn (by omega)
  omega
theorem sec_take {l k : Nat} {R : List (List Int)} (h : k < R.length) : seconds l (R.take (k + 1)) = seconds l (R.take k) ++ [(R.getD k []).drop l] := by
  rw [take_one h []]
  unfold seconds
  rw [List.map_append]
  rfl
set_option maxRecDepth 100000 in
set_option maxHeartbeats 12800000 in
theorem impl_FunctionOf (w : World) (B : Nat) (v : Value) (p l r : Int) (R : List (List Int)) (hbl : Bi l) (_hbr : Bi r) (ht : Tab w) (hv : LfG w B v R) (hB : B ≤ w.heap.size) (_hs : szG R ≤ 1048576) :
    Calls Tryd.prog 20 #[.int .i64 p, .agg #[.int .i64 l, .int .i64 r, v]] w (IRetMatrixB w (fnC p l r R) (fnR p l r R) (fnOk p l r R)) := by
  obtain ⟨A, cp, rfl⟩ := hv.len
  cases hs : isRl p l r R with
  | false =>
    have HOK := Lib.hid hs
    have HOX := Lib.hid (show fnOk p l r R = false by simp [fnOk, hs])
    clear hs
    have HVB := Lib.hid (show Below w.heap.size w ((w.alloc (.cells #[.int .i64 l, .int .i64 r, .slice A R.length cp] tRl)).alloc (.cells #[.int .i64 0, .slice none 0 0] tM)) by repeat' (first | exact Below.refl _ _ | apply Below.alloc | (simp; done) | (simp; omega)))
    have HV := Lib.hid (hv.below HVB.out hB)
    have hB0 : B ≤ ((w.alloc (.cells #[.int .i64 l, .int .i64 r, .slice A R.length cp] tRl)).alloc (.cells #[.int .i64 0, .slice none 0 0] tM)).heap.size := Nat.le_trans hB HVB.out.size
    have HX0 := Lib.hid ((cellsAt_new w #[.int .i64 l, .int .i64 r, .slice A R.length cp] tRl).alloc (.cells #[.int .i64 0, .slice none 0 0] tM))
    have HY0 := Lib.hid (cellsAt_new' (w.alloc (.cells #[.int .i64 l, .int .i64 r, .slice A R.length cp] tRl)) #[.int .i64 0, .slice none 0 0] tM _ (w.heap.size + 1) (by simp) rfl)
    have hsz0 : ((w.alloc (.cells #[.int .i64 l, .int .i64 r, .slice A R.length cp] tRl)).alloc (.cells #[.int .i64 0, .slice none 0 0] tM)).heap.size = w.heap.size + 2 := by simp
    have HT := Lib.hid (ht.below HVB.out)
    have HBL := Lib.hid hbl.2
    clear hv hB hbl ht
    go_enter Tryd.func20, Tryd.ntmps20
    go_upto_region 1 with fail
    generalize ((w.alloc (.cells #[.int .i64 l, .int .i64 r, .slice A R.length cp] tRl)).alloc (.cells #[.int .i64 0, .slice none 0 0] tM)) = W0 at HVB HV hB0 HX0 HY0 HT hsz0 ⊢
    have hz0 : w.heap.size + 2 ≤ W0.heap.size := by omega
    clear hsz0
    obtain ⟨hx0, hx1, hx2, hxf0, hxf1, hxf2, hxs⟩ := HX0.out.three
    go_wp2_with fail
    refine (implIsRelation_any W0 B _ p l r R HT.out HV.out hB0 HBL.out).mono ?_
    rintro e w1 ⟨rfl, b1⟩
    rw [HOK.out]
    have HX1 := Lib.hid (HX0.out.below b1 hxs)
    have HY1 := Lib.hid (HY0.out.below b1 (by omega))
    have HV1 := Lib.hid (HV.out.below b1 hB0)
    have HB1 := Lib.hid (HVB.out.trans (b1.mono HVB.out.size))
    have hz1 : w.heap.size + 2 ≤ w1.heap.size := Nat.le_trans hz0 b1.size
    have hB1 : B ≤ w1.heap.size := Nat.le_trans hB0 b1.size
    clear b1 hx0 hx1 hx2 hxf0 hxf1 hxf2 hxs
    obtain ⟨hy0, hy1, hyf0, hyf1, hys⟩ := HY1.out.two
    go_wp2
    refine bodyPost_ret (v := .tuple #[.agg #[.int .i64 0, .slice none 0 0], .bool false]) (by simp [results, Tryd.results20, go_sem, hy0, hy1]) rfl ?_
    rw [HOX.out, (fn_no HOX.out).1, (fn_no HOX.out).2]
    exact ⟨_, rfl, (by refine Below.trans HB1.out ?_; repeat' (first | exact Below.refl _ _ | apply Below.drew | apply Below.setCell | apply Below.alloc | (simp; done) | omega | (simp; omega))), ⟨none, 0, rfl, Nat.le_refl 0, Or.inl rfl⟩, by simp [szG, tot]⟩
  | true =>
    obtain ⟨hf, a, b, rfl, rfl, hab, hln, hred⟩ := isRl_parts hs
    have HOK := Lib.hid hs
    have HF := Lib.hid hf
    have HRM := Lib.hid hred.mat
    have HRD' := Lib.hid hred
    clear hs hf hred
    cases ht2 : decide ((rref p (firsts a R) a).length = a) with
    | false =>
      have HTT := Lib.hid ht2
      have HOX := Lib.hid (show fnOk p a b R = false by simp only [fnOk, Int.toNat_natCast, ht2, Bool.and_false, Bool.false_and])
      clear ht2 HRD'
      have HVB := Lib.hid (show Below w.heap.size w ((w.alloc (.cells #[.int .i64 a, .int .i64 b, .slice A R.length cp] tRl)).alloc (.cells #[.int .i64 0, .slice none 0 0] tM)) by repeat' (first | exact Below.refl _ _ | apply Below.alloc | (simp; done) | (simp; omega)))
      have HV := Lib.hid (hv.below HVB.out hB)
      have hB0 : B ≤ ((w.alloc (.cells #[.int .i64 a, .int .i64 b, .slice A R.length cp] tRl)).alloc (.cells #[.int .i64 0, .slice none 0 0] tM)).heap.size := Nat.le_trans hB HVB.out.size
      have HX0 := Lib.hid ((cellsAt_new w #[.int .i64 a, .int .i64 b, .slice A R.length cp] tRl).alloc (.cells #[.int .i64 0, .slice none 0 0] tM))
      have HY0 := Lib.hid (cellsAt_new' (w.alloc (.cells #[.int .i64 a, .int .i64 b, .slice A R.length cp] tRl)) #[.int .i64 0, .slice none 0 0] tM _ (w.heap.size + 1) (by simp) rfl)
      have hsz0 : ((w.alloc (.cells #[.int .i64 a, .int .i64 b, .slice A R.length cp] tRl)).alloc (.cells #[.int .i64 0, .slice none 0 0] tM)).heap.size = w.heap.size + 2 := by simp
      have HT := Lib.hid (ht.below HVB.out)
      have HBL := Lib.hid hbl.2
      clear hv hB hbl ht
      go_enter Tryd.func20, Tryd.ntmps20
      go_upto_region 1 with fail
      generalize ((w.alloc (.cells #[.int .i64 a, .int .i64 b, .slice A R.length cp] tRl)).alloc (.cells #[.int .i64 0, .slice none 0 0] tM)) = W0 at HVB HV hB0 HX0 HY0 HT hsz0 ⊢
      have hz0 : w.heap.size + 2 ≤ W0.heap.size := by omega
      clear hsz0
      obtain ⟨hx0, hx1, hx2, hxf0, hxf1, hxf2, hxs⟩ := HX0.out.three
      go_wp2_with fail
      refine (implIsRelation_any W0 B _ p a b R HT.out HV.out hB0 HBL.out).mono ?_
      rintro e w1 ⟨rfl, b1⟩
      rw [HOK.out]
      have HX1 := Lib.hid (HX0.out.below b1 hxs)
      have HY1 := Lib.hid (HY0.out.below b1 (by omega))
      have HV1 := Lib.hid (HV.out.below b1 hB0)
      have HB1 := Lib.hid (HVB.out.trans (b1.mono HVB.out.size))
      have hz1 : w.heap.size + 2 ≤ w1.heap.size := Nat.le_trans hz0 b1.size
      have hB1 : B ≤ w1.heap.size := Nat.le_trans hB0 b1.size
      clear b1 hx0 hx1 hx2 hxf0 hxf1 hxf2 hxs
      obtain ⟨hx0, hx1, hx2, hxf0, hxf1, hxf2, hxs⟩ := HX1.out.three
      go_wp2_with fail
      refine (isTotal_any w1 B _ p a b R HV1.out.1 hB1 HF.out HRM.out (by omega) (by omega)).mono ?_
      rintro e w2 ⟨rfl, b2⟩
      rw [HTT.out]
      have HX2 := Lib.hid (HX1.out.below b2 hxs)
      have HY2 := Lib.hid (HY1.out.below b2 (by omega))
      have HV2 := Lib.hid (HV1.out.below b2 hB1)
      have HB2 := Lib.hid (HB1.out.trans (b2.mono HB1.out.size))
      have hz2 : w.heap.size + 2 ≤ w2.heap.size := Nat.le_trans hz1 b2.size
      have hB2 : B ≤ w2.heap.size := Nat.le_trans hB1 b2.size
      clear b2 hx0 hx1 hx2 hxf0 hxf1 hxf2 hxs
      obtain ⟨hy0, hy1, hyf0, hyf1, hys⟩ := HY2.out.two
      go_wp2
      refine bodyPost_ret (v := .tuple #[.agg #[.int .i64 0, .slice none 0 0], .bool false]) (by simp [results, Tryd.results20, go_sem, hy0, hy1]) rfl ?_
      rw [HOX.out, (fn_no HOX.out).1, (fn_no HOX.out).2]
      exact ⟨_, rfl, (by refine Below.trans HB2.out ?_; repeat' (first | exact Below.refl _ _ | apply Below.drew | apply Below.setCell | apply Below.alloc | (simp; done) | omega | (simp; omega))), ⟨none, 0, rfl, Nat.le_refl 0, Or.inl rfl⟩, by simp [szG, tot]⟩
    | true =>
      have HTT := Lib.hid ht2
      have HRW := Lib.hid (fun j (hj : j < R.length) => (show (R.getD j []).length ≤ 1000000 by have := (HRM.out.row hj).1; omega))
      cases hs2 : singB a R with
      | false =>
        have HSS := Lib.hid ((fn_single HOK.out).trans hs2)
        have HOX := Lib.hid (show fnOk p a b R = false by simp only [fnOk, Int.toNat_natCast, hs2, Bool.and_false])
        clear ht2 hs2 HRD'
        have HVB := Lib.hid (show Below w.heap.size w ((w.alloc (.cells #[.int .i64 a, .int .i64 b, .slice A R.length cp] tRl)).alloc (.cells #[.int .i64 0, .slice none 0 0] tM)) by repeat' (first | exact Below.refl _ _ | apply Below.alloc | (simp; done) | (simp; omega)))
        have HV := Lib.hid (hv.below HVB.out hB)
        have hB0 : B ≤ ((w.alloc (.cells #[.int .i64 a, .int .i64 b, .slice A R.length cp] tRl)).alloc (.cells #[.int .i64 0, .slice none 0 0] tM)).heap.size := Nat.le_trans hB HVB.out.size
        have HX0 := Lib.hid ((cellsAt_new w #[.int .i64 a, .int .i64 b, .slice A R.length cp] tRl).alloc (.cells #[.int .i64 0, .slice none 0 0] tM))
        have HY0 := Lib.hid (cellsAt_new' (w.alloc (.cells #[.int .i64 a, .int .i64 b, .slice A R.length cp] tRl)) #[.int .i64 0, .slice none 0 0] tM _ (w.heap.size + 1) (by simp) rfl)
        have hsz0 : ((w.alloc (.cells #[.int .i64 a, .int .i64 b, .slice A R.length cp] tRl)).alloc (.cells #[.int .i64 0, .slice none 0 0] tM)).heap.size = w.heap.size + 2 := by simp
        have HT := Lib.hid (ht.below HVB.out)
        have HBL := Lib.hid hbl.2
        clear hv hB hbl ht
        go_enter Tryd.func20, Tryd.ntmps20
        go_upto_region 1 with fail
        generalize ((w.alloc (.cells #[.int .i64 a, .int .i64 b, .slice A R.length cp] tRl)).alloc (.cells #[.int .i64 0, .slice none 0 0] tM)) = W0 at HVB HV hB0 HX0 HY0 HT hsz0 ⊢
        have hz0 : w.heap.size + 2 ≤ W0.heap.size := by omega
        clear hsz0
        obtain ⟨hx0, hx1, hx2, hxf0, hxf1, hxf2, hxs⟩ := HX0.out.three
        go_wp2_with fail
        refine (implIsRelation_any W0 B _ p a b R HT.out HV.out hB0 HBL.out).mono ?_
        rintro e w1 ⟨rfl, b1⟩
        rw [HOK.out]
        have HX1 := Lib.hid (HX0.out.below b1 hxs)
        have HY1 := Lib.hid (HY0.out.below b1 (by omega))
        have HV1 := Lib.hid (HV.out.below b1 hB0)
        have HB1 := Lib.hid (HVB.out.trans (b1.mono HVB.out.size))
        have hz1 : w.heap.size + 2 ≤ w1.heap.size := Nat.le_trans hz0 b1.size
        have hB1 : B ≤ w1.heap.size := Nat.le_trans hB0 b1.size
        clear b1 hx0 hx1 hx2 hxf0 hxf1 hxf2 hxs
        obtain ⟨hx0, hx1, hx2, hxf0, hxf1, hxf2, hxs⟩ := HX1.out.three
        go_wp2_with fail
        refine (isTotal_any w1 B _ p a b R HV1.out.1 hB1 HF.out HRM.out (by omega) (by omega)).mono ?_
        rintro e w2 ⟨rfl, b2⟩
        rw [HTT.out]
        have HX2 := Lib.hid (HX1.out.below b2 hxs)
        have HY2 := Lib.hid (HY1.out.below b2 (by omega))
        have HV2 := Lib.hid (HV1.out.below b2 hB1)
        have HB2 := Lib.hid (HB1.out.trans (b2.mono HB1.out.size))
        have hz2 : w.heap.size + 2 ≤ w2.heap.size := Nat.le_trans hz1 b2.size
        have hB2 : B ≤ w2.heap.size := Nat.le_trans hB1 b2.size
        clear b2 hx0 hx1 hx2 hxf0 hxf1 hxf2 hxs
        obtain ⟨hx0, hx1, hx2, hxf0, hxf1, hxf2, hxs⟩ := HX2.out.three
        go_wp2_with fail
        refine (isSingle_any w2 B _ p a b R HV2.out.1 hB2 HF.out HRM.out (by omega) (by omega)).mono ?_
        rintro e w3 ⟨rfl, b3⟩
        rw [HSS.out]
        have HX3 := Lib.hid (HX2.out.below b3 hxs)
        have HY3 := Lib.hid (HY2.out.below b3 (by omega))
        have HV3 := Lib.hid (HV2.out.below b3 hB2)
        have HB3 := Lib.hid (HB2.out.trans (b3.mono HB2.out.size))
        have hz3 : w.heap.size + 2 ≤ w3.heap.size := Nat.le_trans hz2 b3.size
        have hB3 : B ≤ w3.heap.size := Nat.le_trans hB2 b3.size
        clear b3 hx0 hx1 hx2 hxf0 hxf1 hxf2 hxs
        obtain ⟨hy0, hy1, hyf0, hyf1, hys⟩ := HY3.out.two
        go_wp2
        refine bodyPost_ret (v := .tuple #[.agg #[.int .i64 0, .slice none 0 0], .bool false]) (by simp [results, Tryd.results20, go_sem, hy0, hy1]) rfl ?_
        rw [HOX.out, (fn_no HOX.out).1, (fn_no HOX.out).2]
        exact ⟨_, rfl, (by refine Below.trans HB3.out ?_; repeat' (first | exact Below.refl _ _ | apply Below.drew | apply Below.setCell | apply Below.alloc | (simp; done) | omega | (simp; omega))), ⟨none, 0, rfl, Nat.le_refl 0, Or.inl rfl⟩, by simp [szG, tot]⟩
      | true =>
        have HSS := Lib.hid ((fn_single HOK.out).trans hs2)
        have HOX := Lib.hid (show fnOk p a b R = true by simp only [fnOk, Int.toNat_natCast, hs2, ht2, HOK.out, Bool.and_true])
        have HSZ := Lib.hid (sec_sz HRM.out (by omega) hab)
        clear ht2 hs2 HRD'
        have HVB := Lib.hid (show Below w.heap.size w ((w.alloc (.cells #[.int .i64 a, .int .i64 b, .slice A R.length cp] tRl)).alloc (.cells #[.int .i64 0, .slice none 0 0] tM)) by repeat' (first | exact Below.refl _ _ | apply Below.alloc | (simp; done) | (simp; omega)))
        have HV := Lib.hid (hv.below HVB.out hB)
        have hB0 : B ≤ ((w.alloc (.cells #[.int .i64 a, .int .i64 b, .slice A R.length cp] tRl)).alloc (.cells #[.int .i64 0, .slice none 0 0] tM)).heap.size := Nat.le_trans hB HVB.out.size
        have HX0 := Lib.hid ((cellsAt_new w #[.int .i64 a, .int .i64 b, .slice A R.length cp] tRl).alloc (.cells #[.int .i64 0, .slice none 0 0] tM))
        have HY0 := Lib.hid (cellsAt_new' (w.alloc (.cells #[.int .i64 a, .int .i64 b, .slice A R.length cp] tRl)) #[.int .i64 0, .slice none 0 0] tM _ (w.heap.size + 1) (by simp) rfl)
        have hsz0 : ((w.alloc (.cells #[.int .i64 a, .int .i64 b, .slice A R.length cp] tRl)).alloc (.cells #[.int .i64 0, .slice none 0 0] tM)).heap.size = w.heap.size + 2 := by simp
        have HT := Lib.hid (ht.below HVB.out)
        have HBL := Lib.hid hbl.2
        clear hv hB hbl ht
        go_enter Tryd.func20, Tryd.ntmps20
        go_upto_region 1 with fail
        generalize ((w.alloc (.cells #[.int .i64 a, .int .i64 b, .slice A R.length cp] tRl)).alloc (.cells #[.int .i64 0, .slice none 0 0] tM)) = W0 at HVB HV hB0 HX0 HY0 HT hsz0 ⊢
        have hz0 : w.heap.size + 2 ≤ W0.heap.size := by omega
        clear hsz0
        obtain ⟨hx0, hx1, hx2, hxf0, hxf1, hxf2, hxs⟩ := HX0.out.three
        go_wp2_with fail
        refine (implIsRelation_any W0 B _ p a b R HT.out HV.out hB0 HBL.out).mono ?_
        rintro e w1 ⟨rfl, b1⟩
        rw [HOK.out]
        have HX1 := Lib.hid (HX0.out.below b1 hxs)
        have HY1 := Lib.hid (HY0.out.below b1 (by omega))
        have HV1 := Lib.hid (HV.out.below b1 hB0)
        have HB1 := Lib.hid (HVB.out.trans (b1.mono HVB.out.size))
        have hz1 : w.heap.size + 2 ≤ w1.heap.size := Nat.le_trans hz0 b1.size
        have hB1 : B ≤ w1.heap.size := Nat.le_trans hB0 b1.size
        clear b1 hx0 hx1 hx2 hxf0 hxf1 hxf2 hxs
        obtain ⟨hx0, hx1, hx2, hxf0, hxf1, hxf2, hxs⟩ := HX1.out.three
        go_wp2_with fail
        refine (isTotal_any w1 B _ p a b R HV1.out.1 hB1 HF.out HRM.out (by omega) (by omega)).mono ?_
        rintro e w2 ⟨rfl, b2⟩
        rw [HTT.out]
        have HX2 := Lib.hid (HX1.out.below b2 hxs)
        have HY2 := Lib.hid (HY1.out.below b2 (by omega))
        have HV2 := Lib.hid (HV1.out.below b2 hB1)
        have HB2 := Lib.hid (HB1.out.trans (b2.mono HB1.out.size))
        have hz2 : w.heap.size + 2 ≤ w2.heap.size := Nat.le_trans hz1 b2.size
        have hB2 : B ≤ w2.heap.size := Nat.le_trans hB1 b2.size
        clear b2 hx0 hx1 hx2 hxf0 hxf1 hxf2 hxs
        obtain ⟨hx0, hx1, hx2, hxf0, hxf1, hxf2, hxs⟩ := HX2.out.three
        go_wp2_with fail
        refine (isSingle_any w2 B _ p a b R HV2.out.1 hB2 HF.out HRM.out (by omega) (by omega)).mono ?_
        rintro e w3 ⟨rfl, b3⟩
        rw [HSS.out]
        have HX3 := Lib.hid (HX2.out.below b3 hxs)
        have HY3 := Lib.hid (HY2.out.below b3 (by omega))
        have HV3 := Lib.hid (HV2.out.below b3 hB2)
        have HB3 := Lib.hid (HB2.out.trans (b3.mono HB2.out.size))
        have hz3 : w.heap.size + 2 ≤ w3.heap.size := Nat.le_trans hz2 b3.size
        have hB3 : B ≤ w3.heap.size := Nat.le_trans hB2 b3.size
        clear b3 hx0 hx1 hx2 hxf0 hxf1 hxf2 hxs
        have hx := HX3.out.three
        have HELD : Hid (∀ w' : World, w'.heap[w.heap.size]? = w3.heap[w.heap.size]? → w'.cell? ⟨w.heap.size, 0, none⟩ = some (.int .i64 a) ∧ w'.cell? ⟨w.heap.size, 1, none⟩ = some (.int .i64 b) ∧ w'.cell? ⟨w.heap.size, 2, none⟩ = some (.slice A R.length cp)) := Lib.hid (fun w' H => ⟨(World.cell?_of_block (w := w3) H).trans hx.1, (World.cell?_of_block (w := w3) H).trans hx.2.1, (World.cell?_of_block (w := w3) H).trans hx.2.2.1⟩)
        have HQ0 : Hid (w3.drew.heap[w.heap.size]? = w3.heap[w.heap.size]?) := Lib.hid rfl
        have HVD := Lib.hid (show RdG w3.drew B (.slice A R.length cp) R from HV3.out.1)
        have hBD : B ≤ w3.drew.heap.size := hB3
        have HL := Lib.hid (rows_len' HRM.out (show a ≤ a + b by omega))
        have HSL := Lib.hid (show ∀ r, r < (seconds a R).length → ((seconds a R).getD r []).length ≤ 1000000 from fun r hr => by rw [seconds_len] at hr; rw [seconds_row hr, List.length_drop, (HRM.out.row hr).1]; omega)
        have hln6 : (seconds a R).length ≤ 1000000 := by rw [seconds_len]; omega
        clear hx
        go_wp2
        go_region_held3 (fun w' => w'.cell? ⟨w.heap.size, 0, none⟩ = some (.int .i64 a) ∧ w'.cell? ⟨w.heap.size, 1, none⟩ = some (.int .i64 b) ∧ w'.cell? ⟨w.heap.size, 2, none⟩ = some (.slice A R.length cp))
          (first | with_reducible exact HELD.out _ HQ0.out | with_reducible exact HELD.out _ HQ5.out | with_reducible exact HELD.out _ HQ6.out | exact HELD.out _ (((blk_setCell_other _ _ _ _ (by dsimp only; omega)).trans (blk_setCell_other _ _ _ _ (by dsimp only; omega))).trans HQ6.out) | fail)
          (first
            | (go_at_call 53; go_split_ands; refine (mapSecond_any w3.drew B _ _ a b R HVD.out hBD (by omega) HL.out).mono ?_; rintro e w5 ⟨v5, rfl, b5, o5⟩; have HB5 : Hid (Below w3.heap.size w3 w5) := Lib.hid ((Below.refl _ _).drew.trans b5); have HQ5 : Hid (w5.heap[w.heap.size]? = w3.heap[w.heap.size]?) := Lib.hid (HB5.out.block _ (by omega)); have HO5 := Lib.hid o5; have hs5 : w3.heap.size ≤ w5.heap.size := HB5.out.size; clear b5 o5)
            | (go_at_call 52; go_split_ands; refine (copyRows_any w5 w5.heap.size _ (seconds a R) HO5.out (Nat.le_refl _) hln6 HSL.out).mono ?_; rintro e w6 ⟨v6, rfl, b6, o6⟩; obtain ⟨A6, c6, rfl⟩ := OwG.len o6; have HB6 : Hid (Below w3.heap.size w3 w6) := Lib.hid (HB5.out.trans (b6.mono hs5)); have HQ6 : Hid (w6.heap[w.heap.size]? = w3.heap[w.heap.size]?) := Lib.hid (HB6.out.block _ (by omega)); have HO6 := Lib.hid (OwG.mono (T := fun q => w3.heap.size ≤ q) o6 (fun q hq _ => Nat.le_trans hs5 hq)); have HY6 := Lib.hid (HY3.out.below HB6.out (by omega)); obtain ⟨hy0, hy1, hyf0, hyf1, hys⟩ := HY6.out.two; clear b6 o6)
            | fail)
        have HBE := Lib.hid (HB3.out.trans (HB6.out.mono HB3.out.size))
        go_wp2
        refine bodyPost_ret (v := .tuple #[.agg #[.int .i64 b, .slice A6 (seconds a R).length c6], .bool true]) (by simp [results, Tryd.results20, go_sem, hy0, hy1]) rfl ?_
        rw [HOX.out, (fn_yes HOX.out).1, (fn_yes HOX.out).2]
        refine ⟨_, rfl, (by refine Below.trans HBE.out ?_; repeat' (first | exact Below.refl _ _ | apply Below.drew | apply Below.setCell | apply Below.alloc | (simp; done) | omega | (simp; omega))), (HO6.out.blocks (fun q hq _ => ?_)).mono (fun q hq _ => by omega), HSZ.out⟩
        repeat rw [blk_setCell_other _ _ _ _ (by dsimp only; omega)]
set_option maxRecDepth 100000 in
set_option maxHeartbeats 12800000 in
theorem spec_FunctionOf (w : World) (B : Nat) (v : Value) (p l r : Int) (R : List (List Int)) (hbl : Bi l) (_hbr : Bi r) (hv : LfG w B v R) (hB : B ≤ w.heap.size) (_hs : szG R ≤ 1048576) :
    Calls Tryd.prog 19 #[.int .i64 p, .agg #[.int .i64 l, .int .i64 r, v]] w (SRetMatrixB w (fnC p l r R) (fnR p l r R) (fnOk p l r R)) := by
  obtain ⟨A, cp, rfl⟩ := hv.len
  cases hs : isRl p l r R with
  | false =>
    have HOK := Lib.hid hs
    have HOX := Lib.hid (show fnOk p l r R = false by simp [fnOk, hs])
    clear hs
    have HVB := Lib.hid (show Below w.heap.size w ((w.alloc (.cells #[.int .i64 l, .int .i64 r, .slice A R.length cp] tRl)).alloc (.cells #[.int .i64 0, .slice none 0 0] tM)) by repeat' (first | exact Below.refl _ _ | apply Below.alloc | (simp; done) | (simp; omega)))
    have HV := Lib.hid (hv.below HVB.out hB)
    have hB0 : B ≤ ((w.alloc (.cells #[.int .i64 l, .int .i64 r, .slice A R.length cp] tRl)).alloc (.cells #[.int .i64 0, .slice none 0 0] tM)).heap.size := Nat.le_trans hB HVB.out.size
    have HX0 := Lib.hid ((cellsAt_new w #[.int .i64 l, .int .i64 r, .slice A R.length cp] tRl).alloc (.cells #[.int .i64 0, .slice none 0 0] tM))
    have HY0 := Lib.hid (cellsAt_new' (w.alloc (.cells #[.int .i64 l, .int .i64 r, .slice A R.length cp] tRl)) #[.int .i64 0, .slice none 0 0] tM _ (w.heap.size + 1) (by simp) rfl)
    have hsz0 : ((w.alloc (.cells #[.int .i64 l, .int .i64 r, .slice A R.length cp] tRl)).alloc (.cells #[.int .i64 0, .slice none 0 0] tM)).heap.size = w.heap.size + 2 := by simp
    clear hv hB hbl
    go_enter Tryd.func19, Tryd.ntmps19
    go_upto_region 1 with fail
    generalize ((w.alloc (.cells #[.int .i64 l, .int .i64 r, .slice A R.length cp] tRl)).alloc (.cells #[.int .i64 0, .slice none 0 0] tM)) = W0 at HVB HV hB0 HX0 HY0 hsz0 ⊢
    have hz0 : w.heap.size + 2 ≤ W0.heap.size := by omega
    clear hsz0
    obtain ⟨hx0, hx1, hx2, hxf0, hxf1, hxf2, hxs⟩ := HX0.out.three
    go_wp2_with fail
    refine (rlGood_any W0 B _ p l r R HV.out hB0).mono ?_
    rintro e w1 ⟨rfl, b1⟩
    rw [HOK.out]
    have HX1 := Lib.hid (HX0.out.below b1 hxs)
    have HY1 := Lib.hid (HY0.out.below b1 (by omega))
    have HV1 := Lib.hid (HV.out.below b1 hB0)
    have HB1 := Lib.hid (HVB.out.trans (b1.mono HVB.out.size))
    have hz1 : w.heap.size + 2 ≤ w1.heap.size := Nat.le_trans hz0 b1.size
    have hB1 : B ≤ w1.heap.size := Nat.le_trans hB0 b1.size
    clear b1 hx0 hx1 hx2 hxf0 hxf1 hxf2 hxs
    obtain ⟨hy0, hy1, hyf0, hyf1, hys⟩ := HY1.out.two
    go_wp2
    refine bodyPost_ret (v := .tuple #[.agg #[.int .i64 0, .slice none 0 0], .bool false]) (by simp [results, Tryd.results19, go_sem, hy0, hy1]) rfl ?_
    rw [HOX.out, (fn_no HOX.out).1, (fn_no HOX.out).2]
    exact ⟨_, rfl, (by refine Below.trans HB1.out ?_; repeat' (first | exact Below.refl _ _ | apply Below.drew | apply Below.setCell | apply Below.alloc | (simp; done) | omega | (simp; omega))), ⟨none, 0, rfl, Nat.le_refl 0, Or.inl rfl⟩, by simp [szG, tot]⟩
  | true =>
    obtain ⟨hf, a, b, rfl, rfl, hab, hln, hred⟩ := isRl_parts hs
    have HOK := Lib.hid hs
    have HF := Lib.hid hf
    have HRM := Lib.hid hred.mat
    have HRD' := Lib.hid hred
    clear hs hf hred
    cases ht2 : decide ((rref p (firsts a R) a).length = a) with
    | false =>
      have HTT := Lib.hid ht2
      have HOX := Lib.hid (show fnOk p a b R = false by simp only [fnOk, Int.toNat_natCast, ht2, Bool.and_false, Bool.false_and])
      clear ht2 HRD'
      have HVB := Lib.hid (show Below w.heap.size w ((w.alloc (.cells #[.int .i64 a, .int .i64 b, .slice A R.length cp] tRl)).alloc (.cells #[.int .i64 0, .slice none 0 0] tM)) by repeat' (first | exact Below.refl _ _ | apply Below.alloc | (simp; done) | (simp; omega)))
      have HV := Lib.hid (hv.below HVB.out hB)
      have hB0 : B ≤ ((w.alloc (.cells #[.int .i64 a, .int .i64 b, .slice A R.length cp] tRl)).alloc (.cells #[.int .i64 0, .slice none 0 0] tM)).heap.size := Nat.le_trans hB HVB.out.size
      have HX0 := Lib.hid ((cellsAt_new w #[.int .i64 a, .int .i64 b, .slice A R.length cp] tRl).alloc (.cells #[.int .i64 0, .slice none 0 0] tM))
      have HY0 := Lib.hid (cellsAt_new' (w.alloc (.cells #[.int .i64 a, .int .i64 b, .slice A R.length cp] tRl)) #[.int .i64 0, .slice none 0 0] tM _ (w.heap.size + 1) (by simp) rfl)
      have hsz0 : ((w.alloc (.cells #[.int .i64 a, .int .i64 b, .slice A R.length cp] tRl)).alloc (.cells #[.int .i64 0, .slice none 0 0] tM)).heap.size = w.heap.size + 2 := by simp
      clear hv hB hbl
      go_enter Tryd.func19, Tryd.ntmps19
      go_upto_region 1 with fail
      generalize ((w.alloc (.cells #[.int .i64 a, .int .i64 b, .slice A R.length cp] tRl)).alloc (.cells #[.int .i64 0, .slice none 0 0] tM)) = W0 at HVB HV hB0 HX0 HY0 hsz0 ⊢
      have hz0 : w.heap.size + 2 ≤ W0.heap.size := by omega
      clear hsz0
      obtain ⟨hx0, hx1, hx2, hxf0, hxf1, hxf2, hxs⟩ := HX0.out.three
      go_wp2_with fail
      refine (rlGood_any W0 B _ p a b R HV.out hB0).mono ?_
      rintro e w1 ⟨rfl, b1⟩
      rw [HOK.out]
      have HX1 := Lib.hid (HX0.out.below b1 hxs)
      have HY1 := Lib.hid (HY0.out.below b1 (by omega))
      have HV1 := Lib.hid (HV.out.below b1 hB0)
      have HB1 := Lib.hid (HVB.out.trans (b1.mono HVB.out.size))
      have hz1 : w.heap.size + 2 ≤ w1.heap.size := Nat.le_trans hz0 b1.size
      have hB1 : B ≤ w1.heap.size := Nat.le_trans hB0 b1.size
      clear b1 hx0 hx1 hx2 hxf0 hxf1 hxf2 hxs
      obtain ⟨hx0, hx1, hx2, hxf0, hxf1, hxf2, hxs⟩ := HX1.out.three
      go_wp2_with fail
      refine (rlTotal_any w1 B _ p a b R HV1.out.1 hB1 HF.out HRM.out (by omega) (by omega)).mono ?_
      rintro e w2 ⟨rfl, b2⟩
      rw [HTT.out]
      have HX2 := Lib.hid (HX1.out.below b2 hxs)
      have HY2 := Lib.hid (HY1.out.below b2 (by omega))
      have HV2 := Lib.hid (HV1.out.below b2 hB1)
      have HB2 := Lib.hid (HB1.out.trans (b2.mono HB1.out.size))
      have hz2 : w.heap.size + 2 ≤ w2.heap.size := Nat.le_trans hz1 b2.size
      have hB2 : B ≤ w2.heap.size := Nat.le_trans hB1 b2.size
      clear b2 hx0 hx1 hx2 hxf0 hxf1 hxf2 hxs
      obtain ⟨hy0, hy1, hyf0, hyf1, hys⟩ := HY2.out.two
      go_wp2
      refine bodyPost_ret (v := .tuple #[.agg #[.int .i64 0, .slice none 0 0], .bool false]) (by simp [results, Tryd.results19, go_sem, hy0, hy1]) rfl ?_
      rw [HOX.out, (fn_no HOX.out).1, (fn_no HOX.out).2]
      exact ⟨_, rfl, (by refine Below.trans HB2.out ?_; repeat' (first | exact Below.refl _ _ | apply Below.drew | apply Below.setCell | apply Below.alloc | (simp; done) | omega | (simp; omega))), ⟨none, 0, rfl, Nat.le_refl 0, Or.inl rfl⟩, by simp [szG, tot]⟩
    | true =>
      have HTT := Lib.hid ht2
      have HRW := Lib.hid (fun j (hj : j < R.length) => (show (R.getD j []).length ≤ 1000000 by have := (HRM.out.row hj).1; omega))
      cases hs2 : singB a R with
      | false =>
        have HSS := Lib.hid (hs2)
        have HOX := Lib.hid (show fnOk p a b R = false by simp only [fnOk, Int.toNat_natCast, hs2, Bool.and_false])
        clear ht2 hs2 HRD'
        have HVB := Lib.hid (show Below w.heap.size w ((w.alloc (.cells #[.int .i64 a, .int .i64 b, .slice A R.length cp] tRl)).alloc (.cells #[.int .i64 0, .slice none 0 0] tM)) by repeat' (first | exact Below.refl _ _ | apply Below.alloc | (simp; done) | (simp; omega)))
        have HV := Lib.hid (hv.below HVB.out hB)
        have hB0 : B ≤ ((w.alloc (.cells #[.int .i64 a, .int .i64 b, .slice A R.length cp] tRl)).alloc (.cells #[.int .i64 0, .slice none 0 0] tM)).heap.size := Nat.le_trans hB HVB.out.size
        have HX0 := Lib.hid ((cellsAt_new w #[.int .i64 a, .int .i64 b, .slice A R.length cp] tRl).alloc (.cells #[.int .i64 0, .slice none 0 0] tM))
        have HY0 := Lib.hid (cellsAt_new' (w.alloc (.cells #[.int .i64 a, .int .i64 b, .slice A R.length cp] tRl)) #[.int .i64 0, .slice none 0 0] tM _ (w.heap.size + 1) (by simp) rfl)
        have hsz0 : ((w.alloc (.cells #[.int .i64 a, .int .i64 b, .slice A R.length cp] tRl)).alloc (.cells #[.int .i64 0, .slice none 0 0] tM)).heap.size = w.heap.size + 2 := by simp
        clear hv hB hbl
        go_enter Tryd.func19, Tryd.ntmps19
        go_upto_region 1 with fail
        generalize ((w.alloc (.cells #[.int .i64 a, .int .i64 b, .slice A R.length cp] tRl)).alloc (.cells #[.int .i64 0, .slice none 0 0] tM)) = W0 at HVB HV hB0 HX0 HY0 hsz0 ⊢
        have hz0 : w.heap.size + 2 ≤ W0.heap.size := by omega
        clear hsz0
        obtain ⟨hx0, hx1, hx2, hxf0, hxf1, hxf2, hxs⟩ := HX0.out.three
        go_wp2_with fail
        refine (rlGood_any W0 B _ p a b R HV.out hB0).mono ?_
        rintro e w1 ⟨rfl, b1⟩
        rw [HOK.out]
        have HX1 := Lib.hid (HX0.out.below b1 hxs)
        have HY1 := Lib.hid (HY0.out.below b1 (by omega))
        have HV1 := Lib.hid (HV.out.below b1 hB0)
        have HB1 := Lib.hid (HVB.out.trans (b1.mono HVB.out.size))
        have hz1 : w.heap.size + 2 ≤ w1.heap.size := Nat.le_trans hz0 b1.size
        have hB1 : B ≤ w1.heap.size := Nat.le_trans hB0 b1.size
        clear b1 hx0 hx1 hx2 hxf0 hxf1 hxf2 hxs
        obtain ⟨hx0, hx1, hx2, hxf0, hxf1, hxf2, hxs⟩ := HX1.out.three
        go_wp2_with fail
        refine (rlTotal_any w1 B _ p a b R HV1.out.1 hB1 HF.out HRM.out (by omega) (by omega)).mono ?_
        rintro e w2 ⟨rfl, b2⟩
        rw [HTT.out]
        have HX2 := Lib.hid (HX1.out.below b2 hxs)
        have HY2 := Lib.hid (HY1.out.below b2 (by omega))
        have HV2 := Lib.hid (HV1.out.below b2 hB1)
        have HB2 := Lib.hid (HB1.out.trans (b2.mono HB1.out.size))
        have hz2 : w.heap.size + 2 ≤ w2.heap.size := Nat.le_trans hz1 b2.size
        have hB2 : B ≤ w2.heap.size := Nat.le_trans hB1 b2.size
        clear b2 hx0 hx1 hx2 hxf0 hxf1 hxf2 hxs
        obtain ⟨hx0, hx1, hx2, hxf0, hxf1, hxf2, hxs⟩ := HX2.out.three
        go_wp2_with fail
        refine (rlSingle_any w2 B _ a b R HV2.out.1 hB2 (by omega) HRW.out).mono ?_
        rintro e w3 ⟨rfl, b3⟩
        rw [HSS.out]
        have HX3 := Lib.hid (HX2.out.below b3 hxs)
        have HY3 := Lib.hid (HY2.out.below b3 (by omega))
        have HV3 := Lib.hid (HV2.out.below b3 hB2)
        have HB3 := Lib.hid (HB2.out.trans (b3.mono HB2.out.size))
        have hz3 : w.heap.size + 2 ≤ w3.heap.size := Nat.le_trans hz2 b3.size
        have hB3 : B ≤ w3.heap.size := Nat.le_trans hB2 b3.size
        clear b3 hx0 hx1 hx2 hxf0 hxf1 hxf2 hxs
        obtain ⟨hy0, hy1, hyf0, hyf1, hys⟩ := HY3.out.two
        go_wp2
        refine bodyPost_ret (v := .tuple #[.agg #[.int .i64 0, .slice none 0 0], .bool false]) (by simp [results, Tryd.results19, go_sem, hy0, hy1]) rfl ?_
        rw [HOX.out, (fn_no HOX.out).1, (fn_no HOX.out).2]
        exact ⟨_, rfl, (by refine Below.trans HB3.out ?_; repeat' (first | exact Below.refl _ _ | apply Below.drew | apply Below.setCell | apply Below.alloc | (simp; done) | omega | (simp; omega))), ⟨none, 0, rfl, Nat.le_refl 0, Or.inl rfl⟩, by simp [szG, tot]⟩
      | true =>
        have HSS := Lib.hid (hs2)
        have HOX := Lib.hid (show fnOk p a b R = true by simp only [fnOk, Int.toNat_natCast, hs2, ht2, HOK.out, Bool.and_true])
        have HSZ := Lib.hid (sec_sz HRM.out (by omega) hab)
        clear ht2 hs2 HRD'
        have HVB := Lib.hid (show Below w.heap.size w ((w.alloc (.cells #[.int .i64 a, .int .i64 b, .slice A R.length cp] tRl)).alloc (.cells #[.int .i64 0, .slice none 0 0] tM)) by repeat' (first | exact Below.refl _ _ | apply Below.alloc | (simp; done) | (simp; omega)))
        have HV := Lib.hid (hv.below HVB.out hB)
        have hB0 : B ≤ ((w.alloc (.cells #[.int .i64 a, .int .i64 b, .slice A R.length cp] tRl)).alloc (.cells #[.int .i64 0, .slice none 0 0] tM)).heap.size := Nat.le_trans hB HVB.out.size
        have HX0 := Lib.hid ((cellsAt_new w #[.int .i64 a, .int .i64 b, .slice A R.length cp] tRl).alloc (.cells #[.int .i64 0, .slice none 0 0] tM))
        have HY0 := Lib.hid (cellsAt_new' (w.alloc (.cells #[.int .i64 a, .int .i64 b, .slice A R.length cp] tRl)) #[.int .i64 0, .slice none 0 0] tM _ (w.heap.size + 1) (by simp) rfl)
        have hsz0 : ((w.alloc (.cells #[.int .i64 a, .int .i64 b, .slice A R.length cp] tRl)).alloc (.cells #[.int .i64 0, .slice none 0 0] tM)).heap.size = w.heap.size + 2 := by simp
        clear hv hB hbl
        go_enter Tryd.func19, Tryd.ntmps19
        go_upto_region 1 with fail
        generalize ((w.alloc (.cells #[.int .i64 a, .int .i64 b, .slice A R.length cp] tRl)).alloc (.cells #[.int .i64 0, .slice none 0 0] tM)) = W0 at HVB HV hB0 HX0 HY0 hsz0 ⊢
        have hz0 : w.heap.size + 2 ≤ W0.heap.size := by omega
        clear hsz0
        obtain ⟨hx0, hx1, hx2, hxf0, hxf1, hxf2, hxs⟩ := HX0.out.three
        go_wp2_with fail
        refine (rlGood_any W0 B _ p a b R HV.out hB0).mono ?_
        rintro e w1 ⟨rfl, b1⟩
        rw [HOK.out]
        have HX1 := Lib.hid (HX0.out.below b1 hxs)
        have HY1 := Lib.hid (HY0.out.below b1 (by omega))
        have HV1 := Lib.hid (HV.out.below b1 hB0)
        have HB1 := Lib.hid (HVB.out.trans (b1.mono HVB.out.size))
        have hz1 : w.heap.size + 2 ≤ w1.heap.size := Nat.le_trans hz0 b1.size
        have hB1 : B ≤ w1.heap.size := Nat.le_trans hB0 b1.size
        clear b1 hx0 hx1 hx2 hxf0 hxf1 hxf2 hxs
        obtain ⟨hx0, hx1, hx2, hxf0, hxf1, hxf2, hxs⟩ := HX1.out.three
        go_wp2_with fail
        refine (rlTotal_any w1 B _ p a b R HV1.out.1 hB1 HF.out HRM.out (by omega) (by omega)).mono ?_
        rintro e w2 ⟨rfl, b2⟩
        rw [HTT.out]
        have HX2 := Lib.hid (HX1.out.below b2 hxs)
        have HY2 := Lib.hid (HY1.out.below b2 (by omega))
        have HV2 := Lib.hid (HV1.out.below b2 hB1)
        have HB2 := Lib.hid (HB1.out.trans (b2.mono HB1.out.size))
        have hz2 : w.heap.size + 2 ≤ w2.heap.size := Nat.le_trans hz1 b2.size
        have hB2 : B ≤ w2.heap.size := Nat.le_trans hB1 b2.size
        clear b2 hx0 hx1 hx2 hxf0 hxf1 hxf2 hxs
        obtain ⟨hx0, hx1, hx2, hxf0, hxf1, hxf2, hxs⟩ := HX2.out.three
        go_wp2_with fail
        refine (rlSingle_any w2 B _ a b R HV2.out.1 hB2 (by omega) HRW.out).mono ?_
        rintro e w3 ⟨rfl, b3⟩
        rw [HSS.out]
        have HX3 := Lib.hid (HX2.out.below b3 hxs)
        have HY3 := Lib.hid (HY2.out.below b3 (by omega))
        have HV3 := Lib.hid (HV2.out.below b3 hB2)
        have HB3 := Lib.hid (HB2.out.trans (b3.mono HB2.out.size))
        have hz3 : w.heap.size + 2 ≤ w3.heap.size := Nat.le_trans hz2 b3.size
        have hB3 : B ≤ w3.heap.size := Nat.le_trans hB2 b3.size
        clear b3 hx0 hx1 hx2 hxf0 hxf1 hxf2 hxs
        obtain ⟨hx0, hx1, hx2, hxf0, hxf1, hxf2, hxs⟩ := HX3.out.three
        have HRL := Lib.hid (fun j (hj : j < R.length) => (HRM.out.row hj).1)
        go_wp2
        clear hx0 hx1 hx2 hxf0 hxf1 hxf2
        go_loopw [31, 8] (fun i _ wr => ∃ (k : Nat) (v : Value) (vs : List Value), k ≤ R.length ∧ i = .int .i64 k ∧ Hid (Below w3.heap.size w3 wr) ∧ Hid (CellsAt wr w3.heap.size tM [.int .i64 b, v]) ∧ Hid (GridB wr (w3.heap.size + 1) v vs (seconds a (R.take k)))) (fun i _ _ => R.length - (intOf i).toNat)
        case atStart => exact ⟨0, .slice none 0 0, [], Nat.zero_le _, rfl, Lib.hid (by repeat' (first | exact Below.refl _ _ | apply Below.drew | apply Below.setCell | apply Below.alloc | (simp; done) | omega | (simp; omega))), Lib.hid (cellsAt_new' _ _ _ _ _ (by simp) rfl), Lib.hid (GridB.nil _ _)⟩
        case round =>
          obtain ⟨k, v, vs, hk, rfl, HB2, HO, HG⟩ := hrel
          have hos := HO.out.lt
          by_cases hlt : k < R.length
          · obtain ⟨b1, o1, A3, c3, rfl, hb1, hc1, hrd⟩ := (HV3.out.1.below HB2.out hB3).at hlt
            have hrl := HRL.out k hlt
            have hcap : (R.getD k []).length ≤ c3 := by
              obtain ⟨A', c', e, kc, _⟩ := hrd
              obtain ⟨-, -, rfl⟩ := sliceEq e
              exact kc
            have HRD := Lib.hid hrd
            have HNX := Lib.hid (sec_take (l := a) hlt)
            have hpn : (seconds a (R.take k)).length + 1 ≤ 1000000 := by rw [seconds_len, List.length_take]; omega
            have hkI : (k : Int) < (R.length : Int) := by omega
            have hx0 := (HX3.out.below HB2.out hxs).three.1
            have HO1 := HO.out.two.2.1
            have HELD : Hid (∀ w' : World, w'.heap[w3.heap.size]? = wr.heap[w3.heap.size]? → w'.cell? ⟨w3.heap.size, 1, none⟩ = some v) := Lib.hid (fun w' H => (World.cell?_of_block (w := wr) H).trans HO1)
            have hxd : wr.drew.cell? ⟨w.heap.size, 0, none⟩ = some (.int .i64 a) := hx0
            have hod : wr.drew.cell? ⟨w3.heap.size, 1, none⟩ = some v := HO1
            have hBr : B ≤ wr.heap.size := Nat.le_trans hB3 HB2.out.size
            have hBD : B ≤ wr.drew.heap.size := hBr
            have hsz : w3.heap.size + 1 ≤ wr.heap.size := by omega
            clear hrd hb1 hx0 HO1
            generalize R.getD k [] = xr at hc1 HRD HNX hrl hcap
            have hle : a ≤ xr.length := by omega
            have hxn : xr.length ≤ 1000 := by omega
            have hleI : (a : Int) ≤ (xr.length : Int) := by omega
            have hlcI : (a : Int) ≤ (c3 : Int) := by omega
            have hncI : (xr.length : Int) ≤ (c3 : Int) := by omega
            have hlen1 : (xr.drop a).length ≤ 1000000 := by rw [List.length_drop]; omega
            generalize seconds a (R.take k) = ps at HG HNX hpn
            by_cases hcf : c3 = a
            · clear hrl
              have hcf2 := hcf.symm
              clear hcf
              subst hcf2
              have HX0E := Lib.hid (show xr.drop a = [] from List.drop_eq_nil_of_le (by omega))
              have HD := Lib.hid (fun (nz cz : Nat) (h : nz = 0) => show RdS wr.drew (fun b => b < B) (.slice A3 nz cz) (xr.drop a) from by subst h; exact rdS_none HX0E.out)
              go_wp2
              go_region_law
                (first
                  | (go_simp; go_at_call 34; refine (l1Own_app wr.drew B _ (xr.drop a) (HD.out _ _ (by first | rfl | omega)) hBD hlen1).mono ?_; rintro e w5 ⟨v5, rfl, b5, o5⟩; obtain ⟨A5, n5, c5, rfl⟩ := rdS_sl (RowA.read (show RowA w5 wr.heap.size v5 (xr.drop a) from o5)); have HB5 : Hid (Below wr.heap.size wr w5) := Lib.hid ((Below.refl _ _).drew.trans b5); have HQ5 : Hid (w5.heap[w3.heap.size]? = wr.heap[w3.heap.size]?) := Lib.hid (HB5.out.block _ hos); have hs5 : wr.heap.size ≤ w5.heap.size := HB5.out.size; have HA : Hid (Below w5.heap.size w5 (w5.alloc (.cells #[.slice A5 n5 c5] 42))) := Lib.hid ((Below.refl _ _).alloc (Nat.le_refl _) _); have HB6 : Hid (Below wr.heap.size wr (w5.alloc (.cells #[.slice A5 n5 c5] 42))) := Lib.hid (HB5.out.trans (HA.out.mono hs5)); have HQ6 : Hid ((w5.alloc (.cells #[.slice A5 n5 c5] 42)).heap[w3.heap.size]? = wr.heap[w3.heap.size]?) := Lib.hid (HB6.out.block _ hos); have hv5 := HELD.out _ HQ5.out; have hv6 := HELD.out _ HQ6.out; have HG6 := Lib.hid (HG.out.below HB6.out); have HU6 := Lib.hid ((RowA.below (show RowA w5 wr.heap.size (.slice A5 n5 c5) (xr.drop a) from o5) HA.out).own.mono (T := fun q => wr.heap.size ≤ q ∧ q < (w5.alloc (.cells #[.slice A5 n5 c5] 42)).heap.size) (fun q h1 h2 => ⟨h1, h2⟩)); have HC6 := Lib.hid (show (w5.alloc (.cells #[.slice A5 n5 c5] 42)).cell? ⟨w5.heap.size, 0, none⟩ = some (.slice A5 n5 c5) from by have hc := (cellsAt_new w5 #[.slice A5 n5 c5] 42).cell (i := 0) (by simp); rw [hc]; rfl); have hs6 : wr.heap.size ≤ (w5.alloc (.cells #[.slice A5 n5 c5] 42)).heap.size := HB6.out.size; clear b5 o5; dsimp only)
                  | (refine step_pushG (by rfl) _ _ (by rfl) (w5.alloc (.cells #[.slice A5 n5 c5] 42)) (w3.heap.size + 1) wr.heap.size _ vs ps w5.heap.size 1 A5 n5 c5 (xr.drop a) (by rfl) HG6.out (by rfl) HC6.out HU6.out hsz hs6 hpn ?_; intro v7 vs7 w7 hg7 hb7; obtain ⟨A7, c7, e7⟩ := GridA.form hg7; generalize (ps ++ [xr.drop a]).length = n7 at e7; subst e7; have HB7 : Hid (Below w3.heap.size w3 w7) := Lib.hid (HB2.out.trans ((HB6.out.mono (by omega)).trans (hb7.mono (by omega)))); have HQ7 : Hid (∀ q, q < w3.heap.size + 1 → w7.heap[q]? = wr.heap[q]?) := Lib.hid (fun q hq => (hb7.block q hq).trans (HB6.out.block q (by omega))); have HG7 := Lib.hid hg7; have HO7 := Lib.hid (HO.out.of_block (HQ7.out _ (by omega))); obtain ⟨ho0, ho1, hof0, hof1, hos7⟩ := HO7.out.two; clear hg7 hb7)
                  | fail)
              all_goals
                have HLT := Lib.hid hlt
                go_wp2
                go_roundw
              all_goals first
                | exact ⟨k + 1, _, vs7, by omega, by go_num, Lib.hid (HB7.out.setCell (by show w3.heap.size ≤ w3.heap.size; omega) _), Lib.hid (HO7.out.set 1 _), Lib.hid (by
                    rw [HNX.out]
                    exact GridA.mono (GridA.blocks HG7.out (fun q hq _ => blk_setCell_other _ _ _ _ (by dsimp only; omega))) (fun q hq hl => ⟨hq.1, hl⟩))⟩
                | (simp [intOf]; have := HLT.out; omega)
            · clear hrl
              have HD := Lib.hid (show RdS wr.drew (fun b => b < B) (.slice (A3.map (·.add a)) (xr.length - a) (c3 - a)) (xr.drop a) from rdS_drop HRD.out hle)
              go_wp2
              go_region_law
                (first
                  | (go_simp; go_at_call 34; refine (l1Own_app wr.drew B _ (xr.drop a) HD.out hBD hlen1).mono ?_; rintro e w5 ⟨v5, rfl, b5, o5⟩; obtain ⟨A5, n5, c5, rfl⟩ := rdS_sl (RowA.read (show RowA w5 wr.heap.size v5 (xr.drop a) from o5)); have HB5 : Hid (Below wr.heap.size wr w5) := Lib.hid ((Below.refl _ _).drew.trans b5); have HQ5 : Hid (w5.heap[w3.heap.size]? = wr.heap[w3.heap.size]?) := Lib.hid (HB5.out.block _ hos); have hs5 : wr.heap.size ≤ w5.heap.size := HB5.out.size; have HA : Hid (Below w5.heap.size w5 (w5.alloc (.cells #[.slice A5 n5 c5] 42))) := Lib.hid ((Below.refl _ _).alloc (Nat.le_refl _) _); have HB6 : Hid (Below wr.heap.size wr (w5.alloc (.cells #[.slice A5 n5 c5] 42))) := Lib.hid (HB5.out.trans (HA.out.mono hs5)); have HQ6 : Hid ((w5.alloc (.cells #[.slice A5 n5 c5] 42)).heap[w3.heap.size]? = wr.heap[w3.heap.size]?) := Lib.hid (HB6.out.block _ hos); have hv5 := HELD.out _ HQ5.out; have hv6 := HELD.out _ HQ6.out; have HG6 := Lib.hid (HG.out.below HB6.out); have HU6 := Lib.hid ((RowA.below (show RowA w5 wr.heap.size (.slice A5 n5 c5) (xr.drop a) from o5) HA.out).own.mono (T := fun q => wr.heap.size ≤ q ∧ q < (w5.alloc (.cells #[.slice A5 n5 c5] 42)).heap.size) (fun q h1 h2 => ⟨h1, h2⟩)); have HC6 := Lib.hid (show (w5.alloc (.cells #[.slice A5 n5 c5] 42)).cell? ⟨w5.heap.size, 0, none⟩ = some (.slice A5 n5 c5) from by have hc := (cellsAt_new w5 #[.slice A5 n5 c5] 42).cell (i := 0) (by simp); rw [hc]; rfl); have hs6 : wr.heap.size ≤ (w5.alloc (.cells #[.slice A5 n5 c5] 42)).heap.size := HB6.out.size; clear b5 o5; dsimp only)
                  | (refine step_pushG (by rfl) _ _ (by rfl) (w5.alloc (.cells #[.slice A5 n5 c5] 42)) (w3.heap.size + 1) wr.heap.size _ vs ps w5.heap.size 1 A5 n5 c5 (xr.drop a) (by rfl) HG6.out (by rfl) HC6.out HU6.out hsz hs6 hpn ?_; intro v7 vs7 w7 hg7 hb7; obtain ⟨A7, c7, e7⟩ := GridA.form hg7; generalize (ps ++ [xr.drop a]).length = n7 at e7; subst e7; have HB7 : Hid (Below w3.heap.size w3 w7) := Lib.hid (HB2.out.trans ((HB6.out.mono (by omega)).trans (hb7.mono (by omega)))); have HQ7 : Hid (∀ q, q < w3.heap.size + 1 → w7.heap[q]? = wr.heap[q]?) := Lib.hid (fun q hq => (hb7.block q hq).trans (HB6.out.block q (by omega))); have HG7 := Lib.hid hg7; have HO7 := Lib.hid (HO.out.of_block (HQ7.out _ (by omega))); obtain ⟨ho0, ho1, hof0, hof1, hos7⟩ := HO7.out.two; clear hg7 hb7)
                  | fail)
              all_goals
                have HLT := Lib.hid hlt
                go_wp2
                go_roundw
              all_goals first
                | exact ⟨k + 1, _, vs7, by omega, by go_num, Lib.hid (HB7.out.setCell (by show w3.heap.size ≤ w3.heap.size; omega) _), Lib.hid (HO7.out.set 1 _), Lib.hid (by
                    rw [HNX.out]
                    exact GridA.mono (GridA.blocks HG7.out (fun q hq _ => blk_setCell_other _ _ _ _ (by dsimp only; omega))) (fun q hq hl => ⟨hq.1, hl⟩))⟩
                | (simp [intOf]; have := HLT.out; omega)
          · have HK := Lib.hid (show R.take k = R from List.take_of_length_le (by omega))
            rw [HK.out] at HG
            have HY7 := Lib.hid (HY3.out.below HB2.out (by omega))
            obtain ⟨hy0, hy1, hyf0, hyf1, hys⟩ := HY7.out.two
            obtain ⟨Av, cpv, rfl⟩ := GridA.form HG.out
            obtain ⟨ho0, ho1, hof0, hof1, hos7⟩ := HO.out.two
            have HO4 := Lib.hid (OwG.mono (T := fun q => w3.heap.size ≤ q) (GridB.own HG.out) (fun q hq _ => by omega))
            have HBE := Lib.hid (HB3.out.trans (HB2.out.mono HB3.out.size))
            go_wp2
            refine bodyPost_ret (v := .tuple #[.agg #[.int .i64 b, .slice Av (seconds a R).length cpv], .bool true]) (by simp [results, Tryd.results19, go_sem, hy0, hy1]) rfl ?_
            rw [HOX.out, (fn_yes HOX.out).1, (fn_yes HOX.out).2]
            refine ⟨_, rfl, (by refine Below.trans HBE.out ?_; repeat' (first | exact Below.refl _ _ | apply Below.drew | apply Below.setCell | apply Below.alloc | (simp; done) | omega | (simp; omega))), (HO4.out.blocks (fun q hq _ => ?_)).mono (fun q hq _ => by omega), HSZ.out⟩
            repeat rw [blk_setCell_other _ _ _ _ (by dsimp only; omega)]
end Go.Proofs.YtiiloioobmkicaaDoor
