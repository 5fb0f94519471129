/- Two spaces of one size: both sides. -/
import Derived.Test.YtahlicbjbbpihaaDoorSpI
namespace Go.Proofs.YtahlicbjbbpihaaDoor
set_option maxRecDepth 100000
open Go Go.RowKit Go.Deep

def twoOk (p c d : Int) (R S : List (List Int)) : Bool := isSp p c R && isSp p d S && decide (c = d)
theorem twoOk_parts {p c d : Int} {R S : List (List Int)} (h : twoOk p c d R S = true) : isSp p c R = true ∧ isSp p c S = true ∧ c = d := by
  unfold twoOk at h
  rw [Bool.and_eq_true, Bool.and_eq_true] at h
  obtain ⟨⟨h1, h2⟩, h3⟩ := h
  have h4 : c = d := of_decide_eq_true h3
  subst h4
  exact ⟨h1, h2, rfl⟩
set_option maxHeartbeats 1600000 in
theorem spTwo_any (w : World) (B : Nat) (v vs : Value) (p c d : Int) (R S : List (List Int)) (hv : LfG w B v R) (hm : LfG w B vs S) (hB : B ≤ w.heap.size) :
    Calls Tryd.prog 57 #[.int .i64 p, .agg #[.int .i64 c, v], .agg #[.int .i64 d, vs]] w (SaysB w (twoOk p c d R S)) := by
  obtain ⟨A, cp, rfl⟩ := hv.len
  obtain ⟨As, cs, rfl⟩ := hm.len
  have HVB := Lib.hid (show Below w.heap.size w ((w.alloc (.cells #[.int .i64 c, .slice A R.length cp] tSp)).alloc (.cells #[.int .i64 d, .slice As S.length cs] tSp)) by repeat' (first | exact Below.refl _ _ | apply Below.alloc | (simp; done) | (simp; omega)))
  have HV := Lib.hid (hv.below HVB.out hB)
  have HW := Lib.hid (hm.below HVB.out hB)
  have hB0 : B ≤ ((w.alloc (.cells #[.int .i64 c, .slice A R.length cp] tSp)).alloc (.cells #[.int .i64 d, .slice As S.length cs] tSp)).heap.size := Nat.le_trans hB HVB.out.size
  have HX0 := Lib.hid ((cellsAt_new w #[.int .i64 c, .slice A R.length cp] tSp).alloc (.cells #[.int .i64 d, .slice As S.length cs] tSp))
  have HY0 := Lib.hid (cellsAt_new' (w.alloc (.cells #[.int .i64 c, .slice A R.length cp] tSp)) #[.int .i64 d, .slice As S.length cs] tSp _ (w.heap.size + 1) (by simp) rfl)
  have hsz0 : ((w.alloc (.cells #[.int .i64 c, .slice A R.length cp] tSp)).alloc (.cells #[.int .i64 d, .slice As S.length cs] tSp)).heap.size = w.heap.size + 2 := by simp
  clear hv hm
  have HOK := Lib.hid (show twoOk p c d R S = (isSp p c R && isSp p d S && decide (c = d)) from rfl)
  cases hs : isSp p c R with
  | false =>
    rw [hs] at HOK
    have HS := Lib.hid hs
    clear hs
    go_enter Tryd.func57, Tryd.ntmps57
    go_upto_region 1 with fail
    generalize ((w.alloc (.cells #[.int .i64 c, .slice A R.length cp] tSp)).alloc (.cells #[.int .i64 d, .slice As S.length cs] tSp)) = W0 at HVB HV HW hB0 HX0 HY0 hsz0 ⊢
    have hz0' : w.heap.size + 2 ≤ W0.heap.size := by omega
    clear hsz0
    obtain ⟨hx0, hx1, hxf0, hxf1, hxs⟩ := HX0.out.two
    go_wp2_with fail
    refine (spGood_any W0 B _ p c R HV.out hB0).mono ?_
    rintro e w1 ⟨rfl, b1⟩
    rw [HS.out]
    have HX1 := Lib.hid (HX0.out.below b1 hxs)
    have HY1 := Lib.hid (HY0.out.below b1 (by omega))
    have HW1 := Lib.hid (HW.out.below b1 hB0)
    have HB1 := Lib.hid (HVB.out.trans (b1.mono HVB.out.size))
    have hs1 : W0.heap.size ≤ w1.heap.size := b1.size
    have hB1 : B ≤ w1.heap.size := Nat.le_trans hB0 hs1
    clear b1 hx0 hx1 hxf0 hxf1 hxs
    go_wp2
    go_ret
    rw [HOK.out]
    exact ⟨rfl, HB1.out⟩
  | true =>
    cases hs2 : isSp p d S with
    | false =>
      rw [hs, hs2] at HOK
      have HS := Lib.hid hs
      have HS2 := Lib.hid hs2
      clear hs hs2
      go_enter Tryd.func57, Tryd.ntmps57
      go_upto_region 1 with fail
      generalize ((w.alloc (.cells #[.int .i64 c, .slice A R.length cp] tSp)).alloc (.cells #[.int .i64 d, .slice As S.length cs] tSp)) = W0 at HVB HV HW hB0 HX0 HY0 hsz0 ⊢
      have hz0' : w.heap.size + 2 ≤ W0.heap.size := by omega
      clear hsz0
      obtain ⟨hx0, hx1, hxf0, hxf1, hxs⟩ := HX0.out.two
      go_wp2_with fail
      refine (spGood_any W0 B _ p c R HV.out hB0).mono ?_
      rintro e w1 ⟨rfl, b1⟩
      rw [HS.out]
      have HX1 := Lib.hid (HX0.out.below b1 hxs)
      have HY1 := Lib.hid (HY0.out.below b1 (by omega))
      have HW1 := Lib.hid (HW.out.below b1 hB0)
      have HB1 := Lib.hid (HVB.out.trans (b1.mono HVB.out.size))
      have hs1 : W0.heap.size ≤ w1.heap.size := b1.size
      have hB1 : B ≤ w1.heap.size := Nat.le_trans hB0 hs1
      clear b1 hx0 hx1 hxf0 hxf1 hxs
      obtain ⟨hy0, hy1, hyf0, hyf1, hys⟩ := HY1.out.two
      go_wp2_with fail
      refine (spGood_any w1 B _ p d S HW1.out hB1).mono ?_
      rintro e w2 ⟨rfl, b2⟩
      rw [HS2.out]
      have HX2 := Lib.hid (HX1.out.below b2 (by omega))
      have HY2 := Lib.hid (HY1.out.below b2 (by omega))
      have HB2 := Lib.hid (HB1.out.trans (b2.mono HB1.out.size))
      clear b2 hy0 hy1 hyf0 hyf1 hys
      obtain ⟨hx0, hx1, hxf0, hxf1, hxs⟩ := HX2.out.two
      obtain ⟨hy0, hy1, hyf0, hyf1, hys⟩ := HY2.out.two
      go_wp2
      go_ret
      rw [HOK.out]
      exact ⟨rfl, HB2.out⟩
    | true =>
      rw [hs, hs2] at HOK
      have HS := Lib.hid hs
      have HS2 := Lib.hid hs2
      clear hs hs2
      by_cases hl : c = d
      · have hq : (c == d) = true := by simp [hl]
        have HD := Lib.hid (show decide (c = d) = true by simp [hl])
        clear hl
        go_enter Tryd.func57, Tryd.ntmps57
        go_upto_region 1 with fail
        generalize ((w.alloc (.cells #[.int .i64 c, .slice A R.length cp] tSp)).alloc (.cells #[.int .i64 d, .slice As S.length cs] tSp)) = W0 at HVB HV HW hB0 HX0 HY0 hsz0 ⊢
        have hz0' : w.heap.size + 2 ≤ W0.heap.size := by omega
        clear hsz0
        obtain ⟨hx0, hx1, hxf0, hxf1, hxs⟩ := HX0.out.two
        go_wp2_with fail
        refine (spGood_any W0 B _ p c R HV.out hB0).mono ?_
        rintro e w1 ⟨rfl, b1⟩
        rw [HS.out]
        have HX1 := Lib.hid (HX0.out.below b1 hxs)
        have HY1 := Lib.hid (HY0.out.below b1 (by omega))
        have HW1 := Lib.hid (HW.out.below b1 hB0)
        have HB1 := Lib.hid (HVB.out.trans (b1.mono HVB.out.size))
        have hs1 : W0.heap.size ≤ w1.heap.size := b1.size
        have hB1 : B ≤ w1.heap.size := Nat.le_trans hB0 hs1
        clear b1 hx0 hx1 hxf0 hxf1 hxs
        obtain ⟨hy0, hy1, hyf0, hyf1, hys⟩ := HY1.out.two
        go_wp2_with fail
        refine (spGood_any w1 B _ p d S HW1.out hB1).mono ?_
        rintro e w2 ⟨rfl, b2⟩
        rw [HS2.out]
        have HX2 := Lib.hid (HX1.out.below b2 (by omega))
        have HY2 := Lib.hid (HY1.out.below b2 (by omega))
        have HB2 := Lib.hid (HB1.out.trans (b2.mono HB1.out.size))
        clear b2 hy0 hy1 hyf0 hyf1 hys
        obtain ⟨hx0, hx1, hxf0, hxf1, hxs⟩ := HX2.out.two
        obtain ⟨hy0, hy1, hyf0, hyf1, hys⟩ := HY2.out.two
        go_wp2
        go_ret
        rw [HOK.out, HD.out]
        exact ⟨rfl, HB2.out⟩
      · have hq : (c == d) = false := by simp [hl]
        have HD := Lib.hid (show decide (c = d) = false by simp [hl])
        clear hl
        go_enter Tryd.func57, Tryd.ntmps57
        go_upto_region 1 with fail
        generalize ((w.alloc (.cells #[.int .i64 c, .slice A R.length cp] tSp)).alloc (.cells #[.int .i64 d, .slice As S.length cs] tSp)) = W0 at HVB HV HW hB0 HX0 HY0 hsz0 ⊢
        have hz0' : w.heap.size + 2 ≤ W0.heap.size := by omega
        clear hsz0
        obtain ⟨hx0, hx1, hxf0, hxf1, hxs⟩ := HX0.out.two
        go_wp2_with fail
        refine (spGood_any W0 B _ p c R HV.out hB0).mono ?_
        rintro e w1 ⟨rfl, b1⟩
        rw [HS.out]
        have HX1 := Lib.hid (HX0.out.below b1 hxs)
        have HY1 := Lib.hid (HY0.out.below b1 (by omega))
        have HW1 := Lib.hid (HW.out.below b1 hB0)
        have HB1 := Lib.hid (HVB.out.trans (b1.mono HVB.out.size))
        have hs1 : W0.heap.size ≤ w1.heap.size := b1.size
        have hB1 : B ≤ w1.heap.size := Nat.le_trans hB0 hs1
        clear b1 hx0 hx1 hxf0 hxf1 hxs
        obtain ⟨hy0, hy1, hyf0, hyf1, hys⟩ := HY1.out.two
        go_wp2_with fail
        refine (spGood_any w1 B _ p d S HW1.out hB1).mono ?_
        rintro e w2 ⟨rfl, b2⟩
        rw [HS2.out]
        have HX2 := Lib.hid (HX1.out.below b2 (by omega))
        have HY2 := Lib.hid (HY1.out.below b2 (by omega))
        have HB2 := Lib.hid (HB1.out.trans (b2.mono HB1.out.size))
        clear b2 hy0 hy1 hyf0 hyf1 hys
        obtain ⟨hx0, hx1, hxf0, hxf1, hxs⟩ := HX2.out.two
        obtain ⟨hy0, hy1, hyf0, hyf1, hys⟩ := HY2.out.two
        go_wp2
        go_ret
        rw [HOK.out, HD.out]
        exact ⟨rfl, HB2.out⟩
set_option maxHeartbeats 1600000 in
theorem areTwo_any (w : World) (B : Nat) (v vs : Value) (p c d : Int) (R S : List (List Int)) (ht : Tab w) (hv : LfG w B v R) (hm : LfG w B vs S) (hB : B ≤ w.heap.size) :
    Calls Tryd.prog 61 #[.int .i64 p, .agg #[.int .i64 c, v], .agg #[.int .i64 d, vs]] w (SaysB w (twoOk p c d R S)) := by
  obtain ⟨A, cp, rfl⟩ := hv.len
  obtain ⟨As, cs, rfl⟩ := hm.len
  have HVB := Lib.hid (show Below w.heap.size w ((w.alloc (.cells #[.int .i64 c, .slice A R.length cp] tSp)).alloc (.cells #[.int .i64 d, .slice As S.length cs] tSp)) by repeat' (first | exact Below.refl _ _ | apply Below.alloc | (simp; done) | (simp; omega)))
  have HV := Lib.hid (hv.below HVB.out hB)
  have HW := Lib.hid (hm.below HVB.out hB)
  have hB0 : B ≤ ((w.alloc (.cells #[.int .i64 c, .slice A R.length cp] tSp)).alloc (.cells #[.int .i64 d, .slice As S.length cs] tSp)).heap.size := Nat.le_trans hB HVB.out.size
  have HX0 := Lib.hid ((cellsAt_new w #[.int .i64 c, .slice A R.length cp] tSp).alloc (.cells #[.int .i64 d, .slice As S.length cs] tSp))
  have HY0 := Lib.hid (cellsAt_new' (w.alloc (.cells #[.int .i64 c, .slice A R.length cp] tSp)) #[.int .i64 d, .slice As S.length cs] tSp _ (w.heap.size + 1) (by simp) rfl)
  have hsz0 : ((w.alloc (.cells #[.int .i64 c, .slice A R.length cp] tSp)).alloc (.cells #[.int .i64 d, .slice As S.length cs] tSp)).heap.size = w.heap.size + 2 := by simp
  have HT := Lib.hid (ht.below HVB.out)
  clear hv hm ht
  have HOK := Lib.hid (show twoOk p c d R S = (isSp p c R && isSp p d S && decide (c = d)) from rfl)
  cases hs : isSp p c R with
  | false =>
    rw [hs] at HOK
    have HS := Lib.hid hs
    clear hs
    go_enter Tryd.func61, Tryd.ntmps61
    go_upto_region 1 with fail
    generalize ((w.alloc (.cells #[.int .i64 c, .slice A R.length cp] tSp)).alloc (.cells #[.int .i64 d, .slice As S.length cs] tSp)) = W0 at HVB HV HW hB0 HX0 HY0 HT hsz0 ⊢
    have hz0' : w.heap.size + 2 ≤ W0.heap.size := by omega
    clear hsz0
    obtain ⟨hx0, hx1, hxf0, hxf1, hxs⟩ := HX0.out.two
    go_wp2_with fail
    refine (implIsSpace_any W0 B _ p c R HT.out HV.out hB0).mono ?_
    rintro e w1 ⟨rfl, b1⟩
    rw [HS.out]
    have HX1 := Lib.hid (HX0.out.below b1 hxs)
    have HY1 := Lib.hid (HY0.out.below b1 (by omega))
    have HW1 := Lib.hid (HW.out.below b1 hB0)
    have HT1 := Lib.hid (HT.out.below b1)
    have HB1 := Lib.hid (HVB.out.trans (b1.mono HVB.out.size))
    have hs1 : W0.heap.size ≤ w1.heap.size := b1.size
    have hB1 : B ≤ w1.heap.size := Nat.le_trans hB0 hs1
    clear b1 hx0 hx1 hxf0 hxf1 hxs
    go_wp2
    go_ret
    rw [HOK.out]
    exact ⟨rfl, HB1.out⟩
  | true =>
    cases hs2 : isSp p d S with
    | false =>
      rw [hs, hs2] at HOK
      have HS := Lib.hid hs
      have HS2 := Lib.hid hs2
      clear hs hs2
      go_enter Tryd.func61, Tryd.ntmps61
      go_upto_region 1 with fail
      generalize ((w.alloc (.cells #[.int .i64 c, .slice A R.length cp] tSp)).alloc (.cells #[.int .i64 d, .slice As S.length cs] tSp)) = W0 at HVB HV HW hB0 HX0 HY0 HT hsz0 ⊢
      have hz0' : w.heap.size + 2 ≤ W0.heap.size := by omega
      clear hsz0
      obtain ⟨hx0, hx1, hxf0, hxf1, hxs⟩ := HX0.out.two
      go_wp2_with fail
      refine (implIsSpace_any W0 B _ p c R HT.out HV.out hB0).mono ?_
      rintro e w1 ⟨rfl, b1⟩
      rw [HS.out]
      have HX1 := Lib.hid (HX0.out.below b1 hxs)
      have HY1 := Lib.hid (HY0.out.below b1 (by omega))
      have HW1 := Lib.hid (HW.out.below b1 hB0)
      have HT1 := Lib.hid (HT.out.below b1)
      have HB1 := Lib.hid (HVB.out.trans (b1.mono HVB.out.size))
      have hs1 : W0.heap.size ≤ w1.heap.size := b1.size
      have hB1 : B ≤ w1.heap.size := Nat.le_trans hB0 hs1
      clear b1 hx0 hx1 hxf0 hxf1 hxs
      obtain ⟨hy0, hy1, hyf0, hyf1, hys⟩ := HY1.out.two
      go_wp2_with fail
      refine (implIsSpace_any w1 B _ p d S HT1.out HW1.out hB1).mono ?_
      rintro e w2 ⟨rfl, b2⟩
      rw [HS2.out]
      have HX2 := Lib.hid (HX1.out.below b2 (by omega))
      have HY2 := Lib.hid (HY1.out.below b2 (by omega))
      have HB2 := Lib.hid (HB1.out.trans (b2.mono HB1.out.size))
      clear b2 hy0 hy1 hyf0 hyf1 hys
      obtain ⟨hx0, hx1, hxf0, hxf1, hxs⟩ := HX2.out.two
      obtain ⟨hy0, hy1, hyf0, hyf1, hys⟩ := HY2.out.two
      go_wp2
      go_ret
      rw [HOK.out]
      exact ⟨rfl, HB2.out⟩
    | true =>
      rw [hs, hs2] at HOK
      have HS := Lib.hid hs
      have HS2 := Lib.hid hs2
      clear hs hs2
      by_cases hl : c = d
      · have hq : (c == d) = true := by simp [hl]
        have HD := Lib.hid (show decide (c = d) = true by simp [hl])
        clear hl
        go_enter Tryd.func61, Tryd.ntmps61
        go_upto_region 1 with fail
        generalize ((w.alloc (.cells #[.int .i64 c, .slice A R.length cp] tSp)).alloc (.cells #[.int .i64 d, .slice As S.length cs] tSp)) = W0 at HVB HV HW hB0 HX0 HY0 HT hsz0 ⊢
        have hz0' : w.heap.size + 2 ≤ W0.heap.size := by omega
        clear hsz0
        obtain ⟨hx0, hx1, hxf0, hxf1, hxs⟩ := HX0.out.two
        go_wp2_with fail
        refine (implIsSpace_any W0 B _ p c R HT.out HV.out hB0).mono ?_
        rintro e w1 ⟨rfl, b1⟩
        rw [HS.out]
        have HX1 := Lib.hid (HX0.out.below b1 hxs)
        have HY1 := Lib.hid (HY0.out.below b1 (by omega))
        have HW1 := Lib.hid (HW.out.below b1 hB0)
        have HT1 := Lib.hid (HT.out.below b1)
        have HB1 := Lib.hid (HVB.out.trans (b1.mono HVB.out.size))
        have hs1 : W0.heap.size ≤ w1.heap.size := b1.size
        have hB1 : B ≤ w1.heap.size := Nat.le_trans hB0 hs1
        clear b1 hx0 hx1 hxf0 hxf1 hxs
        obtain ⟨hy0, hy1, hyf0, hyf1, hys⟩ := HY1.out.two
        go_wp2_with fail
        refine (implIsSpace_any w1 B _ p d S HT1.out HW1.out hB1).mono ?_
        rintro e w2 ⟨rfl, b2⟩
        rw [HS2.out]
        have HX2 := Lib.hid (HX1.out.below b2 (by omega))
        have HY2 := Lib.hid (HY1.out.below b2 (by omega))
        have HB2 := Lib.hid (HB1.out.trans (b2.mono HB1.out.size))
        clear b2 hy0 hy1 hyf0 hyf1 hys
        obtain ⟨hx0, hx1, hxf0, hxf1, hxs⟩ := HX2.out.two
        obtain ⟨hy0, hy1, hyf0, hyf1, hys⟩ := HY2.out.two
        go_wp2
        go_ret
        rw [HOK.out, HD.out]
        exact ⟨rfl, HB2.out⟩
      · have hq : (c == d) = false := by simp [hl]
        have HD := Lib.hid (show decide (c = d) = false by simp [hl])
        clear hl
        go_enter Tryd.func61, Tryd.ntmps61
        go_upto_region 1 with fail
        generalize ((w.alloc (.cells #[.int .i64 c, .slice A R.length cp] tSp)).alloc (.cells #[.int .i64 d, .slice As S.length cs] tSp)) = W0 at HVB HV HW hB0 HX0 HY0 HT hsz0 ⊢
        have hz0' : w.heap.size + 2 ≤ W0.heap.size := by omega
        clear hsz0
        obtain ⟨hx0, hx1, hxf0, hxf1, hxs⟩ := HX0.out.two
        go_wp2_with fail
        refine (implIsSpace_any W0 B _ p c R HT.out HV.out hB0).mono ?_
        rintro e w1 ⟨rfl, b1⟩
        rw [HS.out]
        have HX1 := Lib.hid (HX0.out.below b1 hxs)
        have HY1 := Lib.hid (HY0.out.below b1 (by omega))
        have HW1 := Lib.hid (HW.out.below b1 hB0)
        have HT1 := Lib.hid (HT.out.below b1)
        have HB1 := Lib.hid (HVB.out.trans (b1.mono HVB.out.size))
        have hs1 : W0.heap.size ≤ w1.heap.size := b1.size
        have hB1 : B ≤ w1.heap.size := Nat.le_trans hB0 hs1
        clear b1 hx0 hx1 hxf0 hxf1 hxs
        obtain ⟨hy0, hy1, hyf0, hyf1, hys⟩ := HY1.out.two
        go_wp2_with fail
        refine (implIsSpace_any w1 B _ p d S HT1.out HW1.out hB1).mono ?_
        rintro e w2 ⟨rfl, b2⟩
        rw [HS2.out]
        have HX2 := Lib.hid (HX1.out.below b2 (by omega))
        have HY2 := Lib.hid (HY1.out.below b2 (by omega))
        have HB2 := Lib.hid (HB1.out.trans (b2.mono HB1.out.size))
        clear b2 hy0 hy1 hyf0 hyf1 hys
        obtain ⟨hx0, hx1, hxf0, hxf1, hxs⟩ := HX2.out.two
        obtain ⟨hy0, hy1, hyf0, hyf1, hys⟩ := HY2.out.two
        go_wp2
        go_ret
        rw [HOK.out, HD.out]
        exact ⟨rfl, HB2.out⟩
end Go.Proofs.YtahlicbjbbpihaaDoor
