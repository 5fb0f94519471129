/- Determinants, inverse matrices and reductions: both sides. -/
import Derived.Test.YtgncgihneemmcaaDoorMxRk
import Derived.Test.YtgncgihneemmcaaDoorRetMatrixB
import Derived.Test.YtgncgihneemmcaaDoorRetMatrixMatrixB
import Derived.BigRegion
namespace Go.Proofs.YtgncgihneemmcaaDoor
set_option maxRecDepth 100000
open Go Go.RowKit Go.Deep

theorem cell_alloc_lt {w : World} {a : Addr} (o : Obj) (h : a.block < w.heap.size) : (w.alloc o).cell? a = w.cell? a := World.cell?_of_block (w := w) (blk_alloc_lt _ _ _ h)
theorem drew_heap (w : World) : w.drew.heap = w.heap := rfl
theorem sq_parts {p c : Int} {rows : List (List Int)} (h : isSq p c rows = true) : fld p = true ∧ rows.length ≤ 24 ∧ ∃ n : Nat, c = n ∧ rows.length = n ∧ Mat p n n rows := by
  unfold isSq at h
  simp only [Bool.and_eq_true, decide_eq_true_eq] at h
  obtain ⟨h1, h2⟩ := h
  obtain ⟨hf, hn, c', rfl, hc, hm⟩ := (isMat_iff _ _ _).1 h1
  have e : rows.length = c' := by omega
  rw [e] at hm
  exact ⟨hf, hn, c', rfl, e, hm⟩
def sqR (p c : Int) (rows : List (List Int)) : Red := red p rows (idRows c.toNat) c.toNat
/-- DeterminantOf. -/
def detV (p c : Int) (rows : List (List Int)) : Int := if isSq p c rows then (if (sqR p c rows).lead.length < c.toNat then 0 else (sqR p c rows).det) else 0
theorem det_no {p c : Int} {rows : List (List Int)} (h : isSq p c rows = false) : detV p c rows = 0 := by simp [detV, h]
theorem det_low {p : Int} {n : Nat} {rows : List (List Int)} (h : isSq p n rows = true) (hr : (red p rows (idRows n) n).lead.length < n) : detV p n rows = 0 := by
  unfold detV sqR
  rw [if_pos h, Int.toNat_natCast, if_pos hr]
theorem det_full {p : Int} {n : Nat} {rows : List (List Int)} (h : isSq p n rows = true) (hr : ¬ (red p rows (idRows n) n).lead.length < n) : detV p n rows = (red p rows (idRows n) n).det := by
  unfold detV sqR
  rw [if_pos h, Int.toNat_natCast, if_neg hr]
/-- The factor of all operations is the inverse of the determinant. -/
theorem fac_inv {p : Int} (hf : fld p = true) {n c w col : Nat} {s : Red} (h : RInv p n c w col s) : inv p s.fac = s.det := by
  have h0 := h.det0
  exact (inv_unique hf h.fac0.1 h.fac0.2 (by omega) h0.2 (by rw [Int.mul_comm]; exact h.inv)).symm
/-- InverseOf. -/
def invOk (p c : Int) (rows : List (List Int)) : Bool := isSq p c rows && !decide ((sqR p c rows).lead.length < c.toNat)
def invC (p c : Int) (rows : List (List Int)) : Int := if invOk p c rows then c else 0
def invR (p c : Int) (rows : List (List Int)) : List (List Int) := if invOk p c rows then (sqR p c rows).t else []
theorem inv_no {p c : Int} {rows : List (List Int)} (h : invOk p c rows = false) : invC p c rows = 0 ∧ invR p c rows = [] := by simp [invC, invR, h]
theorem invOk_sq {p c : Int} {rows : List (List Int)} (h : isSq p c rows = false) : invOk p c rows = false := by simp [invOk, h]
theorem invOk_low {p : Int} {n : Nat} {rows : List (List Int)} (hr : (red p rows (idRows n) n).lead.length < n) : invOk p n rows = false := by
  unfold invOk sqR
  rw [Int.toNat_natCast]
  simp [hr]
theorem inv_yes {p : Int} {n : Nat} {rows : List (List Int)} (h : isSq p n rows = true) (hr : ¬ (red p rows (idRows n) n).lead.length < n) : invOk p n rows = true ∧ invC p n rows = n ∧ invR p n rows = (red p rows (idRows n) n).t := by
  have e : invOk p n rows = true := by
    unfold invOk sqR
    rw [Int.toNat_natCast, h]
    simp [hr]
  refine ⟨e, by simp [invC, e], ?_⟩
  unfold invR sqR
  rw [if_pos e, Int.toNat_natCast]
/-- RowReduce. -/
def rowC (p c : Int) (rows : List (List Int)) : Int := if isMat p c rows then c else 0
def rowN (p c : Int) (rows : List (List Int)) : Int := if isMat p c rows then rows.length else 0
def rowA (p c : Int) (rows : List (List Int)) : List (List Int) := if isMat p c rows then (red p rows (idRows rows.length) c.toNat).a else []
def rowT (p c : Int) (rows : List (List Int)) : List (List Int) := if isMat p c rows then (red p rows (idRows rows.length) c.toNat).t else []
theorem row_no {p c : Int} {rows : List (List Int)} (h : isMat p c rows = false) : rowC p c rows = 0 ∧ rowA p c rows = [] ∧ rowN p c rows = 0 ∧ rowT p c rows = [] := by simp [rowC, rowN, rowA, rowT, h]
theorem row_yes {p : Int} {c : Nat} {rows : List (List Int)} (h : isMat p c rows = true) : rowC p c rows = c ∧ rowA p c rows = (red p rows (idRows rows.length) c).a ∧ rowN p c rows = rows.length ∧ rowT p c rows = (red p rows (idRows rows.length) c).t := by simp [rowC, rowN, rowA, rowT, h]
set_option maxHeartbeats 3200000 in
theorem spec_DeterminantOf (w : World) (B : Nat) (v : Value) (p c : Int) (rows : List (List Int)) (hv : LfG w B v rows) (hB : B ≤ w.heap.size) (_hs : szG rows ≤ 1048576) :
    Calls Tryd.prog 25 #[.int .i64 p, .agg #[.int .i64 c, v]] w (SRetIB w (detV p c rows) (isSq p c rows)) := by
  obtain ⟨A, cp, rfl⟩ := hv.len
  have HVB := Lib.hid (show Below w.heap.size w (w.alloc (.cells #[.int .i64 c, .slice A rows.length cp] tM)) by repeat' (first | exact Below.refl _ _ | apply Below.alloc | (simp; done) | (simp; omega)))
  have HV := Lib.hid (hv.below HVB.out hB)
  have hB0 : B ≤ (w.alloc (.cells #[.int .i64 c, .slice A rows.length cp] tM)).heap.size := Nat.le_trans hB HVB.out.size
  have HB := Lib.hid hB
  clear hv hB
  cases hm : isSq p c rows with
  | false =>
    have HM := Lib.hid hm
    clear hm
    go_enter Tryd.func25, Tryd.ntmps25
    go_wp2_with fail
    refine (mxSquare_any _ B _ p c rows HV.out hB0).mono ?_
    rintro e w1 ⟨rfl, b⟩
    rw [HM.out]
    have HB1 := Lib.hid (boxes1 b rfl).2
    clear b
    go_wp2
    go_ret2
    rw [det_no HM.out]
    exact ⟨rfl, HB1.out⟩
  | true =>
    obtain ⟨hf, hn24, n, rfl, hnl, hmat⟩ := sq_parts hm
    have HM := Lib.hid hm
    have HF := Lib.hid hf
    have HMM := Lib.hid hmat
    have hn : n ≤ 24 := by omega
    have HFI := Lib.hid (fac_inv hf (red_inv hf hmat (idRows_mat (fld_bd hf).1 n) n (Nat.le_refl n)))
    have HIN := Lib.hid (red_inv hf hmat (idRows_mat (fld_bd hf).1 n) n (Nat.le_refl n))
    obtain ⟨h1, h2⟩ := fld_bd hf
    have HNL := Lib.hid hnl
    clear hm hf hmat hnl
    by_cases hrk : (red p rows (idRows n) n).lead.length < n
    · have HV0 := Lib.hid (det_low HM.out hrk)
      go_enter Tryd.func25, Tryd.ntmps25
      go_wp2_with fail
      refine (mxSquare_any _ B _ p _ rows HV.out hB0).mono ?_
      rintro e w1 ⟨rfl, b⟩
      rw [HM.out]
      obtain ⟨xa, xn⟩ := boxes1 b rfl
      have HX := Lib.hid xa
      have HBN := Lib.hid xn
      have HV1 := Lib.hid (HV.out.1.below b (by have := hB0; omega))
      have hs1 : B ≤ w1.heap.size := Nat.le_trans hB0 b.size
      have hz1 : w.heap.size + 1 ≤ w1.heap.size := by have := b.size; simp at this; omega
      clear b xa xn
      obtain ⟨hx0, hx1, hxf0, hxf1, hxs⟩ := HX.out.two
      go_wp2_with fail
      refine (mxReduce_any w1 B _ p n n rows HV1.out hs1 HF.out HMM.out (by omega) (by omega)).mono ?_
      rintro e w2 ⟨v1, v2, S1, S2, rfl, b2, o1, o2, hS1, hS2⟩
      obtain ⟨A1, c1, rfl⟩ := OwG.len o1
      obtain ⟨A2, c2, rfl⟩ := OwG.len o2
      generalize red p rows (idRows n) n = s at o1 o2 HV0 HFI HIN hrk ⊢
      have hdb := HIN.out.det0
      have hfb := HIN.out.fac0
      clear o1 o2
      have HX2 := Lib.hid (HX.out.below b2 HX.out.lt)
      clear hx0 hx1 hxf0 hxf1 hxs
      obtain ⟨hx0, hx1, hxf0, hxf1, hxs⟩ := HX2.out.two
      have HB2 := Lib.hid (HBN.out.trans (b2.mono HBN.out.size))
      have hz2 : w1.heap.size ≤ w2.heap.size := b2.size
      clear b2
      have hrkI : (s.lead.length : Int) < (n : Int) := by omega
      go_wp2
      go_ret2
      rw [HV0.out]
      exact ⟨rfl, (by refine Below.trans HB2.out ?_; repeat' (first | exact Below.refl _ _ | apply Below.drew | apply Below.setCell | apply Below.alloc | (simp; done) | omega | (simp; omega)))⟩
    · have HV0 := Lib.hid (det_full HM.out hrk)
      go_enter Tryd.func25, Tryd.ntmps25
      go_wp2_with fail
      refine (mxSquare_any _ B _ p _ rows HV.out hB0).mono ?_
      rintro e w1 ⟨rfl, b⟩
      rw [HM.out]
      obtain ⟨xa, xn⟩ := boxes1 b rfl
      have HX := Lib.hid xa
      have HBN := Lib.hid xn
      have HV1 := Lib.hid (HV.out.1.below b (by have := hB0; omega))
      have hs1 : B ≤ w1.heap.size := Nat.le_trans hB0 b.size
      have hz1 : w.heap.size + 1 ≤ w1.heap.size := by have := b.size; simp at this; omega
      clear b xa xn
      obtain ⟨hx0, hx1, hxf0, hxf1, hxs⟩ := HX.out.two
      go_wp2_with fail
      refine (mxReduce_any w1 B _ p n n rows HV1.out hs1 HF.out HMM.out (by omega) (by omega)).mono ?_
      rintro e w2 ⟨v1, v2, S1, S2, rfl, b2, o1, o2, hS1, hS2⟩
      obtain ⟨A1, c1, rfl⟩ := OwG.len o1
      obtain ⟨A2, c2, rfl⟩ := OwG.len o2
      generalize red p rows (idRows n) n = s at o1 o2 HV0 HFI HIN hrk ⊢
      have hdb := HIN.out.det0
      have hfb := HIN.out.fac0
      clear o1 o2
      have HX2 := Lib.hid (HX.out.below b2 HX.out.lt)
      clear hx0 hx1 hxf0 hxf1 hxs
      obtain ⟨hx0, hx1, hxf0, hxf1, hxs⟩ := HX2.out.two
      have HB2 := Lib.hid (HBN.out.trans (b2.mono HBN.out.size))
      have hz2 : w1.heap.size ≤ w2.heap.size := b2.size
      clear b2
      have hrkI : ¬ (s.lead.length : Int) < (n : Int) := by omega
      have hrkB : decide ((s.lead.length : Int) < (n : Int)) = false := by simp; omega
      go_wp2
      go_ret2
      rw [HV0.out]
      exact ⟨rfl, (by refine Below.trans HB2.out ?_; repeat' (first | exact Below.refl _ _ | apply Below.drew | apply Below.setCell | apply Below.alloc | (simp; done) | omega | (simp; omega)))⟩
set_option maxHeartbeats 3200000 in
theorem impl_DeterminantOf (w : World) (B : Nat) (v : Value) (p c : Int) (rows : List (List Int)) (ht : Tab w) (hv : LfG w B v rows) (hB : B ≤ w.heap.size) (_hs : szG rows ≤ 1048576) :
    Calls Tryd.prog 26 #[.int .i64 p, .agg #[.int .i64 c, v]] w (IRetIB w (detV p c rows) (isSq p c rows)) := by
  obtain ⟨A, cp, rfl⟩ := hv.len
  have HVB := Lib.hid (show Below w.heap.size w (w.alloc (.cells #[.int .i64 c, .slice A rows.length cp] tM)) by repeat' (first | exact Below.refl _ _ | apply Below.alloc | (simp; done) | (simp; omega)))
  have HV := Lib.hid (hv.below HVB.out hB)
  have hB0 : B ≤ (w.alloc (.cells #[.int .i64 c, .slice A rows.length cp] tM)).heap.size := Nat.le_trans hB HVB.out.size
  have HB := Lib.hid hB
  have HT := Lib.hid (show Tab (w.alloc (.cells #[.int .i64 c, .slice A rows.length cp] tM)) from ht.below HVB.out)
  clear ht
  clear hv hB
  cases hm : isSq p c rows with
  | false =>
    have HM := Lib.hid hm
    clear hm
    go_enter Tryd.func26, Tryd.ntmps26
    go_wp2_with fail
    refine (isSquareMatrix_any _ B _ p c rows HT.out HV.out hB0).mono ?_
    rintro e w1 ⟨rfl, b⟩
    rw [HM.out]
    have HB1 := Lib.hid (boxes1 b rfl).2
    clear b
    go_wp2
    go_ret2
    rw [det_no HM.out]
    exact ⟨rfl, HB1.out⟩
  | true =>
    obtain ⟨hf, hn24, n, rfl, hnl, hmat⟩ := sq_parts hm
    have HM := Lib.hid hm
    have HF := Lib.hid hf
    have HMM := Lib.hid hmat
    have hn : n ≤ 24 := by omega
    have HFI := Lib.hid (fac_inv hf (red_inv hf hmat (idRows_mat (fld_bd hf).1 n) n (Nat.le_refl n)))
    have HIN := Lib.hid (red_inv hf hmat (idRows_mat (fld_bd hf).1 n) n (Nat.le_refl n))
    obtain ⟨h1, h2⟩ := fld_bd hf
    have HNL := Lib.hid hnl
    clear hm hf hmat hnl
    by_cases hrk : (red p rows (idRows n) n).lead.length < n
    · have HV0 := Lib.hid (det_low HM.out hrk)
      go_enter Tryd.func26, Tryd.ntmps26
      go_wp2_with fail
      refine (isSquareMatrix_any _ B _ p _ rows HT.out HV.out hB0).mono ?_
      rintro e w1 ⟨rfl, b⟩
      rw [HM.out]
      obtain ⟨xa, xn⟩ := boxes1 b rfl
      have HX := Lib.hid xa
      have HBN := Lib.hid xn
      have HV1 := Lib.hid (HV.out.1.below b (by have := hB0; omega))
      have hs1 : B ≤ w1.heap.size := Nat.le_trans hB0 b.size
      have hz1 : w.heap.size + 1 ≤ w1.heap.size := by have := b.size; simp at this; omega
      clear b xa xn
      obtain ⟨hx0, hx1, hxf0, hxf1, hxs⟩ := HX.out.two
      go_wp2_with fail
      refine (reduceMatrix_any w1 B _ p n n rows HV1.out hs1 HF.out HMM.out (by omega) (by omega)).mono ?_
      rintro e w2 ⟨A1, c1, A2, c2, A3, c3, S1, S2, rfl, b2, hS1, hS2, hS12, o1, o2, -⟩
      generalize red p rows (idRows n) n = s at o1 o2 HV0 HFI HIN hrk ⊢
      have hdb := HIN.out.det0
      have hfb := HIN.out.fac0
      clear o1 o2
      have HX2 := Lib.hid (HX.out.below b2 HX.out.lt)
      clear hx0 hx1 hxf0 hxf1 hxs
      obtain ⟨hx0, hx1, hxf0, hxf1, hxs⟩ := HX2.out.two
      have HB2 := Lib.hid (HBN.out.trans (b2.mono HBN.out.size))
      have hz2 : w1.heap.size ≤ w2.heap.size := b2.size
      clear b2
      have hrkI : (s.lead.length : Int) < (n : Int) := by omega
      go_wp2
      go_ret2
      rw [HV0.out]
      exact ⟨rfl, (by refine Below.trans HB2.out ?_; repeat' (first | exact Below.refl _ _ | apply Below.drew | apply Below.setCell | apply Below.alloc | (simp; done) | omega | (simp; omega)))⟩
    · have HV0 := Lib.hid (det_full HM.out hrk)
      go_enter Tryd.func26, Tryd.ntmps26
      go_wp2_with fail
      refine (isSquareMatrix_any _ B _ p _ rows HT.out HV.out hB0).mono ?_
      rintro e w1 ⟨rfl, b⟩
      rw [HM.out]
      obtain ⟨xa, xn⟩ := boxes1 b rfl
      have HX := Lib.hid xa
      have HBN := Lib.hid xn
      have HV1 := Lib.hid (HV.out.1.below b (by have := hB0; omega))
      have hs1 : B ≤ w1.heap.size := Nat.le_trans hB0 b.size
      have hz1 : w.heap.size + 1 ≤ w1.heap.size := by have := b.size; simp at this; omega
      clear b xa xn
      obtain ⟨hx0, hx1, hxf0, hxf1, hxs⟩ := HX.out.two
      go_wp2_with fail
      refine (reduceMatrix_any w1 B _ p n n rows HV1.out hs1 HF.out HMM.out (by omega) (by omega)).mono ?_
      rintro e w2 ⟨A1, c1, A2, c2, A3, c3, S1, S2, rfl, b2, hS1, hS2, hS12, o1, o2, -⟩
      generalize red p rows (idRows n) n = s at o1 o2 HV0 HFI HIN hrk ⊢
      have hdb := HIN.out.det0
      have hfb := HIN.out.fac0
      clear o1 o2
      have HX2 := Lib.hid (HX.out.below b2 HX.out.lt)
      clear hx0 hx1 hxf0 hxf1 hxs
      obtain ⟨hx0, hx1, hxf0, hxf1, hxs⟩ := HX2.out.two
      have HB2 := Lib.hid (HBN.out.trans (b2.mono HBN.out.size))
      have hz2 : w1.heap.size ≤ w2.heap.size := b2.size
      clear b2
      have hrkI : ¬ (s.lead.length : Int) < (n : Int) := by omega
      have hrkB : decide ((s.lead.length : Int) < (n : Int)) = false := by simp; omega
      go_wp2_with fail
      refine (inverseIn_any p s.fac _ h1 h2 (by omega) hfb.2).mono ?_
      rintro e w3 ⟨rfl, hw3⟩
      rw [HFI.out]
      subst hw3
      go_wp2
      go_ret2
      rw [HV0.out]
      exact ⟨rfl, (by refine Below.trans HB2.out ?_; repeat' (first | exact Below.refl _ _ | apply Below.drew | apply Below.setCell | apply Below.alloc | (simp; done) | omega | (simp; omega)))⟩
set_option maxHeartbeats 3200000 in
theorem impl_InverseOf (w : World) (B : Nat) (v : Value) (p c : Int) (rows : List (List Int)) (ht : Tab w) (hv : LfG w B v rows) (hB : B ≤ w.heap.size) (_hs : szG rows ≤ 1048576) :
    Calls Tryd.prog 24 #[.int .i64 p, .agg #[.int .i64 c, v]] w (IRetMatrixB w (invC p c rows) (invR p c rows) (invOk p c rows)) := by
  obtain ⟨A, cp, rfl⟩ := hv.len
  have HVB := Lib.hid (show Below w.heap.size w ((w.alloc (.cells #[.int .i64 c, .slice A rows.length cp] tM)).alloc (.cells #[.int .i64 0, .slice none 0 0] tM)) by repeat' (first | exact Below.refl _ _ | apply Below.alloc | (simp; done) | (simp; omega)))
  have HV := Lib.hid (hv.below HVB.out hB)
  have hB0 : B ≤ ((w.alloc (.cells #[.int .i64 c, .slice A rows.length cp] tM)).alloc (.cells #[.int .i64 0, .slice none 0 0] tM)).heap.size := Nat.le_trans hB HVB.out.size
  have HB := Lib.hid hB
  have HT := Lib.hid (show Tab ((w.alloc (.cells #[.int .i64 c, .slice A rows.length cp] tM)).alloc (.cells #[.int .i64 0, .slice none 0 0] tM)) from ht.below HVB.out)
  clear ht
  clear hv hB
  cases hm : isSq p c rows with
  | false =>
    have HM := Lib.hid hm
    have HOK := Lib.hid (invOk_sq hm)
    clear hm
    go_enter Tryd.func24, Tryd.ntmps24
    go_wp2_with fail
    refine (isSquareMatrix_any _ B _ p c rows HT.out HV.out hB0).mono ?_
    rintro e w1 ⟨rfl, b⟩
    rw [HM.out]
    obtain ⟨xa, xr, xn⟩ := boxes2 b rfl
    have HR := Lib.hid xr
    have HX := Lib.hid xa
    have HBN := Lib.hid xn
    have HV1 := Lib.hid (HV.out.1.below b (by have := hB0; omega))
    have hs1 : B ≤ w1.heap.size := Nat.le_trans hB0 b.size
    have hz1 : w.heap.size + 2 ≤ w1.heap.size := by have := b.size; simp at this; omega
    clear b xa xn xr
    obtain ⟨hx0, hx1, hxf0, hxf1, hxs⟩ := HX.out.two
    obtain ⟨hr0, hr1, hrf0, hrf1, hrs⟩ := HR.out.two
    go_wp2
    refine bodyPost_ret (v := .tuple #[.agg #[.int .i64 0, .slice none 0 0], .bool false]) (by simp [results, Tryd.results24, go_sem, hr0, hr1]) rfl ?_
    rw [(inv_no HOK.out).1, (inv_no HOK.out).2, HOK.out]
    exact ⟨_, rfl, (by refine Below.trans HBN.out ?_; repeat' (first | exact Below.refl _ _ | apply Below.drew | apply Below.setCell | apply Below.alloc | (simp; done) | omega | (simp; omega))), ⟨none, 0, rfl, Or.inl rfl⟩, by simp [szG, tot]⟩
  | true =>
    obtain ⟨hf, hn24, n, rfl, hnl, hmat⟩ := sq_parts hm
    have HM := Lib.hid hm
    have HF := Lib.hid hf
    have HMM := Lib.hid hmat
    have hn : n ≤ 24 := by omega
    have HIN := Lib.hid (red_inv hf hmat (idRows_mat (fld_bd hf).1 n) n (Nat.le_refl n))
    have HNL := Lib.hid hnl
    clear hm hf hmat hnl
    by_cases hrk : (red p rows (idRows n) n).lead.length < n
    · have HOK := Lib.hid (invOk_low hrk)
      go_enter Tryd.func24, Tryd.ntmps24
      go_wp2_with fail
      refine (isSquareMatrix_any _ B _ p _ rows HT.out HV.out hB0).mono ?_
      rintro e w1 ⟨rfl, b⟩
      rw [HM.out]
      obtain ⟨xa, xr, xn⟩ := boxes2 b rfl
      have HR := Lib.hid xr
      have HX := Lib.hid xa
      have HBN := Lib.hid xn
      have HV1 := Lib.hid (HV.out.1.below b (by have := hB0; omega))
      have hs1 : B ≤ w1.heap.size := Nat.le_trans hB0 b.size
      have hz1 : w.heap.size + 2 ≤ w1.heap.size := by have := b.size; simp at this; omega
      clear b xa xn xr
      obtain ⟨hx0, hx1, hxf0, hxf1, hxs⟩ := HX.out.two
      obtain ⟨hr0, hr1, hrf0, hrf1, hrs⟩ := HR.out.two
      go_wp2_with fail
      refine (reduceMatrix_any w1 B _ p n n rows HV1.out hs1 HF.out HMM.out (by omega) (by omega)).mono ?_
      rintro e w2 ⟨A1, c1, A2, c2, A3, c3, S1, S2, rfl, b2, hS1, hS2, hS12, o1, o2, -⟩
      generalize red p rows (idRows n) n = s at o1 o2  HIN hrk ⊢
      have HO2 := Lib.hid (OwG.mono (T := fun k => w1.heap.size ≤ k ∧ k < w2.heap.size) o2 (fun k h1 h2 => ⟨hS2 k h1, h2⟩))
      clear o1 o2 hS1 hS2 hS12
      have HX2 := Lib.hid (HX.out.below b2 HX.out.lt)
      clear hx0 hx1 hxf0 hxf1 hxs
      obtain ⟨hx0, hx1, hxf0, hxf1, hxs⟩ := HX2.out.two
      have HS2 := Lib.hid (HR.out.below b2 HR.out.lt)
      clear hr0 hr1 hrf0 hrf1 hrs
      obtain ⟨hr0, hr1, hrf0, hrf1, hrs⟩ := HS2.out.two
      have HB2 := Lib.hid (HBN.out.trans (b2.mono HBN.out.size))
      have hz2 : w1.heap.size ≤ w2.heap.size := b2.size
      clear b2
      have hrkI : (s.lead.length : Int) < (n : Int) := by omega
      go_wp2
      refine bodyPost_ret (v := .tuple #[.agg #[.int .i64 0, .slice none 0 0], .bool false]) (by simp [results, Tryd.results24, go_sem, hr0, hr1, cell_alloc_lt, hrs]) rfl ?_
      rw [(inv_no HOK.out).1, (inv_no HOK.out).2, HOK.out]
      exact ⟨_, rfl, (by refine Below.trans HB2.out ?_; repeat' (first | exact Below.refl _ _ | apply Below.drew | apply Below.setCell | apply Below.alloc | (simp; done) | omega | (simp; omega))), ⟨none, 0, rfl, Or.inl rfl⟩, by simp [szG, tot]⟩
    · have HYES := Lib.hid (inv_yes HM.out hrk)
      go_enter Tryd.func24, Tryd.ntmps24
      go_wp2_with fail
      refine (isSquareMatrix_any _ B _ p _ rows HT.out HV.out hB0).mono ?_
      rintro e w1 ⟨rfl, b⟩
      rw [HM.out]
      obtain ⟨xa, xr, xn⟩ := boxes2 b rfl
      have HR := Lib.hid xr
      have HX := Lib.hid xa
      have HBN := Lib.hid xn
      have HV1 := Lib.hid (HV.out.1.below b (by have := hB0; omega))
      have hs1 : B ≤ w1.heap.size := Nat.le_trans hB0 b.size
      have hz1 : w.heap.size + 2 ≤ w1.heap.size := by have := b.size; simp at this; omega
      clear b xa xn xr
      obtain ⟨hx0, hx1, hxf0, hxf1, hxs⟩ := HX.out.two
      obtain ⟨hr0, hr1, hrf0, hrf1, hrs⟩ := HR.out.two
      go_wp2_with fail
      refine (reduceMatrix_any w1 B _ p n n rows HV1.out hs1 HF.out HMM.out (by omega) (by omega)).mono ?_
      rintro e w2 ⟨A1, c1, A2, c2, A3, c3, S1, S2, rfl, b2, hS1, hS2, hS12, o1, o2, -⟩
      generalize red p rows (idRows n) n = s at o1 o2 HYES HIN hrk ⊢
      have HO2 := Lib.hid (OwG.mono (T := fun k => w1.heap.size ≤ k ∧ k < w2.heap.size) o2 (fun k h1 h2 => ⟨hS2 k h1, h2⟩))
      clear o1 o2 hS1 hS2 hS12
      have HX2 := Lib.hid (HX.out.below b2 HX.out.lt)
      clear hx0 hx1 hxf0 hxf1 hxs
      obtain ⟨hx0, hx1, hxf0, hxf1, hxs⟩ := HX2.out.two
      have HS2 := Lib.hid (HR.out.below b2 HR.out.lt)
      clear hr0 hr1 hrf0 hrf1 hrs
      obtain ⟨hr0, hr1, hrf0, hrf1, hrs⟩ := HS2.out.two
      have HB2 := Lib.hid (HBN.out.trans (b2.mono HBN.out.size))
      have hz2 : w1.heap.size ≤ w2.heap.size := b2.size
      clear b2
      have hrkI : ¬ (s.lead.length : Int) < (n : Int) := by omega
      have hrkB : decide ((s.lead.length : Int) < (n : Int)) = false := by simp; omega
      go_wp2
      refine bodyPost_ret (v := .tuple #[.agg #[.int .i64 n, .slice A2 n c2], .bool true]) (by simp [results, Tryd.results24, go_sem, hr0, hr1, cell_alloc_lt, hrs]) rfl ?_
      rw [HYES.out.1, HYES.out.2.1, HYES.out.2.2]
      refine ⟨_, rfl, (by refine Below.trans HB2.out ?_; repeat' (first | exact Below.refl _ _ | apply Below.drew | apply Below.setCell | apply Below.alloc | (simp; done) | omega | (simp; omega))), (HO2.out.blocks (fun k hk _ => ?_)).mono (fun k hk _ => by omega), addM_sz hn hn HIN.out.t⟩
      repeat first | rw [drew_heap] | rw [blk_setCell_other _ _ _ _ (by dsimp only; omega)] | rw [blk_alloc_lt _ _ _ (by simp; omega)]
set_option maxHeartbeats 3200000 in
theorem spec_RowReduce (w : World) (B : Nat) (v : Value) (p c : Int) (rows : List (List Int)) (hv : LfG w B v rows) (hB : B ≤ w.heap.size) (_hs : szG rows ≤ 1048576) :
    Calls Tryd.prog 15 #[.int .i64 p, .agg #[.int .i64 c, v]] w (SRetMatrixMatrixB w (rowC p c rows) (rowA p c rows) (rowN p c rows) (rowT p c rows) (isMat p c rows)) := by
  obtain ⟨A, cp, rfl⟩ := hv.len
  have HVB := Lib.hid (show Below w.heap.size w (((w.alloc (.cells #[.int .i64 c, .slice A rows.length cp] tM)).alloc (.cells #[.int .i64 0, .slice none 0 0] tM)).alloc (.cells #[.int .i64 0, .slice none 0 0] tM)) by repeat' (first | exact Below.refl _ _ | apply Below.alloc | (simp; done) | (simp; omega)))
  have HV := Lib.hid (hv.below HVB.out hB)
  have hB0 : B ≤ (((w.alloc (.cells #[.int .i64 c, .slice A rows.length cp] tM)).alloc (.cells #[.int .i64 0, .slice none 0 0] tM)).alloc (.cells #[.int .i64 0, .slice none 0 0] tM)).heap.size := Nat.le_trans hB HVB.out.size
  have HB := Lib.hid hB
  clear hv hB
  cases hm : isMat p c rows with
  | false =>
    have HM := Lib.hid hm
    clear hm
    go_enter Tryd.func15, Tryd.ntmps15
    go_wp2_with fail
    refine (mxGood_any _ B _ p c rows HV.out.1 hB0 HV.out.2.1 HV.out.2.2).mono ?_
    rintro e w1 ⟨rfl, b⟩
    rw [HM.out]
    obtain ⟨xa, xr, xr2, xn⟩ := boxes3 b rfl
    have HR := Lib.hid xr
    have HR2 := Lib.hid xr2
    have HX := Lib.hid xa
    have HBN := Lib.hid xn
    have HV1 := Lib.hid (HV.out.1.below b (by have := hB0; omega))
    have hs1 : B ≤ w1.heap.size := Nat.le_trans hB0 b.size
    have hz1 : w.heap.size + 3 ≤ w1.heap.size := by have := b.size; simp at this; omega
    clear b xa xn xr xr2
    obtain ⟨hx0, hx1, hxf0, hxf1, hxs⟩ := HX.out.two
    obtain ⟨hr0, hr1, hrf0, hrf1, hrs⟩ := HR.out.two
    obtain ⟨hq0, hq1, hqf0, hqf1, hqs⟩ := HR2.out.two
    go_wp2
    refine bodyPost_ret (v := .tuple #[.agg #[.int .i64 0, .slice none 0 0], .agg #[.int .i64 0, .slice none 0 0], .bool false]) (by simp [results, Tryd.results15, go_sem, hr0, hr1, hq0, hq1]) rfl ?_
    rw [(row_no HM.out).1, (row_no HM.out).2.1, (row_no HM.out).2.2.1, (row_no HM.out).2.2.2]
    exact ⟨_, _, rfl, (by refine Below.trans HBN.out ?_; repeat' (first | exact Below.refl _ _ | apply Below.drew | apply Below.setCell | apply Below.alloc | (simp; done) | omega | (simp; omega))), ⟨⟨none, 0, rfl, Or.inl rfl⟩, by simp [szG, tot]⟩, ⟨⟨none, 0, rfl, Or.inl rfl⟩, by simp [szG, tot]⟩⟩
  | true =>
    obtain ⟨hf, hn24, c', rfl, hc24, hmat⟩ := (isMat_iff _ _ _).1 hm
    have HM := Lib.hid hm
    have HF := Lib.hid hf
    have HMM := Lib.hid hmat
    have HIN := Lib.hid (red_inv hf hmat (idRows_mat (fld_bd hf).1 rows.length) c' (Nat.le_refl c'))
    have HYES := Lib.hid (row_yes hm)
    clear hm hf hmat
    go_enter Tryd.func15, Tryd.ntmps15
    go_wp2_with fail
    refine (mxGood_any _ B _ p _ rows HV.out.1 hB0 HV.out.2.1 HV.out.2.2).mono ?_
    rintro e w1 ⟨rfl, b⟩
    rw [HM.out]
    obtain ⟨xa, xr, xr2, xn⟩ := boxes3 b rfl
    have HR := Lib.hid xr
    have HR2 := Lib.hid xr2
    have HX := Lib.hid xa
    have HBN := Lib.hid xn
    have HV1 := Lib.hid (HV.out.1.below b (by have := hB0; omega))
    have hs1 : B ≤ w1.heap.size := Nat.le_trans hB0 b.size
    have hz1 : w.heap.size + 3 ≤ w1.heap.size := by have := b.size; simp at this; omega
    clear b xa xn xr xr2
    obtain ⟨hx0, hx1, hxf0, hxf1, hxs⟩ := HX.out.two
    obtain ⟨hr0, hr1, hrf0, hrf1, hrs⟩ := HR.out.two
    obtain ⟨hq0, hq1, hqf0, hqf1, hqs⟩ := HR2.out.two
    go_wp2_with fail
    refine (mxReduce_any w1 B _ p rows.length c' rows HV1.out hs1 HF.out HMM.out (by omega) (by omega)).mono ?_
    rintro e w2 ⟨v1, v2, S1, S2, rfl, b2, o1, o2, hS1, hS2⟩
    obtain ⟨A1, c1, rfl⟩ := OwG.len o1
    obtain ⟨A2, c2, rfl⟩ := OwG.len o2
    generalize red p rows (idRows rows.length) c' = s at o1 o2 HYES HIN ⊢
    have hla := HIN.out.a.1
    have hlt := HIN.out.t.1
    rw [hla] at o1 ⊢
    rw [hlt] at o2 ⊢
    have HLA := Lib.hid hla
    have HLT := Lib.hid hlt
    clear hla hlt
    have HO1 := Lib.hid (OwG.mono (T := fun k => S1 k ∧ w1.heap.size ≤ k ∧ k < w2.heap.size) o1 (fun k h1 h2 => ⟨h1, (hS1 k h1).1, h2⟩))
    have HO2 := Lib.hid (OwG.mono (T := fun k => S2 k ∧ w1.heap.size ≤ k ∧ k < w2.heap.size) o2 (fun k h1 h2 => ⟨h1, hS2 k h1, h2⟩))
    clear o1 o2 hS1 hS2
    have HX2 := Lib.hid (HX.out.below b2 HX.out.lt)
    clear hx0 hx1 hxf0 hxf1 hxs
    obtain ⟨hx0, hx1, hxf0, hxf1, hxs⟩ := HX2.out.two
    have HS2 := Lib.hid (HR.out.below b2 HR.out.lt)
    clear hr0 hr1 hrf0 hrf1 hrs
    obtain ⟨hr0, hr1, hrf0, hrf1, hrs⟩ := HS2.out.two
    have HQ2 := Lib.hid (HR2.out.below b2 HR2.out.lt)
    clear hq0 hq1 hqf0 hqf1 hqs
    obtain ⟨hq0, hq1, hqf0, hqf1, hqs⟩ := HQ2.out.two
    have HB2 := Lib.hid (HBN.out.trans (b2.mono HBN.out.size))
    have hz2 : w1.heap.size ≤ w2.heap.size := b2.size
    clear b2
    go_wp2
    go_region
    all_goals go_wp2
    all_goals have hzz : w.heap.size < w2.heap.size := by omega
    all_goals refine bodyPost_ret (v := .tuple #[.agg #[.int .i64 c', .slice A1 rows.length c1], .agg #[.int .i64 rows.length, .slice A2 rows.length c2], .bool true]) (by simp [results, Tryd.results15, go_sem, hr0, hr1, hq0, hq1, cell_alloc_lt, hrs, hqs, hzz]) rfl ?_
    all_goals rw [HYES.out.1, HYES.out.2.1, HYES.out.2.2.1, HYES.out.2.2.2]
    all_goals exact ⟨_, _, rfl, (by refine Below.trans HB2.out ?_; repeat' (first | exact Below.refl _ _ | apply Below.drew | apply Below.setCell | apply Below.alloc | (simp; done) | omega | (simp; omega))), ⟨((HO1.out.blocks (fun k hk _ => by show _ = _; repeat first | rw [drew_heap] | rw [blk_setCell_other _ _ _ _ (by dsimp only; omega)] | rw [blk_alloc_lt _ _ _ (by simp; omega)])).mono (fun k hk _ => by omega)), addM_sz hn24 hc24 HIN.out.a⟩, ⟨((HO2.out.blocks (fun k hk _ => by show _ = _; repeat first | rw [drew_heap] | rw [blk_setCell_other _ _ _ _ (by dsimp only; omega)] | rw [blk_alloc_lt _ _ _ (by simp; omega)])).mono (fun k hk _ => by omega)), addM_sz hn24 hn24 HIN.out.t⟩⟩
set_option maxHeartbeats 3200000 in
theorem impl_RowReduce (w : World) (B : Nat) (v : Value) (p c : Int) (rows : List (List Int)) (ht : Tab w) (hv : LfG w B v rows) (hB : B ≤ w.heap.size) (_hs : szG rows ≤ 1048576) :
    Calls Tryd.prog 17 #[.int .i64 p, .agg #[.int .i64 c, v]] w (IRetMatrixMatrixB w (rowC p c rows) (rowA p c rows) (rowN p c rows) (rowT p c rows) (isMat p c rows)) := by
  obtain ⟨A, cp, rfl⟩ := hv.len
  have HVB := Lib.hid (show Below w.heap.size w (((w.alloc (.cells #[.int .i64 c, .slice A rows.length cp] tM)).alloc (.cells #[.int .i64 0, .slice none 0 0] tM)).alloc (.cells #[.int .i64 0, .slice none 0 0] tM)) by repeat' (first | exact Below.refl _ _ | apply Below.alloc | (simp; done) | (simp; omega)))
  have HV := Lib.hid (hv.below HVB.out hB)
  have hB0 : B ≤ (((w.alloc (.cells #[.int .i64 c, .slice A rows.length cp] tM)).alloc (.cells #[.int .i64 0, .slice none 0 0] tM)).alloc (.cells #[.int .i64 0, .slice none 0 0] tM)).heap.size := Nat.le_trans hB HVB.out.size
  have HB := Lib.hid hB
  have HT := Lib.hid (show Tab (((w.alloc (.cells #[.int .i64 c, .slice A rows.length cp] tM)).alloc (.cells #[.int .i64 0, .slice none 0 0] tM)).alloc (.cells #[.int .i64 0, .slice none 0 0] tM)) from ht.below HVB.out)
  clear ht
  clear hv hB
  cases hm : isMat p c rows with
  | false =>
    have HM := Lib.hid hm
    clear hm
    go_enter Tryd.func17, Tryd.ntmps17
    go_wp2_with fail
    refine (implIsMatrix_any _ B _ p c rows HT.out HV.out.1 hB0 HV.out.2.1 HV.out.2.2).mono ?_
    rintro e w1 ⟨rfl, b⟩
    rw [HM.out]
    obtain ⟨xa, xr, xr2, xn⟩ := boxes3 b rfl
    have HR := Lib.hid xr
    have HR2 := Lib.hid xr2
    have HX := Lib.hid xa
    have HBN := Lib.hid xn
    have HV1 := Lib.hid (HV.out.1.below b (by have := hB0; omega))
    have hs1 : B ≤ w1.heap.size := Nat.le_trans hB0 b.size
    have hz1 : w.heap.size + 3 ≤ w1.heap.size := by have := b.size; simp at this; omega
    clear b xa xn xr xr2
    obtain ⟨hx0, hx1, hxf0, hxf1, hxs⟩ := HX.out.two
    obtain ⟨hr0, hr1, hrf0, hrf1, hrs⟩ := HR.out.two
    obtain ⟨hq0, hq1, hqf0, hqf1, hqs⟩ := HR2.out.two
    go_wp2
    refine bodyPost_ret (v := .tuple #[.agg #[.int .i64 0, .slice none 0 0], .agg #[.int .i64 0, .slice none 0 0], .bool false]) (by simp [results, Tryd.results17, go_sem, hr0, hr1, hq0, hq1]) rfl ?_
    rw [(row_no HM.out).1, (row_no HM.out).2.1, (row_no HM.out).2.2.1, (row_no HM.out).2.2.2]
    exact ⟨_, _, fun _ => False, fun _ => False, rfl, (by refine Below.trans HBN.out ?_; repeat' (first | exact Below.refl _ _ | apply Below.drew | apply Below.setCell | apply Below.alloc | (simp; done) | omega | (simp; omega))), fun _ h => h.elim, fun _ h => h.elim, fun _ h => h.elim, ⟨⟨none, 0, rfl, Or.inl rfl⟩, by simp [szG, tot]⟩, ⟨⟨none, 0, rfl, Or.inl rfl⟩, by simp [szG, tot]⟩⟩
  | true =>
    obtain ⟨hf, hn24, c', rfl, hc24, hmat⟩ := (isMat_iff _ _ _).1 hm
    have HM := Lib.hid hm
    have HF := Lib.hid hf
    have HMM := Lib.hid hmat
    have HIN := Lib.hid (red_inv hf hmat (idRows_mat (fld_bd hf).1 rows.length) c' (Nat.le_refl c'))
    have HYES := Lib.hid (row_yes hm)
    clear hm hf hmat
    go_enter Tryd.func17, Tryd.ntmps17
    go_wp2_with fail
    refine (implIsMatrix_any _ B _ p _ rows HT.out HV.out.1 hB0 HV.out.2.1 HV.out.2.2).mono ?_
    rintro e w1 ⟨rfl, b⟩
    rw [HM.out]
    obtain ⟨xa, xr, xr2, xn⟩ := boxes3 b rfl
    have HR := Lib.hid xr
    have HR2 := Lib.hid xr2
    have HX := Lib.hid xa
    have HBN := Lib.hid xn
    have HV1 := Lib.hid (HV.out.1.below b (by have := hB0; omega))
    have hs1 : B ≤ w1.heap.size := Nat.le_trans hB0 b.size
    have hz1 : w.heap.size + 3 ≤ w1.heap.size := by have := b.size; simp at this; omega
    clear b xa xn xr xr2
    obtain ⟨hx0, hx1, hxf0, hxf1, hxs⟩ := HX.out.two
    obtain ⟨hr0, hr1, hrf0, hrf1, hrs⟩ := HR.out.two
    obtain ⟨hq0, hq1, hqf0, hqf1, hqs⟩ := HR2.out.two
    go_wp2_with fail
    refine (reduceMatrix_any w1 B _ p rows.length c' rows HV1.out hs1 HF.out HMM.out (by omega) (by omega)).mono ?_
    rintro e w2 ⟨A1, c1, A2, c2, A3, c3, S1, S2, rfl, b2, hS1, hS2, hS12, o1, o2, -⟩
    generalize red p rows (idRows rows.length) c' = s at o1 o2 HYES HIN ⊢
    have HO1 := Lib.hid (OwG.mono (T := fun k => S1 k ∧ w1.heap.size ≤ k ∧ k < w2.heap.size) o1 (fun k h1 h2 => ⟨h1, hS1 k h1, h2⟩))
    have HO2 := Lib.hid (OwG.mono (T := fun k => S2 k ∧ w1.heap.size ≤ k ∧ k < w2.heap.size) o2 (fun k h1 h2 => ⟨h1, hS2 k h1, h2⟩))
    have HS12 := Lib.hid hS12
    clear o1 o2 hS1 hS2 hS12
    have HX2 := Lib.hid (HX.out.below b2 HX.out.lt)
    clear hx0 hx1 hxf0 hxf1 hxs
    obtain ⟨hx0, hx1, hxf0, hxf1, hxs⟩ := HX2.out.two
    have HS2 := Lib.hid (HR.out.below b2 HR.out.lt)
    clear hr0 hr1 hrf0 hrf1 hrs
    obtain ⟨hr0, hr1, hrf0, hrf1, hrs⟩ := HS2.out.two
    have HQ2 := Lib.hid (HR2.out.below b2 HR2.out.lt)
    clear hq0 hq1 hqf0 hqf1 hqs
    obtain ⟨hq0, hq1, hqf0, hqf1, hqs⟩ := HQ2.out.two
    have HB2 := Lib.hid (HBN.out.trans (b2.mono HBN.out.size))
    have hz2 : w1.heap.size ≤ w2.heap.size := b2.size
    clear b2
    go_wp2
    go_region
    all_goals go_wp2
    all_goals have hzz : w.heap.size < w2.heap.size := by omega
    all_goals refine bodyPost_ret (v := .tuple #[.agg #[.int .i64 c', .slice A1 rows.length c1], .agg #[.int .i64 rows.length, .slice A2 rows.length c2], .bool true]) (by simp [results, Tryd.results17, go_sem, hr0, hr1, hq0, hq1, cell_alloc_lt, hrs, hqs]) rfl ?_
    all_goals rw [HYES.out.1, HYES.out.2.1, HYES.out.2.2.1, HYES.out.2.2.2]
    all_goals exact ⟨_, _, (fun k => S1 k ∧ w1.heap.size ≤ k ∧ k < w2.heap.size), (fun k => S2 k ∧ w1.heap.size ≤ k ∧ k < w2.heap.size), rfl, (by refine Below.trans HB2.out ?_; repeat' (first | exact Below.refl _ _ | apply Below.drew | apply Below.setCell | apply Below.alloc | (simp; done) | omega | (simp; omega))), (fun k hk => by omega), (fun k hk => by omega), (fun k h1 h2 => HS12.out k h1.1 h2.1), ⟨HO1.out.blocks (fun k hk _ => by show _ = _; repeat first | rw [drew_heap] | rw [blk_setCell_other _ _ _ _ (by dsimp only; omega)] | rw [blk_alloc_lt _ _ _ (by simp; omega)]), addM_sz hn24 hc24 HIN.out.a⟩, ⟨HO2.out.blocks (fun k hk _ => by show _ = _; repeat first | rw [drew_heap] | rw [blk_setCell_other _ _ _ _ (by dsimp only; omega)] | rw [blk_alloc_lt _ _ _ (by simp; omega)]), addM_sz hn24 hn24 HIN.out.t⟩⟩
end Go.Proofs.YtgncgihneemmcaaDoor
