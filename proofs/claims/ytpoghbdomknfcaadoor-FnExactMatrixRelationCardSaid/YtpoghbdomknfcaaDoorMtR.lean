/- MatrixRelation: both sides. -/
import Derived.Test.YtpoghbdomknfcaaDoorGrF
import Derived.Test.YtpoghbdomknfcaaDoorRlM
import Derived.Test.YtpoghbdomknfcaaDoorIsRl
import Derived.Test.YtpoghbdomknfcaaDoorRetRelationB
namespace Go.Proofs.YtpoghbdomknfcaaDoor
set_option maxRecDepth 100000
open Go Go.RowKit Go.Deep

def mtrOk (p c : Int) (M : List (List Int)) : Bool := isMat p c M && sidesB M.length c
def mtrL (p c : Int) (M : List (List Int)) : Int := if mtrOk p c M then (M.length : Int) else 0
def mtrG (p c : Int) (M : List (List Int)) : Int := if mtrOk p c M then c else 0
def mtrR (p c : Int) (M : List (List Int)) : List (List Int) := if mtrOk p c M then jn (idRows M.length) M else []
theorem mtr_no {p c : Int} {M : List (List Int)} (h : mtrOk p c M = false) : mtrL p c M = 0 ∧ mtrG p c M = 0 ∧ mtrR p c M = [] := by simp [mtrL, mtrG, mtrR, h]
theorem mtr_yes {p c : Int} {M : List (List Int)} (h : mtrOk p c M = true) : mtrL p c M = M.length ∧ mtrG p c M = c ∧ mtrR p c M = jn (idRows M.length) M := by simp [mtrL, mtrG, mtrR, h]
theorem gr_sz {p : Int} {c : Nat} {M : List (List Int)} (h : Mat p M.length c M) (hl : M.length + c ≤ 24) : szG (jn (idRows M.length) M) ≤ 1099511627776 := by
  have h1 : ∀ r, r ∈ jn (idRows M.length) M → r.length = M.length + c := by
    intro r hr
    obtain ⟨i, hi, rfl⟩ := List.getElem_of_mem hr
    have hi2 := hi
    rw [jn_len, idRows_len] at hi2
    have e := jn_row (a := idRows M.length) (b := M) (i := i) (by rw [idRows_len]; exact hi2)
    rw [List.getD_eq_getElem?_getD, List.getElem?_eq_getElem hi] at e
    simp only [Option.getD_some] at e
    rw [e, List.length_append, idRows_get hi2, unitRow_len, (h.row hi2).1]
  have h2 := tot_const h1
  rw [jn_len, idRows_len] at h2
  unfold szG
  rw [jn_len, idRows_len, h2]
  have : M.length * (M.length + c) ≤ 24 * 24 := Nat.mul_le_mul (by omega) hl
  omega
set_option maxRecDepth 100000 in
set_option maxHeartbeats 3200000 in
theorem impl_MatrixRelation (w : World) (B : Nat) (v : Value) (p c : Int) (M : List (List Int)) (ht : Tab w) (hv : LfG w B v M) (hB : B ≤ w.heap.size) (_hs : szG M ≤ 1048576) :
    Calls Tryd.prog 18 #[.int .i64 p, .agg #[.int .i64 c, v]] w (IRetRelationB w (mtrL p c M) (mtrG p c M) (mtrR p c M) (mtrOk p c M)) := by
  obtain ⟨A, cp, rfl⟩ := hv.len
  cases hm : isMat p c M with
  | false =>
    have HMM := Lib.hid hm
    have HOK := Lib.hid (show mtrOk p c M = false by simp [mtrOk, hm])
    clear hm
    have HVB := Lib.hid (show Below w.heap.size w ((w.alloc (.cells #[.int .i64 c, .slice A M.length cp] tM)).alloc (.cells #[.int .i64 0, .int .i64 0, .slice none 0 0] tRl)) by repeat' (first | exact Below.refl _ _ | apply Below.alloc | (simp; done) | (simp; omega)))
    have HV := Lib.hid (hv.below HVB.out hB)
    have hB0 : B ≤ ((w.alloc (.cells #[.int .i64 c, .slice A M.length cp] tM)).alloc (.cells #[.int .i64 0, .int .i64 0, .slice none 0 0] tRl)).heap.size := Nat.le_trans hB HVB.out.size
    have HX0 := Lib.hid ((cellsAt_new w #[.int .i64 c, .slice A M.length cp] tM).alloc (.cells #[.int .i64 0, .int .i64 0, .slice none 0 0] tRl))
    have HY0 := Lib.hid (cellsAt_new' (w.alloc (.cells #[.int .i64 c, .slice A M.length cp] tM)) #[.int .i64 0, .int .i64 0, .slice none 0 0] tRl _ (w.heap.size + 1) (by simp) rfl)
    have hsz0 : ((w.alloc (.cells #[.int .i64 c, .slice A M.length cp] tM)).alloc (.cells #[.int .i64 0, .int .i64 0, .slice none 0 0] tRl)).heap.size = w.heap.size + 2 := by simp
    have HT := Lib.hid (ht.below HVB.out)
    clear hv hB ht
    go_enter Tryd.func18, Tryd.ntmps18
    go_upto_region 1 with fail
    generalize ((w.alloc (.cells #[.int .i64 c, .slice A M.length cp] tM)).alloc (.cells #[.int .i64 0, .int .i64 0, .slice none 0 0] tRl)) = W0 at HVB HV hB0 HX0 HY0 HT hsz0 ⊢
    have hz0 : w.heap.size + 2 ≤ W0.heap.size := by omega
    clear hsz0
    obtain ⟨hx0, hx1, hxf0, hxf1, hxs⟩ := HX0.out.two
    go_wp2_with fail
    refine (implIsMatrix_any W0 B _ p c M HT.out HV.out.1 hB0 HV.out.2.1 HV.out.2.2).mono ?_
    rintro e w1 ⟨rfl, b1⟩
    rw [HMM.out]
    have HX1 := Lib.hid (HX0.out.below b1 hxs)
    have HY1 := Lib.hid (HY0.out.below b1 (by omega))
    have HV1 := Lib.hid (HV.out.below b1 hB0)
    have HB1 := Lib.hid (HVB.out.trans (b1.mono HVB.out.size))
    have hs1 : W0.heap.size ≤ w1.heap.size := b1.size
    have hB1 : B ≤ w1.heap.size := Nat.le_trans hB0 hs1
    clear b1 hx0 hx1 hxf0 hxf1 hxs
    obtain ⟨hy0, hy1, hy2, hyf0, hyf1, hyf2, hys⟩ := HY1.out.three
    go_wp2
    refine bodyPost_ret (v := .tuple #[.agg #[.int .i64 0, .int .i64 0, .slice none 0 0], .bool false]) (by simp [results, Tryd.results18, go_sem, hy0, hy1, hy2]) rfl ?_
    rw [HOK.out, (mtr_no HOK.out).1, (mtr_no HOK.out).2.1, (mtr_no HOK.out).2.2]
    exact ⟨_, rfl, (by refine Below.trans HB1.out ?_; repeat' (first | exact Below.refl _ _ | apply Below.drew | apply Below.setCell | apply Below.alloc | (simp; done) | omega | (simp; omega))), ⟨none, 0, rfl, Nat.le_refl 0, Or.inl rfl⟩, by simp [szG, tot]⟩
  | true =>
    obtain ⟨hf, hn24, c', rfl, hc24, hmat⟩ := (isMat_iff _ _ _).1 hm
    have HMM := Lib.hid hm
    have hncI : (M.length : Int) ≤ 24 := by omega
    have hccI : (c' : Int) ≤ 24 := by omega
    cases hsd : sidesB M.length c' with
    | false =>
      have HSD := Lib.hid hsd
      have HOK := Lib.hid (show mtrOk p c' M = false by simp [mtrOk, hsd])
      have hgt : (24 : Int) < (M.length : Int) + (c' : Int) := by
        have h := hsd
        unfold sidesB at h
        simp at h
        omega
      clear hm hf hmat hsd
      have HVB := Lib.hid (show Below w.heap.size w ((w.alloc (.cells #[.int .i64 c', .slice A M.length cp] tM)).alloc (.cells #[.int .i64 0, .int .i64 0, .slice none 0 0] tRl)) by repeat' (first | exact Below.refl _ _ | apply Below.alloc | (simp; done) | (simp; omega)))
      have HV := Lib.hid (hv.below HVB.out hB)
      have hB0 : B ≤ ((w.alloc (.cells #[.int .i64 c', .slice A M.length cp] tM)).alloc (.cells #[.int .i64 0, .int .i64 0, .slice none 0 0] tRl)).heap.size := Nat.le_trans hB HVB.out.size
      have HX0 := Lib.hid ((cellsAt_new w #[.int .i64 c', .slice A M.length cp] tM).alloc (.cells #[.int .i64 0, .int .i64 0, .slice none 0 0] tRl))
      have HY0 := Lib.hid (cellsAt_new' (w.alloc (.cells #[.int .i64 c', .slice A M.length cp] tM)) #[.int .i64 0, .int .i64 0, .slice none 0 0] tRl _ (w.heap.size + 1) (by simp) rfl)
      have hsz0 : ((w.alloc (.cells #[.int .i64 c', .slice A M.length cp] tM)).alloc (.cells #[.int .i64 0, .int .i64 0, .slice none 0 0] tRl)).heap.size = w.heap.size + 2 := by simp
      have HT := Lib.hid (ht.below HVB.out)
      clear hv hB ht
      go_enter Tryd.func18, Tryd.ntmps18
      go_upto_region 1 with fail
      generalize ((w.alloc (.cells #[.int .i64 c', .slice A M.length cp] tM)).alloc (.cells #[.int .i64 0, .int .i64 0, .slice none 0 0] tRl)) = W0 at HVB HV hB0 HX0 HY0 HT hsz0 ⊢
      have hz0 : w.heap.size + 2 ≤ W0.heap.size := by omega
      clear hsz0
      obtain ⟨hx0, hx1, hxf0, hxf1, hxs⟩ := HX0.out.two
      go_wp2_with fail
      refine (implIsMatrix_any W0 B _ p c' M HT.out HV.out.1 hB0 HV.out.2.1 HV.out.2.2).mono ?_
      rintro e w1 ⟨rfl, b1⟩
      rw [HMM.out]
      have HX1 := Lib.hid (HX0.out.below b1 hxs)
      have HY1 := Lib.hid (HY0.out.below b1 (by omega))
      have HV1 := Lib.hid (HV.out.below b1 hB0)
      have HB1 := Lib.hid (HVB.out.trans (b1.mono HVB.out.size))
      have hs1 : W0.heap.size ≤ w1.heap.size := b1.size
      have hB1 : B ≤ w1.heap.size := Nat.le_trans hB0 hs1
      clear b1 hx0 hx1 hxf0 hxf1 hxs
      obtain ⟨hy0, hy1, hy2, hyf0, hyf1, hyf2, hys⟩ := HY1.out.three
      obtain ⟨hx0, hx1, hxf0, hxf1, hxs⟩ := HX1.out.two
      go_wp2_with fail
      refine (areSides_any w1 M.length c' (by omega)).mono ?_
      rintro e w' ⟨rfl, rfl⟩
      rw [HSD.out]
      go_wp2
      refine bodyPost_ret (v := .tuple #[.agg #[.int .i64 0, .int .i64 0, .slice none 0 0], .bool false]) (by simp [results, Tryd.results18, go_sem, hy0, hy1, hy2]) rfl ?_
      rw [HOK.out, (mtr_no HOK.out).1, (mtr_no HOK.out).2.1, (mtr_no HOK.out).2.2]
      exact ⟨_, rfl, (by refine Below.trans HB1.out ?_; repeat' (first | exact Below.refl _ _ | apply Below.drew | apply Below.setCell | apply Below.alloc | (simp; done) | omega | (simp; omega))), ⟨none, 0, rfl, Nat.le_refl 0, Or.inl rfl⟩, by simp [szG, tot]⟩
    | true =>
      have hle : M.length + c' ≤ 24 := by
        have h := hsd
        unfold sidesB at h
        simp at h
        omega
      have hgt : (M.length : Int) + (c' : Int) ≤ 24 := by omega
      have HSD := Lib.hid hsd
      have HOK := Lib.hid (show mtrOk p c' M = true by simp [mtrOk, hsd, hm])
      have HSZ := Lib.hid (gr_sz hmat hle)
      have HRL := Lib.hid (fun r (hr : r < M.length) => (show (M.getD r []).length ≤ 1000 by have := (hmat.row hr).1; omega))
      have HIL := Lib.hid (fun r (hr : r < (idRows M.length).length) => (show ((idRows M.length).getD r []).length ≤ 1000 by rw [idRows_len] at hr; rw [idRows_get hr, unitRow_len]; omega))
      clear hm hf hmat hsd
      have HVB := Lib.hid (show Below w.heap.size w ((w.alloc (.cells #[.int .i64 c', .slice A M.length cp] tM)).alloc (.cells #[.int .i64 0, .int .i64 0, .slice none 0 0] tRl)) by repeat' (first | exact Below.refl _ _ | apply Below.alloc | (simp; done) | (simp; omega)))
      have HV := Lib.hid (hv.below HVB.out hB)
      have hB0 : B ≤ ((w.alloc (.cells #[.int .i64 c', .slice A M.length cp] tM)).alloc (.cells #[.int .i64 0, .int .i64 0, .slice none 0 0] tRl)).heap.size := Nat.le_trans hB HVB.out.size
      have HX0 := Lib.hid ((cellsAt_new w #[.int .i64 c', .slice A M.length cp] tM).alloc (.cells #[.int .i64 0, .int .i64 0, .slice none 0 0] tRl))
      have HY0 := Lib.hid (cellsAt_new' (w.alloc (.cells #[.int .i64 c', .slice A M.length cp] tM)) #[.int .i64 0, .int .i64 0, .slice none 0 0] tRl _ (w.heap.size + 1) (by simp) rfl)
      have hsz0 : ((w.alloc (.cells #[.int .i64 c', .slice A M.length cp] tM)).alloc (.cells #[.int .i64 0, .int .i64 0, .slice none 0 0] tRl)).heap.size = w.heap.size + 2 := by simp
      have HT := Lib.hid (ht.below HVB.out)
      clear hv hB ht
      go_enter Tryd.func18, Tryd.ntmps18
      go_upto_region 1 with fail
      generalize ((w.alloc (.cells #[.int .i64 c', .slice A M.length cp] tM)).alloc (.cells #[.int .i64 0, .int .i64 0, .slice none 0 0] tRl)) = W0 at HVB HV hB0 HX0 HY0 HT hsz0 ⊢
      have hz0 : w.heap.size + 2 ≤ W0.heap.size := by omega
      clear hsz0
      obtain ⟨hx0, hx1, hxf0, hxf1, hxs⟩ := HX0.out.two
      go_wp2_with fail
      refine (implIsMatrix_any W0 B _ p c' M HT.out HV.out.1 hB0 HV.out.2.1 HV.out.2.2).mono ?_
      rintro e w1 ⟨rfl, b1⟩
      rw [HMM.out]
      have HX1 := Lib.hid (HX0.out.below b1 hxs)
      have HY1 := Lib.hid (HY0.out.below b1 (by omega))
      have HV1 := Lib.hid (HV.out.below b1 hB0)
      have HB1 := Lib.hid (HVB.out.trans (b1.mono HVB.out.size))
      have hs1 : W0.heap.size ≤ w1.heap.size := b1.size
      have hB1 : B ≤ w1.heap.size := Nat.le_trans hB0 hs1
      clear b1 hx0 hx1 hxf0 hxf1 hxs
      obtain ⟨hy0, hy1, hy2, hyf0, hyf1, hyf2, hys⟩ := HY1.out.three
      obtain ⟨hx0, hx1, hxf0, hxf1, hxs⟩ := HX1.out.two
      go_wp2_with fail
      refine (areSides_any w1 M.length c' (by omega)).mono ?_
      rintro e w' ⟨rfl, rfl⟩
      rw [HSD.out]
      go_wp2_with fail
      refine (graphOf_any w1 B _ c' M HV1.out.1 hB1 (by omega) HRL.out HIL.out).mono ?_
      rintro e w4 ⟨v4, rfl, b4, o4⟩
      obtain ⟨A4, c4, rfl⟩ := OwG.len o4
      have HB4 := Lib.hid b4
      have HO4 := Lib.hid (OwG.mono (T := fun q => w1.heap.size ≤ q) o4 (fun q hq _ => hq))
      have HY4 := Lib.hid (HY1.out.below HB4.out (by omega))
      clear b4 o4 hx0 hx1 hxf0 hxf1 hxs hy0 hy1 hy2 hyf0 hyf1 hyf2 hys
      obtain ⟨hy0, hy1, hy2, hyf0, hyf1, hyf2, hys⟩ := HY4.out.three
      have HBE := Lib.hid (HB1.out.trans (HB4.out.mono HB1.out.size))
      go_wp2
      refine bodyPost_ret (v := .tuple #[.agg #[.int .i64 M.length, .int .i64 c', .slice A4 (jn (idRows M.length) M).length c4], .bool true]) (by simp [results, Tryd.results18, go_sem, hy0, hy1, hy2]) rfl ?_
      rw [HOK.out, (mtr_yes HOK.out).1, (mtr_yes HOK.out).2.1, (mtr_yes HOK.out).2.2]
      refine ⟨_, rfl, (by refine Below.trans HBE.out ?_; repeat' (first | exact Below.refl _ _ | apply Below.drew | apply Below.setCell | apply Below.alloc | (simp; done) | omega | (simp; omega))), (HO4.out.blocks (fun q hq _ => ?_)).mono (fun q hq _ => by omega), HSZ.out⟩
      repeat rw [blk_setCell_other _ _ _ _ (by dsimp only; omega)]
set_option maxRecDepth 100000 in
set_option maxHeartbeats 3200000 in
theorem spec_MatrixRelation (w : World) (B : Nat) (v : Value) (p c : Int) (M : List (List Int)) (hv : LfG w B v M) (hB : B ≤ w.heap.size) (_hs : szG M ≤ 1048576) :
    Calls Tryd.prog 16 #[.int .i64 p, .agg #[.int .i64 c, v]] w (SRetRelationB w (mtrL p c M) (mtrG p c M) (mtrR p c M) (mtrOk p c M)) := by
  obtain ⟨A, cp, rfl⟩ := hv.len
  cases hm : isMat p c M with
  | false =>
    have HMM := Lib.hid hm
    have HOK := Lib.hid (show mtrOk p c M = false by simp [mtrOk, hm])
    clear hm
    have HVB := Lib.hid (show Below w.heap.size w ((w.alloc (.cells #[.int .i64 c, .slice A M.length cp] tM)).alloc (.cells #[.int .i64 0, .int .i64 0, .slice none 0 0] tRl)) by repeat' (first | exact Below.refl _ _ | apply Below.alloc | (simp; done) | (simp; omega)))
    have HV := Lib.hid (hv.below HVB.out hB)
    have hB0 : B ≤ ((w.alloc (.cells #[.int .i64 c, .slice A M.length cp] tM)).alloc (.cells #[.int .i64 0, .int .i64 0, .slice none 0 0] tRl)).heap.size := Nat.le_trans hB HVB.out.size
    have HX0 := Lib.hid ((cellsAt_new w #[.int .i64 c, .slice A M.length cp] tM).alloc (.cells #[.int .i64 0, .int .i64 0, .slice none 0 0] tRl))
    have HY0 := Lib.hid (cellsAt_new' (w.alloc (.cells #[.int .i64 c, .slice A M.length cp] tM)) #[.int .i64 0, .int .i64 0, .slice none 0 0] tRl _ (w.heap.size + 1) (by simp) rfl)
    have hsz0 : ((w.alloc (.cells #[.int .i64 c, .slice A M.length cp] tM)).alloc (.cells #[.int .i64 0, .int .i64 0, .slice none 0 0] tRl)).heap.size = w.heap.size + 2 := by simp
    clear hv hB
    go_enter Tryd.func16, Tryd.ntmps16
    go_upto_region 1 with fail
    generalize ((w.alloc (.cells #[.int .i64 c, .slice A M.length cp] tM)).alloc (.cells #[.int .i64 0, .int .i64 0, .slice none 0 0] tRl)) = W0 at HVB HV hB0 HX0 HY0 hsz0 ⊢
    have hz0 : w.heap.size + 2 ≤ W0.heap.size := by omega
    clear hsz0
    obtain ⟨hx0, hx1, hxf0, hxf1, hxs⟩ := HX0.out.two
    go_wp2_with fail
    refine (mxGood_any W0 B _ p c M HV.out.1 hB0 HV.out.2.1 HV.out.2.2).mono ?_
    rintro e w1 ⟨rfl, b1⟩
    rw [HMM.out]
    have HX1 := Lib.hid (HX0.out.below b1 hxs)
    have HY1 := Lib.hid (HY0.out.below b1 (by omega))
    have HV1 := Lib.hid (HV.out.below b1 hB0)
    have HB1 := Lib.hid (HVB.out.trans (b1.mono HVB.out.size))
    have hs1 : W0.heap.size ≤ w1.heap.size := b1.size
    have hB1 : B ≤ w1.heap.size := Nat.le_trans hB0 hs1
    clear b1 hx0 hx1 hxf0 hxf1 hxs
    obtain ⟨hy0, hy1, hy2, hyf0, hyf1, hyf2, hys⟩ := HY1.out.three
    go_wp2
    refine bodyPost_ret (v := .tuple #[.agg #[.int .i64 0, .int .i64 0, .slice none 0 0], .bool false]) (by simp [results, Tryd.results16, go_sem, hy0, hy1, hy2]) rfl ?_
    rw [HOK.out, (mtr_no HOK.out).1, (mtr_no HOK.out).2.1, (mtr_no HOK.out).2.2]
    exact ⟨_, rfl, (by refine Below.trans HB1.out ?_; repeat' (first | exact Below.refl _ _ | apply Below.drew | apply Below.setCell | apply Below.alloc | (simp; done) | omega | (simp; omega))), ⟨none, 0, rfl, Nat.le_refl 0, Or.inl rfl⟩, by simp [szG, tot]⟩
  | true =>
    obtain ⟨hf, hn24, c', rfl, hc24, hmat⟩ := (isMat_iff _ _ _).1 hm
    have HMM := Lib.hid hm
    have hncI : (M.length : Int) ≤ 24 := by omega
    have hccI : (c' : Int) ≤ 24 := by omega
    cases hsd : sidesB M.length c' with
    | false =>
      have HSD := Lib.hid hsd
      have HOK := Lib.hid (show mtrOk p c' M = false by simp [mtrOk, hsd])
      have hgt : (24 : Int) < (M.length : Int) + (c' : Int) := by
        have h := hsd
        unfold sidesB at h
        simp at h
        omega
      clear hm hf hmat hsd
      have HVB := Lib.hid (show Below w.heap.size w ((w.alloc (.cells #[.int .i64 c', .slice A M.length cp] tM)).alloc (.cells #[.int .i64 0, .int .i64 0, .slice none 0 0] tRl)) by repeat' (first | exact Below.refl _ _ | apply Below.alloc | (simp; done) | (simp; omega)))
      have HV := Lib.hid (hv.below HVB.out hB)
      have hB0 : B ≤ ((w.alloc (.cells #[.int .i64 c', .slice A M.length cp] tM)).alloc (.cells #[.int .i64 0, .int .i64 0, .slice none 0 0] tRl)).heap.size := Nat.le_trans hB HVB.out.size
      have HX0 := Lib.hid ((cellsAt_new w #[.int .i64 c', .slice A M.length cp] tM).alloc (.cells #[.int .i64 0, .int .i64 0, .slice none 0 0] tRl))
      have HY0 := Lib.hid (cellsAt_new' (w.alloc (.cells #[.int .i64 c', .slice A M.length cp] tM)) #[.int .i64 0, .int .i64 0, .slice none 0 0] tRl _ (w.heap.size + 1) (by simp) rfl)
      have hsz0 : ((w.alloc (.cells #[.int .i64 c', .slice A M.length cp] tM)).alloc (.cells #[.int .i64 0, .int .i64 0, .slice none 0 0] tRl)).heap.size = w.heap.size + 2 := by simp
      clear hv hB
      go_enter Tryd.func16, Tryd.ntmps16
      go_upto_region 1 with fail
      generalize ((w.alloc (.cells #[.int .i64 c', .slice A M.length cp] tM)).alloc (.cells #[.int .i64 0, .int .i64 0, .slice none 0 0] tRl)) = W0 at HVB HV hB0 HX0 HY0 hsz0 ⊢
      have hz0 : w.heap.size + 2 ≤ W0.heap.size := by omega
      clear hsz0
      obtain ⟨hx0, hx1, hxf0, hxf1, hxs⟩ := HX0.out.two
      go_wp2_with fail
      refine (mxGood_any W0 B _ p c' M HV.out.1 hB0 HV.out.2.1 HV.out.2.2).mono ?_
      rintro e w1 ⟨rfl, b1⟩
      rw [HMM.out]
      have HX1 := Lib.hid (HX0.out.below b1 hxs)
      have HY1 := Lib.hid (HY0.out.below b1 (by omega))
      have HV1 := Lib.hid (HV.out.below b1 hB0)
      have HB1 := Lib.hid (HVB.out.trans (b1.mono HVB.out.size))
      have hs1 : W0.heap.size ≤ w1.heap.size := b1.size
      have hB1 : B ≤ w1.heap.size := Nat.le_trans hB0 hs1
      clear b1 hx0 hx1 hxf0 hxf1 hxs
      obtain ⟨hy0, hy1, hy2, hyf0, hyf1, hyf2, hys⟩ := HY1.out.three
      obtain ⟨hx0, hx1, hxf0, hxf1, hxs⟩ := HX1.out.two
      go_wp2
      refine bodyPost_ret (v := .tuple #[.agg #[.int .i64 0, .int .i64 0, .slice none 0 0], .bool false]) (by simp [results, Tryd.results16, go_sem, hy0, hy1, hy2]) rfl ?_
      rw [HOK.out, (mtr_no HOK.out).1, (mtr_no HOK.out).2.1, (mtr_no HOK.out).2.2]
      exact ⟨_, rfl, (by refine Below.trans HB1.out ?_; repeat' (first | exact Below.refl _ _ | apply Below.drew | apply Below.setCell | apply Below.alloc | (simp; done) | omega | (simp; omega))), ⟨none, 0, rfl, Nat.le_refl 0, Or.inl rfl⟩, by simp [szG, tot]⟩
    | true =>
      have hle : M.length + c' ≤ 24 := by
        have h := hsd
        unfold sidesB at h
        simp at h
        omega
      have hgt : (M.length : Int) + (c' : Int) ≤ 24 := by omega
      have HSD := Lib.hid hsd
      have HOK := Lib.hid (show mtrOk p c' M = true by simp [mtrOk, hsd, hm])
      have HSZ := Lib.hid (gr_sz hmat hle)
      have HRL := Lib.hid (fun r (hr : r < M.length) => (show (M.getD r []).length ≤ 1000 by have := (hmat.row hr).1; omega))
      have HIL := Lib.hid (fun r (hr : r < (idRows M.length).length) => (show ((idRows M.length).getD r []).length ≤ 1000 by rw [idRows_len] at hr; rw [idRows_get hr, unitRow_len]; omega))
      clear hm hf hmat hsd
      have HVB := Lib.hid (show Below w.heap.size w ((w.alloc (.cells #[.int .i64 c', .slice A M.length cp] tM)).alloc (.cells #[.int .i64 0, .int .i64 0, .slice none 0 0] tRl)) by repeat' (first | exact Below.refl _ _ | apply Below.alloc | (simp; done) | (simp; omega)))
      have HV := Lib.hid (hv.below HVB.out hB)
      have hB0 : B ≤ ((w.alloc (.cells #[.int .i64 c', .slice A M.length cp] tM)).alloc (.cells #[.int .i64 0, .int .i64 0, .slice none 0 0] tRl)).heap.size := Nat.le_trans hB HVB.out.size
      have HX0 := Lib.hid ((cellsAt_new w #[.int .i64 c', .slice A M.length cp] tM).alloc (.cells #[.int .i64 0, .int .i64 0, .slice none 0 0] tRl))
      have HY0 := Lib.hid (cellsAt_new' (w.alloc (.cells #[.int .i64 c', .slice A M.length cp] tM)) #[.int .i64 0, .int .i64 0, .slice none 0 0] tRl _ (w.heap.size + 1) (by simp) rfl)
      have hsz0 : ((w.alloc (.cells #[.int .i64 c', .slice A M.length cp] tM)).alloc (.cells #[.int .i64 0, .int .i64 0, .slice none 0 0] tRl)).heap.size = w.heap.size + 2 := by simp
      clear hv hB
      go_enter Tryd.func16, Tryd.ntmps16
      go_upto_region 1 with fail
      generalize ((w.alloc (.cells #[.int .i64 c', .slice A M.length cp] tM)).alloc (.cells #[.int .i64 0, .int .i64 0, .slice none 0 0] tRl)) = W0 at HVB HV hB0 HX0 HY0 hsz0 ⊢
      have hz0 : w.heap.size + 2 ≤ W0.heap.size := by omega
      clear hsz0
      obtain ⟨hx0, hx1, hxf0, hxf1, hxs⟩ := HX0.out.two
      go_wp2_with fail
      refine (mxGood_any W0 B _ p c' M HV.out.1 hB0 HV.out.2.1 HV.out.2.2).mono ?_
      rintro e w1 ⟨rfl, b1⟩
      rw [HMM.out]
      have HX1 := Lib.hid (HX0.out.below b1 hxs)
      have HY1 := Lib.hid (HY0.out.below b1 (by omega))
      have HV1 := Lib.hid (HV.out.below b1 hB0)
      have HB1 := Lib.hid (HVB.out.trans (b1.mono HVB.out.size))
      have hs1 : W0.heap.size ≤ w1.heap.size := b1.size
      have hB1 : B ≤ w1.heap.size := Nat.le_trans hB0 hs1
      clear b1 hx0 hx1 hxf0 hxf1 hxs
      obtain ⟨hy0, hy1, hy2, hyf0, hyf1, hyf2, hys⟩ := HY1.out.three
      obtain ⟨hx0, hx1, hxf0, hxf1, hxs⟩ := HX1.out.two
      go_wp2_with fail
      refine (rlMatrix_any w1 B _ c' M HV1.out.1 hB1 (by omega) HRL.out).mono ?_
      rintro e w4 ⟨v4, rfl, b4, o4⟩
      obtain ⟨A4, c4, rfl⟩ := OwG.len o4
      have HB4 := Lib.hid b4
      have HO4 := Lib.hid (OwG.mono (T := fun q => w1.heap.size ≤ q) o4 (fun q hq _ => hq))
      have HY4 := Lib.hid (HY1.out.below HB4.out (by omega))
      clear b4 o4 hx0 hx1 hxf0 hxf1 hxs hy0 hy1 hy2 hyf0 hyf1 hyf2 hys
      obtain ⟨hy0, hy1, hy2, hyf0, hyf1, hyf2, hys⟩ := HY4.out.three
      have HBE := Lib.hid (HB1.out.trans (HB4.out.mono HB1.out.size))
      go_wp2
      refine bodyPost_ret (v := .tuple #[.agg #[.int .i64 M.length, .int .i64 c', .slice A4 (jn (idRows M.length) M).length c4], .bool true]) (by simp [results, Tryd.results16, go_sem, hy0, hy1, hy2]) rfl ?_
      rw [HOK.out, (mtr_yes HOK.out).1, (mtr_yes HOK.out).2.1, (mtr_yes HOK.out).2.2]
      refine ⟨_, rfl, (by refine Below.trans HBE.out ?_; repeat' (first | exact Below.refl _ _ | apply Below.drew | apply Below.setCell | apply Below.alloc | (simp; done) | omega | (simp; omega))), (HO4.out.blocks (fun q hq _ => ?_)).mono (fun q hq _ => by omega), HSZ.out⟩
      repeat rw [blk_setCell_other _ _ _ _ (by dsimp only; omega)]
end Go.Proofs.YtpoghbdomknfcaaDoor
