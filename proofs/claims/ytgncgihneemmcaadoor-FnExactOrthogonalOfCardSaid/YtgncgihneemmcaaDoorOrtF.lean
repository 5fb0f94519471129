/- OrthogonalOf: both sides. -/
import Derived.Test.YtgncgihneemmcaaDoorSpOrth
import Derived.Test.YtgncgihneemmcaaDoorSpG
import Derived.Test.YtgncgihneemmcaaDoorRetSpaceB
import Derived.Deep.RegionHeld3
namespace Go.Proofs.YtgncgihneemmcaaDoor
set_option maxRecDepth 100000
open Go Go.RowKit Go.Deep

def ortC (p c : Int) (rows : List (List Int)) : Int := if isSp p c rows then c else 0
def ortR (p c : Int) (rows : List (List Int)) : List (List Int) := if isSp p c rows then nullB p rows c.toNat else []
theorem ort_no {p c : Int} {rows : List (List Int)} (h : isSp p c rows = false) : ortC p c rows = 0 ∧ ortR p c rows = [] := by simp [ortC, ortR, h]
theorem ort_yes {p : Int} {c : Nat} {rows : List (List Int)} (h : isSp p c rows = true) : ortC p c rows = c ∧ ortR p c rows = nullB p rows c := by simp [ortC, ortR, h]
theorem nullB_mat {p : Int} (hf : fld p = true) {c : Nat} (rows : List (List Int)) : Mat p (nullB p rows c).length c (nullB p rows c) := rref_mat hf (null_mid_mat hf rows)
theorem nullB_le {p : Int} (hf : fld p = true) {c : Nat} (rows : List (List Int)) : (nullB p rows c).length ≤ c := rref_le hf (null_mid_mat hf rows)
theorem nullB_red {p : Int} (hf : fld p = true) {c : Nat} (rows : List (List Int)) : IsRed p (nullB p rows c).length c (nullB p rows c) := by
  have h := rref_red hf (null_mid_mat hf (c := c) rows)
  rw [← rref_len hf (null_mid_mat hf rows)] at h
  exact h
theorem nullB_sz {p : Int} (hf : fld p = true) {c : Nat} (rows : List (List Int)) (hc : c ≤ 24) : szG (nullB p rows c) ≤ 1099511627776 := addM_sz (Nat.le_trans (nullB_le hf rows) hc) hc (nullB_mat hf rows)
set_option maxHeartbeats 3200000 in
theorem spec_OrthogonalOf (w : World) (B : Nat) (v : Value) (p c : Int) (rows : List (List Int)) (hv : LfG w B v rows) (hB : B ≤ w.heap.size) (_hs : szG rows ≤ 1048576) :
    Calls Tryd.prog 56 #[.int .i64 p, .agg #[.int .i64 c, v]] w (SRetSpaceB w (ortC p c rows) (ortR p c rows) (isSp p c rows)) := by
  obtain ⟨A, cp, rfl⟩ := hv.len
  have HVB := Lib.hid (show Below w.heap.size w ((w.alloc (.cells #[.int .i64 c, .slice A rows.length cp] tSp)).alloc (.cells #[.int .i64 0, .slice none 0 0] tSp)) by repeat' (first | exact Below.refl _ _ | apply Below.alloc | (simp; done) | (simp; omega)))
  have HV := Lib.hid (hv.below HVB.out hB)
  have hB0 : B ≤ ((w.alloc (.cells #[.int .i64 c, .slice A rows.length cp] tSp)).alloc (.cells #[.int .i64 0, .slice none 0 0] tSp)).heap.size := Nat.le_trans hB HVB.out.size
  have HX0 := Lib.hid ((cellsAt_new w #[.int .i64 c, .slice A rows.length cp] tSp).alloc (.cells #[.int .i64 0, .slice none 0 0] tSp))
  have HY0 := Lib.hid (cellsAt_new' (w.alloc (.cells #[.int .i64 c, .slice A rows.length cp] tSp)) #[.int .i64 0, .slice none 0 0] tSp _ (w.heap.size + 1) (by simp) rfl)
  have hsz0 : ((w.alloc (.cells #[.int .i64 c, .slice A rows.length cp] tSp)).alloc (.cells #[.int .i64 0, .slice none 0 0] tSp)).heap.size = w.heap.size + 2 := by simp
  clear hv
  cases hm : isSp p c rows with
  | false =>
    have HM := Lib.hid hm
    clear hm
    go_enter Tryd.func56, Tryd.ntmps56
    go_upto_region 1 with fail
    generalize ((w.alloc (.cells #[.int .i64 c, .slice A rows.length cp] tSp)).alloc (.cells #[.int .i64 0, .slice none 0 0] tSp)) = W0 at HVB HV hB0 HX0 HY0 hsz0 ⊢
    have hz0' : w.heap.size + 2 ≤ W0.heap.size := by omega
    clear hsz0
    obtain ⟨hx0, hx1, hxf0, hxf1, hxs⟩ := HX0.out.two
    go_wp2_with fail
    refine (spGood_any W0 B _ p c rows HV.out hB0).mono ?_
    rintro e w1 ⟨rfl, b1⟩
    rw [HM.out]
    have HY1 := Lib.hid (HY0.out.below b1 (by omega))
    have HB1 := Lib.hid (HVB.out.trans (b1.mono HVB.out.size))
    have hs1 : W0.heap.size ≤ w1.heap.size := b1.size
    clear b1 hx0 hx1 hxf0 hxf1 hxs
    obtain ⟨hy0, hy1, hyf0, hyf1, hys⟩ := HY1.out.two
    go_wp2
    refine bodyPost_ret (v := .tuple #[.agg #[.int .i64 0, .slice none 0 0], .bool false]) (by simp [results, Tryd.results56, go_sem, hy0, hy1]) rfl ?_
    rw [(ort_no HM.out).1, (ort_no HM.out).2]
    exact ⟨_, rfl, (by refine Below.trans HB1.out ?_; repeat' (first | exact Below.refl _ _ | apply Below.drew | apply Below.setCell | apply Below.alloc | (simp; done) | omega | (simp; omega))), ⟨none, 0, rfl, Or.inl rfl⟩, by simp [szG, tot]⟩
  | true =>
    obtain ⟨hf, n, rfl, hn24, hln, hred, -⟩ := isSp_parts hm
    have HM := Lib.hid hm
    have HF := Lib.hid hf
    have HMM := Lib.hid hred.mat
    have HSZ := Lib.hid (nullB_sz hf (c := n) rows hn24)
    clear hm hf hred
    go_enter Tryd.func56, Tryd.ntmps56
    go_upto_region 1 with fail
    generalize ((w.alloc (.cells #[.int .i64 n, .slice A rows.length cp] tSp)).alloc (.cells #[.int .i64 0, .slice none 0 0] tSp)) = W0 at HVB HV hB0 HX0 HY0 hsz0 ⊢
    have hz0' : w.heap.size + 2 ≤ W0.heap.size := by omega
    clear hsz0
    obtain ⟨hx0, hx1, hxf0, hxf1, hxs⟩ := HX0.out.two
    go_wp2_with fail
    refine (spGood_any W0 B _ p n rows HV.out hB0).mono ?_
    rintro e w1 ⟨rfl, b1⟩
    rw [HM.out]
    have HX1 := Lib.hid (HX0.out.below b1 hxs)
    have HY1 := Lib.hid (HY0.out.below b1 (by omega))
    have HV1 := Lib.hid (HV.out.below b1 hB0)
    have HB1 := Lib.hid (HVB.out.trans (b1.mono HVB.out.size))
    have hs1 : W0.heap.size ≤ w1.heap.size := b1.size
    clear b1 hx0 hx1 hxf0 hxf1 hxs
    obtain ⟨hx0, hx1, hxf0, hxf1, hxs⟩ := HX1.out.two
    have HELD : Hid (∀ w' : World, w'.heap[w.heap.size]? = w1.heap[w.heap.size]? → w'.cell? ⟨w.heap.size, 0, none⟩ = some (.int .i64 n) ∧ w'.cell? ⟨w.heap.size, 1, none⟩ = some (.slice A rows.length cp)) := Lib.hid (fun w' H => ⟨(World.cell?_of_block (w := w1) H).trans hx0, (World.cell?_of_block (w := w1) H).trans hx1⟩)
    have HQ0 : Hid (w1.drew.heap[w.heap.size]? = w1.heap[w.heap.size]?) := Lib.hid rfl
    have HVD := Lib.hid (show LfG w1.drew B (.slice A rows.length cp) rows from HV1.out)
    have hBD : B ≤ w1.drew.heap.size := Nat.le_trans hB0 hs1
    clear hx0 hx1 hxf0 hxf1 hxs
    go_wp2
    go_region_held3 (fun w' => w'.cell? ⟨w.heap.size, 0, none⟩ = some (.int .i64 n) ∧ w'.cell? ⟨w.heap.size, 1, none⟩ = some (.slice A rows.length cp))
      (first | with_reducible exact HELD.out _ HQ0.out | with_reducible exact HELD.out _ HQ2.out | exact HELD.out _ (((blk_setCell_other _ _ _ _ (by dsimp only; omega)).trans (blk_setCell_other _ _ _ _ (by dsimp only; omega))).trans HQ2.out))
      (first
        | (go_at_call 73; go_split_ands; refine (spNull_any w1.drew B _ p rows.length n rows HVD.out.1 hBD HF.out HMM.out (by omega) (by omega)).mono ?_; rintro e w2 ⟨v2, rfl, b2, o2⟩; obtain ⟨A2, c2, rfl⟩ := OwG.len o2; have HB2 : Hid (Below w1.heap.size w1 w2) := Lib.hid ((Below.refl _ _).drew.trans b2); have HQ2 : Hid (w2.heap[w.heap.size]? = w1.heap[w.heap.size]?) := Lib.hid (HB2.out.block _ (by omega)); have HO2 := Lib.hid (OwG.mono (T := fun q => w1.heap.size ≤ q) o2 (fun q hq _ => hq)); have HY2 := Lib.hid (HY1.out.below HB2.out (by omega)); obtain ⟨hy0, hy1, hyf0, hyf1, hys⟩ := HY2.out.two; clear b2 o2))
    have HBE := Lib.hid (HB1.out.trans (HB2.out.mono HB1.out.size))
    go_wp2
    refine bodyPost_ret (v := .tuple #[.agg #[.int .i64 n, .slice A2 (nullB p rows n).length c2], .bool true]) (by simp [results, Tryd.results56, go_sem, hy0, hy1]) rfl ?_
    rw [(ort_yes HM.out).1, (ort_yes HM.out).2]
    refine ⟨_, rfl, (by refine Below.trans HBE.out ?_; repeat' (first | exact Below.refl _ _ | apply Below.drew | apply Below.setCell | apply Below.alloc | (simp; done) | omega | (simp; omega))), (HO2.out.blocks (fun k hk _ => ?_)).mono (fun k hk _ => by omega), HSZ.out⟩
    repeat rw [blk_setCell_other _ _ _ _ (by dsimp only; omega)]
set_option maxHeartbeats 3200000 in
theorem impl_OrthogonalOf (w : World) (B : Nat) (v : Value) (p c : Int) (rows : List (List Int)) (ht : Tab w) (hv : LfG w B v rows) (hB : B ≤ w.heap.size) (_hs : szG rows ≤ 1048576) :
    Calls Tryd.prog 57 #[.int .i64 p, .agg #[.int .i64 c, v]] w (IRetSpaceB w (ortC p c rows) (ortR p c rows) (isSp p c rows)) := by
  obtain ⟨A, cp, rfl⟩ := hv.len
  have HVB := Lib.hid (show Below w.heap.size w ((w.alloc (.cells #[.int .i64 c, .slice A rows.length cp] tSp)).alloc (.cells #[.int .i64 0, .slice none 0 0] tSp)) by repeat' (first | exact Below.refl _ _ | apply Below.alloc | (simp; done) | (simp; omega)))
  have HV := Lib.hid (hv.below HVB.out hB)
  have hB0 : B ≤ ((w.alloc (.cells #[.int .i64 c, .slice A rows.length cp] tSp)).alloc (.cells #[.int .i64 0, .slice none 0 0] tSp)).heap.size := Nat.le_trans hB HVB.out.size
  have HX0 := Lib.hid ((cellsAt_new w #[.int .i64 c, .slice A rows.length cp] tSp).alloc (.cells #[.int .i64 0, .slice none 0 0] tSp))
  have HY0 := Lib.hid (cellsAt_new' (w.alloc (.cells #[.int .i64 c, .slice A rows.length cp] tSp)) #[.int .i64 0, .slice none 0 0] tSp _ (w.heap.size + 1) (by simp) rfl)
  have hsz0 : ((w.alloc (.cells #[.int .i64 c, .slice A rows.length cp] tSp)).alloc (.cells #[.int .i64 0, .slice none 0 0] tSp)).heap.size = w.heap.size + 2 := by simp
  have HT := Lib.hid (ht.below HVB.out)
  clear hv ht
  cases hm : isSp p c rows with
  | false =>
    have HM := Lib.hid hm
    clear hm
    go_enter Tryd.func57, Tryd.ntmps57
    go_upto_region 1 with fail
    generalize ((w.alloc (.cells #[.int .i64 c, .slice A rows.length cp] tSp)).alloc (.cells #[.int .i64 0, .slice none 0 0] tSp)) = W0 at HVB HV hB0 HX0 HY0 HT hsz0 ⊢
    have hz0' : w.heap.size + 2 ≤ W0.heap.size := by omega
    clear hsz0
    obtain ⟨hx0, hx1, hxf0, hxf1, hxs⟩ := HX0.out.two
    go_wp2_with fail
    refine (implIsSpace_any W0 B _ p c rows HT.out HV.out hB0).mono ?_
    rintro e w1 ⟨rfl, b1⟩
    rw [HM.out]
    have HY1 := Lib.hid (HY0.out.below b1 (by omega))
    have HB1 := Lib.hid (HVB.out.trans (b1.mono HVB.out.size))
    have hs1 : W0.heap.size ≤ w1.heap.size := b1.size
    clear b1 hx0 hx1 hxf0 hxf1 hxs
    obtain ⟨hy0, hy1, hyf0, hyf1, hys⟩ := HY1.out.two
    go_wp2
    refine bodyPost_ret (v := .tuple #[.agg #[.int .i64 0, .slice none 0 0], .bool false]) (by simp [results, Tryd.results57, go_sem, hy0, hy1]) rfl ?_
    rw [(ort_no HM.out).1, (ort_no HM.out).2]
    exact ⟨_, rfl, (by refine Below.trans HB1.out ?_; repeat' (first | exact Below.refl _ _ | apply Below.drew | apply Below.setCell | apply Below.alloc | (simp; done) | omega | (simp; omega))), ⟨none, 0, rfl, Or.inl rfl⟩, by simp [szG, tot]⟩
  | true =>
    obtain ⟨hf, n, rfl, hn24, hln, hred, -⟩ := isSp_parts hm
    have HM := Lib.hid hm
    have HF := Lib.hid hf
    have HRD := Lib.hid hred
    have HSZ := Lib.hid (nullB_sz hf (c := n) rows hn24)
    clear hm hf hred
    go_enter Tryd.func57, Tryd.ntmps57
    go_upto_region 1 with fail
    generalize ((w.alloc (.cells #[.int .i64 n, .slice A rows.length cp] tSp)).alloc (.cells #[.int .i64 0, .slice none 0 0] tSp)) = W0 at HVB HV hB0 HX0 HY0 HT hsz0 ⊢
    have hz0' : w.heap.size + 2 ≤ W0.heap.size := by omega
    clear hsz0
    obtain ⟨hx0, hx1, hxf0, hxf1, hxs⟩ := HX0.out.two
    go_wp2_with fail
    refine (implIsSpace_any W0 B _ p n rows HT.out HV.out hB0).mono ?_
    rintro e w1 ⟨rfl, b1⟩
    rw [HM.out]
    have HX1 := Lib.hid (HX0.out.below b1 hxs)
    have HY1 := Lib.hid (HY0.out.below b1 (by omega))
    have HV1 := Lib.hid (HV.out.below b1 hB0)
    have HB1 := Lib.hid (HVB.out.trans (b1.mono HVB.out.size))
    have hs1 : W0.heap.size ≤ w1.heap.size := b1.size
    clear b1 hx0 hx1 hxf0 hxf1 hxs
    obtain ⟨hx0, hx1, hxf0, hxf1, hxs⟩ := HX1.out.two
    go_wp2_with fail
    refine (orthogonalOf_any w1 B _ p n rows HV1.out.1 (Nat.le_trans hB0 hs1) HF.out HRD.out (by omega)).mono ?_
    rintro e w2 ⟨v2, rfl, b2, o2⟩
    obtain ⟨A2, c2, rfl⟩ := OwG.len o2
    have HB2 := Lib.hid b2
    have HO2 := Lib.hid (OwG.mono (T := fun q => w1.heap.size ≤ q) o2 (fun q hq _ => hq))
    have HY2 := Lib.hid (HY1.out.below HB2.out (by omega))
    clear b2 o2 hx0 hx1 hxf0 hxf1 hxs
    obtain ⟨hy0, hy1, hyf0, hyf1, hys⟩ := HY2.out.two
    have HBE := Lib.hid (HB1.out.trans (HB2.out.mono HB1.out.size))
    go_wp2
    refine bodyPost_ret (v := .tuple #[.agg #[.int .i64 n, .slice A2 (nullB p rows n).length c2], .bool true]) (by simp [results, Tryd.results57, go_sem, hy0, hy1]) rfl ?_
    rw [(ort_yes HM.out).1, (ort_yes HM.out).2]
    refine ⟨_, rfl, (by refine Below.trans HBE.out ?_; repeat' (first | exact Below.refl _ _ | apply Below.drew | apply Below.setCell | apply Below.alloc | (simp; done) | omega | (simp; omega))), (HO2.out.blocks (fun k hk _ => ?_)).mono (fun k hk _ => by omega), HSZ.out⟩
    repeat rw [blk_setCell_other _ _ _ _ (by dsimp only; omega)]
end Go.Proofs.YtgncgihneemmcaaDoor
