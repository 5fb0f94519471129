/- ProjectOf: both sides. -/
import Derived.Test.YtahlicbjbbpihaaDoorPrjI
import Derived.Test.YtahlicbjbbpihaaDoorRetSpaceB
namespace Go.Proofs.YtahlicbjbbpihaaDoor
set_option maxRecDepth 100000
open Go Go.RowKit Go.Deep

def prjOk (p c : Int) (R : List (List Int)) (cols : List Int) : Bool := isSp p c R && decide (cols.length ≤ 24) && inIdx c cols
def prjC (p c : Int) (R : List (List Int)) (cols : List Int) : Int := if prjOk p c R cols then cols.length else 0
def prjR (p c : Int) (R : List (List Int)) (cols : List Int) : List (List Int) := if prjOk p c R cols then rref p (prj R cols) cols.length else []
theorem prj_no {p c : Int} {R : List (List Int)} {cols : List Int} (h : prjOk p c R cols = false) : prjC p c R cols = 0 ∧ prjR p c R cols = [] := by simp [prjC, prjR, h]
theorem prj_yes {p c : Int} {R : List (List Int)} {cols : List Int} (h : prjOk p c R cols = true) : prjC p c R cols = cols.length ∧ prjR p c R cols = rref p (prj R cols) cols.length := by simp [prjC, prjR, h]
set_option maxHeartbeats 3200000 in
theorem spec_ProjectOf (w : World) (B : Nat) (v vi : Value) (p c : Int) (R : List (List Int)) (cols : List Int) (hv : LfG w B v R) (hm : LfR w B vi cols) (hB : B ≤ w.heap.size) (_hs : szG R ≤ 1048576) (_hsm : szR cols ≤ 1048576) :
    Calls Tryd.prog 42 #[.int .i64 p, .agg #[.int .i64 c, v], vi] w (SRetSpaceB w (prjC p c R cols) (prjR p c R cols) (prjOk p c R cols)) := by
  obtain ⟨A, cp, rfl⟩ := hv.len
  obtain ⟨Ai, ci, rfl⟩ := hm.len
  have HVB := Lib.hid (show Below w.heap.size w ((w.alloc (.cells #[.int .i64 c, .slice A R.length cp] tSp)).alloc (.cells #[.int .i64 0, .slice none 0 0] tSp)) by repeat' (first | exact Below.refl _ _ | apply Below.alloc | (simp; done) | (simp; omega)))
  have HV := Lib.hid (hv.below HVB.out hB)
  have HW := Lib.hid (hm.below HVB.out hB)
  have hB0 : B ≤ ((w.alloc (.cells #[.int .i64 c, .slice A R.length cp] tSp)).alloc (.cells #[.int .i64 0, .slice none 0 0] tSp)).heap.size := Nat.le_trans hB HVB.out.size
  have HX0 := Lib.hid ((cellsAt_new w #[.int .i64 c, .slice A R.length cp] tSp).alloc (.cells #[.int .i64 0, .slice none 0 0] tSp))
  have HY0 := Lib.hid (cellsAt_new' (w.alloc (.cells #[.int .i64 c, .slice A R.length cp] tSp)) #[.int .i64 0, .slice none 0 0] tSp _ (w.heap.size + 1) (by simp) rfl)
  have hsz0 : ((w.alloc (.cells #[.int .i64 c, .slice A R.length cp] tSp)).alloc (.cells #[.int .i64 0, .slice none 0 0] tSp)).heap.size = w.heap.size + 2 := by simp
  clear hv hm
  cases hs : isSp p c R with
  | false =>
    have HS := Lib.hid hs
    have HOK := Lib.hid (show prjOk p c R cols = false by simp [prjOk, hs])
    clear hs
    go_enter Tryd.func42, Tryd.ntmps42
    go_upto_region 1 with fail
    generalize ((w.alloc (.cells #[.int .i64 c, .slice A R.length cp] tSp)).alloc (.cells #[.int .i64 0, .slice none 0 0] tSp)) = W0 at HVB HV HW hB0 HX0 HY0 hsz0 ⊢
    have hz0' : w.heap.size + 2 ≤ W0.heap.size := by omega
    clear hsz0
    obtain ⟨hx0, hx1, hxf0, hxf1, hxs⟩ := HX0.out.two
    go_wp2_with fail
    refine (spGood_any W0 B _ p c R HV.out hB0).mono ?_
    rintro e w1 ⟨rfl, b1⟩
    rw [HS.out]
    have HX1 := Lib.hid (HX0.out.below b1 hxs)
    have HY1 := Lib.hid (HY0.out.below b1 (by omega))
    have HV1 := Lib.hid (HV.out.below b1 hB0)
    have HW1 := Lib.hid (HW.out.below b1 hB0)
    have HB1 := Lib.hid (HVB.out.trans (b1.mono HVB.out.size))
    have hs1 : W0.heap.size ≤ w1.heap.size := b1.size
    have hB1 : B ≤ w1.heap.size := Nat.le_trans hB0 hs1
    clear b1 hx0 hx1 hxf0 hxf1 hxs
    obtain ⟨hx0, hx1, hxf0, hxf1, hxs⟩ := HX1.out.two
    obtain ⟨hy0, hy1, hyf0, hyf1, hys⟩ := HY1.out.two
    go_wp2
    refine bodyPost_ret (v := .tuple #[.agg #[.int .i64 0, .slice none 0 0], .bool false]) (by simp [results, Tryd.results42, go_sem, hy0, hy1]) rfl ?_
    rw [HOK.out, (prj_no HOK.out).1, (prj_no HOK.out).2]
    exact ⟨_, rfl, (by refine Below.trans HB1.out ?_; repeat' (first | exact Below.refl _ _ | apply Below.drew | apply Below.setCell | apply Below.alloc | (simp; done) | omega | (simp; omega))), ⟨none, 0, rfl, Or.inl rfl⟩, by simp [szG, tot]⟩
  | true =>
    by_cases hl : cols.length ≤ 24
    · obtain ⟨hf, n, rfl, hn24, hln, hred, -⟩ := isSp_parts hs
      have hq : ¬ (24 : Int) < (cols.length : Int) := by omega
      cases hix : inIdx n cols with
      | false =>
        have HS := Lib.hid hs
        have HOK := Lib.hid (show prjOk p n R cols = false by simp [prjOk, hix])
        have HIX := Lib.hid (show cols.all (between 0 ((n : Int) - 1)) = false from by rw [inIdx_between]; exact hix)
        clear hs hf hred hix
        go_enter Tryd.func42, Tryd.ntmps42
        go_upto_region 1 with fail
        generalize ((w.alloc (.cells #[.int .i64 n, .slice A R.length cp] tSp)).alloc (.cells #[.int .i64 0, .slice none 0 0] tSp)) = W0 at HVB HV HW hB0 HX0 HY0 hsz0 ⊢
        have hz0' : w.heap.size + 2 ≤ W0.heap.size := by omega
        clear hsz0
        obtain ⟨hx0, hx1, hxf0, hxf1, hxs⟩ := HX0.out.two
        go_wp2_with fail
        refine (spGood_any W0 B _ p n R HV.out hB0).mono ?_
        rintro e w1 ⟨rfl, b1⟩
        rw [HS.out]
        have HX1 := Lib.hid (HX0.out.below b1 hxs)
        have HY1 := Lib.hid (HY0.out.below b1 (by omega))
        have HV1 := Lib.hid (HV.out.below b1 hB0)
        have HW1 := Lib.hid (HW.out.below b1 hB0)
        have HB1 := Lib.hid (HVB.out.trans (b1.mono HVB.out.size))
        have hs1 : W0.heap.size ≤ w1.heap.size := b1.size
        have hB1 : B ≤ w1.heap.size := Nat.le_trans hB0 hs1
        clear b1 hx0 hx1 hxf0 hxf1 hxs
        obtain ⟨hx0, hx1, hxf0, hxf1, hxs⟩ := HX1.out.two
        obtain ⟨hy0, hy1, hyf0, hyf1, hys⟩ := HY1.out.two
        go_wp2_with fail
        refine (l1All_any w1 B _ cols 0 (n - 1) HW1.out.1 HW1.out.2).mono ?_
        rintro e w' ⟨rfl, rfl⟩
        rw [HIX.out]
        go_wp2
        refine bodyPost_ret (v := .tuple #[.agg #[.int .i64 0, .slice none 0 0], .bool false]) (by simp [results, Tryd.results42, go_sem, hy0, hy1]) rfl ?_
        rw [HOK.out, (prj_no HOK.out).1, (prj_no HOK.out).2]
        exact ⟨_, rfl, (by refine Below.trans HB1.out ?_; repeat' (first | exact Below.refl _ _ | apply Below.drew | apply Below.setCell | apply Below.alloc | (simp; done) | omega | (simp; omega))), ⟨none, 0, rfl, Or.inl rfl⟩, by simp [szG, tot]⟩
      | true =>
        have HS := Lib.hid hs
        have HOK := Lib.hid (show prjOk p n R cols = true by simp [prjOk, hs, hix, hl])
        have HIX := Lib.hid (show cols.all (between 0 ((n : Int) - 1)) = true from by rw [inIdx_between]; exact hix)
        have HF := Lib.hid hf
        have HRM := Lib.hid hred.mat
        have HD := Lib.hid (inIdx_mem hix)
        have HSZ := Lib.hid (rref_sz hf hl (prj_mat hred.mat (inIdx_mem hix)))
        clear hs hf hred hix
        go_enter Tryd.func42, Tryd.ntmps42
        go_upto_region 1 with fail
        generalize ((w.alloc (.cells #[.int .i64 n, .slice A R.length cp] tSp)).alloc (.cells #[.int .i64 0, .slice none 0 0] tSp)) = W0 at HVB HV HW hB0 HX0 HY0 hsz0 ⊢
        have hz0' : w.heap.size + 2 ≤ W0.heap.size := by omega
        clear hsz0
        obtain ⟨hx0, hx1, hxf0, hxf1, hxs⟩ := HX0.out.two
        go_wp2_with fail
        refine (spGood_any W0 B _ p n R HV.out hB0).mono ?_
        rintro e w1 ⟨rfl, b1⟩
        rw [HS.out]
        have HX1 := Lib.hid (HX0.out.below b1 hxs)
        have HY1 := Lib.hid (HY0.out.below b1 (by omega))
        have HV1 := Lib.hid (HV.out.below b1 hB0)
        have HW1 := Lib.hid (HW.out.below b1 hB0)
        have HB1 := Lib.hid (HVB.out.trans (b1.mono HVB.out.size))
        have hs1 : W0.heap.size ≤ w1.heap.size := b1.size
        have hB1 : B ≤ w1.heap.size := Nat.le_trans hB0 hs1
        clear b1 hx0 hx1 hxf0 hxf1 hxs
        obtain ⟨hx0, hx1, hxf0, hxf1, hxs⟩ := HX1.out.two
        obtain ⟨hy0, hy1, hyf0, hyf1, hys⟩ := HY1.out.two
        go_wp2_with fail
        refine (l1All_any w1 B _ cols 0 (n - 1) HW1.out.1 HW1.out.2).mono ?_
        rintro e w' ⟨rfl, rfl⟩
        rw [HIX.out]
        go_wp2_with fail
        refine (spProject_any w1 B _ _ p R.length n R cols HV1.out.1 HW1.out.1 hB1 HF.out HRM.out (by omega) (by omega) HD.out).mono ?_
        rintro e w3 ⟨v3, rfl, b3, o3⟩
        obtain ⟨A3, c3, rfl⟩ := OwG.len o3
        have HB3 := Lib.hid b3
        have HO3 := Lib.hid (OwG.mono (T := fun q => w1.heap.size ≤ q) o3 (fun q hq _ => hq))
        have HY3 := Lib.hid (HY1.out.below HB3.out (by omega))
        clear b3 o3 hy0 hy1 hyf0 hyf1 hys
        obtain ⟨hy0, hy1, hyf0, hyf1, hys⟩ := HY3.out.two
        have HBE := Lib.hid (HB1.out.trans (HB3.out.mono HB1.out.size))
        go_wp2
        refine bodyPost_ret (v := .tuple #[.agg #[.int .i64 cols.length, .slice A3 (rref p (prj R cols) cols.length).length c3], .bool true]) (by simp [results, Tryd.results42, go_sem, hy0, hy1]) rfl ?_
        rw [HOK.out, (prj_yes HOK.out).1, (prj_yes HOK.out).2]
        refine ⟨_, rfl, (by refine Below.trans HBE.out ?_; repeat' (first | exact Below.refl _ _ | apply Below.drew | apply Below.setCell | apply Below.alloc | (simp; done) | omega | (simp; omega))), (HO3.out.blocks (fun k hk _ => ?_)).mono (fun k hk _ => by omega), HSZ.out⟩
        repeat rw [blk_setCell_other _ _ _ _ (by dsimp only; omega)]
    · have HS := Lib.hid hs
      have hq : (24 : Int) < (cols.length : Int) := by omega
      have HOK := Lib.hid (show prjOk p c R cols = false by simp [prjOk, hl])
      clear hs hl
      go_enter Tryd.func42, Tryd.ntmps42
      go_upto_region 1 with fail
      generalize ((w.alloc (.cells #[.int .i64 c, .slice A R.length cp] tSp)).alloc (.cells #[.int .i64 0, .slice none 0 0] tSp)) = W0 at HVB HV HW hB0 HX0 HY0 hsz0 ⊢
      have hz0' : w.heap.size + 2 ≤ W0.heap.size := by omega
      clear hsz0
      obtain ⟨hx0, hx1, hxf0, hxf1, hxs⟩ := HX0.out.two
      go_wp2_with fail
      refine (spGood_any W0 B _ p c R HV.out hB0).mono ?_
      rintro e w1 ⟨rfl, b1⟩
      rw [HS.out]
      have HX1 := Lib.hid (HX0.out.below b1 hxs)
      have HY1 := Lib.hid (HY0.out.below b1 (by omega))
      have HV1 := Lib.hid (HV.out.below b1 hB0)
      have HW1 := Lib.hid (HW.out.below b1 hB0)
      have HB1 := Lib.hid (HVB.out.trans (b1.mono HVB.out.size))
      have hs1 : W0.heap.size ≤ w1.heap.size := b1.size
      have hB1 : B ≤ w1.heap.size := Nat.le_trans hB0 hs1
      clear b1 hx0 hx1 hxf0 hxf1 hxs
      obtain ⟨hx0, hx1, hxf0, hxf1, hxs⟩ := HX1.out.two
      obtain ⟨hy0, hy1, hyf0, hyf1, hys⟩ := HY1.out.two
      go_wp2
      refine bodyPost_ret (v := .tuple #[.agg #[.int .i64 0, .slice none 0 0], .bool false]) (by simp [results, Tryd.results42, go_sem, hy0, hy1]) rfl ?_
      rw [HOK.out, (prj_no HOK.out).1, (prj_no HOK.out).2]
      exact ⟨_, rfl, (by refine Below.trans HB1.out ?_; repeat' (first | exact Below.refl _ _ | apply Below.drew | apply Below.setCell | apply Below.alloc | (simp; done) | omega | (simp; omega))), ⟨none, 0, rfl, Or.inl rfl⟩, by simp [szG, tot]⟩
set_option maxHeartbeats 3200000 in
theorem impl_ProjectOf (w : World) (B : Nat) (v vi : Value) (p c : Int) (R : List (List Int)) (cols : List Int) (ht : Tab w) (hv : LfG w B v R) (hm : LfR w B vi cols) (hB : B ≤ w.heap.size) (_hs : szG R ≤ 1048576) (_hsm : szR cols ≤ 1048576) :
    Calls Tryd.prog 43 #[.int .i64 p, .agg #[.int .i64 c, v], vi] w (IRetSpaceB w (prjC p c R cols) (prjR p c R cols) (prjOk p c R cols)) := by
  obtain ⟨A, cp, rfl⟩ := hv.len
  obtain ⟨Ai, ci, rfl⟩ := hm.len
  have HVB := Lib.hid (show Below w.heap.size w ((w.alloc (.cells #[.int .i64 c, .slice A R.length cp] tSp)).alloc (.cells #[.int .i64 0, .slice none 0 0] tSp)) by repeat' (first | exact Below.refl _ _ | apply Below.alloc | (simp; done) | (simp; omega)))
  have HV := Lib.hid (hv.below HVB.out hB)
  have HW := Lib.hid (hm.below HVB.out hB)
  have hB0 : B ≤ ((w.alloc (.cells #[.int .i64 c, .slice A R.length cp] tSp)).alloc (.cells #[.int .i64 0, .slice none 0 0] tSp)).heap.size := Nat.le_trans hB HVB.out.size
  have HX0 := Lib.hid ((cellsAt_new w #[.int .i64 c, .slice A R.length cp] tSp).alloc (.cells #[.int .i64 0, .slice none 0 0] tSp))
  have HY0 := Lib.hid (cellsAt_new' (w.alloc (.cells #[.int .i64 c, .slice A R.length cp] tSp)) #[.int .i64 0, .slice none 0 0] tSp _ (w.heap.size + 1) (by simp) rfl)
  have hsz0 : ((w.alloc (.cells #[.int .i64 c, .slice A R.length cp] tSp)).alloc (.cells #[.int .i64 0, .slice none 0 0] tSp)).heap.size = w.heap.size + 2 := by simp
  have HT := Lib.hid (ht.below HVB.out)
  clear hv hm ht
  cases hs : isSp p c R with
  | false =>
    have HS := Lib.hid hs
    have HOK := Lib.hid (show prjOk p c R cols = false by simp [prjOk, hs])
    clear hs
    go_enter Tryd.func43, Tryd.ntmps43
    go_upto_region 1 with fail
    generalize ((w.alloc (.cells #[.int .i64 c, .slice A R.length cp] tSp)).alloc (.cells #[.int .i64 0, .slice none 0 0] tSp)) = W0 at HVB HV HW hB0 HX0 HY0 HT hsz0 ⊢
    have hz0' : w.heap.size + 2 ≤ W0.heap.size := by omega
    clear hsz0
    obtain ⟨hx0, hx1, hxf0, hxf1, hxs⟩ := HX0.out.two
    go_wp2_with fail
    refine (implIsSpace_any W0 B _ p c R HT.out HV.out hB0).mono ?_
    rintro e w1 ⟨rfl, b1⟩
    rw [HS.out]
    have HX1 := Lib.hid (HX0.out.below b1 hxs)
    have HY1 := Lib.hid (HY0.out.below b1 (by omega))
    have HV1 := Lib.hid (HV.out.below b1 hB0)
    have HW1 := Lib.hid (HW.out.below b1 hB0)
    have HB1 := Lib.hid (HVB.out.trans (b1.mono HVB.out.size))
    have hs1 : W0.heap.size ≤ w1.heap.size := b1.size
    have hB1 : B ≤ w1.heap.size := Nat.le_trans hB0 hs1
    clear b1 hx0 hx1 hxf0 hxf1 hxs
    obtain ⟨hx0, hx1, hxf0, hxf1, hxs⟩ := HX1.out.two
    obtain ⟨hy0, hy1, hyf0, hyf1, hys⟩ := HY1.out.two
    go_wp2
    refine bodyPost_ret (v := .tuple #[.agg #[.int .i64 0, .slice none 0 0], .bool false]) (by simp [results, Tryd.results43, go_sem, hy0, hy1]) rfl ?_
    rw [HOK.out, (prj_no HOK.out).1, (prj_no HOK.out).2]
    exact ⟨_, rfl, (by refine Below.trans HB1.out ?_; repeat' (first | exact Below.refl _ _ | apply Below.drew | apply Below.setCell | apply Below.alloc | (simp; done) | omega | (simp; omega))), ⟨none, 0, rfl, Or.inl rfl⟩, by simp [szG, tot]⟩
  | true =>
    by_cases hl : cols.length ≤ 24
    · obtain ⟨hf, n, rfl, hn24, hln, hred, -⟩ := isSp_parts hs
      have hq : ¬ (24 : Int) < (cols.length : Int) := by omega
      cases hix : inIdx n cols with
      | false =>
        have HS := Lib.hid hs
        have HOK := Lib.hid (show prjOk p n R cols = false by simp [prjOk, hix])
        have HIX := Lib.hid (show inIdx n cols = false from hix)
        clear hs hf hred hix
        go_enter Tryd.func43, Tryd.ntmps43
        go_upto_region 1 with fail
        generalize ((w.alloc (.cells #[.int .i64 n, .slice A R.length cp] tSp)).alloc (.cells #[.int .i64 0, .slice none 0 0] tSp)) = W0 at HVB HV HW hB0 HX0 HY0 HT hsz0 ⊢
        have hz0' : w.heap.size + 2 ≤ W0.heap.size := by omega
        clear hsz0
        obtain ⟨hx0, hx1, hxf0, hxf1, hxs⟩ := HX0.out.two
        go_wp2_with fail
        refine (implIsSpace_any W0 B _ p n R HT.out HV.out hB0).mono ?_
        rintro e w1 ⟨rfl, b1⟩
        rw [HS.out]
        have HX1 := Lib.hid (HX0.out.below b1 hxs)
        have HY1 := Lib.hid (HY0.out.below b1 (by omega))
        have HV1 := Lib.hid (HV.out.below b1 hB0)
        have HW1 := Lib.hid (HW.out.below b1 hB0)
        have HB1 := Lib.hid (HVB.out.trans (b1.mono HVB.out.size))
        have hs1 : W0.heap.size ≤ w1.heap.size := b1.size
        have hB1 : B ≤ w1.heap.size := Nat.le_trans hB0 hs1
        clear b1 hx0 hx1 hxf0 hxf1 hxs
        obtain ⟨hx0, hx1, hxf0, hxf1, hxs⟩ := HX1.out.two
        obtain ⟨hy0, hy1, hyf0, hyf1, hys⟩ := HY1.out.two
        go_wp2_with fail
        refine (areIndices_any w1 B _ n cols HW1.out.1 HW1.out.2).mono ?_
        rintro e w' ⟨rfl, rfl⟩
        rw [HIX.out]
        go_wp2
        refine bodyPost_ret (v := .tuple #[.agg #[.int .i64 0, .slice none 0 0], .bool false]) (by simp [results, Tryd.results43, go_sem, hy0, hy1]) rfl ?_
        rw [HOK.out, (prj_no HOK.out).1, (prj_no HOK.out).2]
        exact ⟨_, rfl, (by refine Below.trans HB1.out ?_; repeat' (first | exact Below.refl _ _ | apply Below.drew | apply Below.setCell | apply Below.alloc | (simp; done) | omega | (simp; omega))), ⟨none, 0, rfl, Or.inl rfl⟩, by simp [szG, tot]⟩
      | true =>
        have HS := Lib.hid hs
        have HOK := Lib.hid (show prjOk p n R cols = true by simp [prjOk, hs, hix, hl])
        have HIX := Lib.hid (show inIdx n cols = true from hix)
        have HF := Lib.hid hf
        have HRM := Lib.hid hred.mat
        have HD := Lib.hid (inIdx_mem hix)
        have HSZ := Lib.hid (rref_sz hf hl (prj_mat hred.mat (inIdx_mem hix)))
        clear hs hf hred hix
        go_enter Tryd.func43, Tryd.ntmps43
        go_upto_region 1 with fail
        generalize ((w.alloc (.cells #[.int .i64 n, .slice A R.length cp] tSp)).alloc (.cells #[.int .i64 0, .slice none 0 0] tSp)) = W0 at HVB HV HW hB0 HX0 HY0 HT hsz0 ⊢
        have hz0' : w.heap.size + 2 ≤ W0.heap.size := by omega
        clear hsz0
        obtain ⟨hx0, hx1, hxf0, hxf1, hxs⟩ := HX0.out.two
        go_wp2_with fail
        refine (implIsSpace_any W0 B _ p n R HT.out HV.out hB0).mono ?_
        rintro e w1 ⟨rfl, b1⟩
        rw [HS.out]
        have HX1 := Lib.hid (HX0.out.below b1 hxs)
        have HY1 := Lib.hid (HY0.out.below b1 (by omega))
        have HV1 := Lib.hid (HV.out.below b1 hB0)
        have HW1 := Lib.hid (HW.out.below b1 hB0)
        have HB1 := Lib.hid (HVB.out.trans (b1.mono HVB.out.size))
        have hs1 : W0.heap.size ≤ w1.heap.size := b1.size
        have hB1 : B ≤ w1.heap.size := Nat.le_trans hB0 hs1
        clear b1 hx0 hx1 hxf0 hxf1 hxs
        obtain ⟨hx0, hx1, hxf0, hxf1, hxs⟩ := HX1.out.two
        obtain ⟨hy0, hy1, hyf0, hyf1, hys⟩ := HY1.out.two
        go_wp2_with fail
        refine (areIndices_any w1 B _ n cols HW1.out.1 HW1.out.2).mono ?_
        rintro e w' ⟨rfl, rfl⟩
        rw [HIX.out]
        go_wp2_with fail
        refine (projectOf_any w1 B _ _ p R.length n R cols HV1.out.1 HW1.out.1 hB1 HF.out HRM.out (by omega) (by omega) HD.out).mono ?_
        rintro e w3 ⟨v3, rfl, b3, o3⟩
        obtain ⟨A3, c3, rfl⟩ := OwG.len o3
        have HB3 := Lib.hid b3
        have HO3 := Lib.hid (OwG.mono (T := fun q => w1.heap.size ≤ q) o3 (fun q hq _ => hq))
        have HY3 := Lib.hid (HY1.out.below HB3.out (by omega))
        clear b3 o3 hy0 hy1 hyf0 hyf1 hys
        obtain ⟨hy0, hy1, hyf0, hyf1, hys⟩ := HY3.out.two
        have HBE := Lib.hid (HB1.out.trans (HB3.out.mono HB1.out.size))
        go_wp2
        refine bodyPost_ret (v := .tuple #[.agg #[.int .i64 cols.length, .slice A3 (rref p (prj R cols) cols.length).length c3], .bool true]) (by simp [results, Tryd.results43, go_sem, hy0, hy1]) rfl ?_
        rw [HOK.out, (prj_yes HOK.out).1, (prj_yes HOK.out).2]
        refine ⟨_, rfl, (by refine Below.trans HBE.out ?_; repeat' (first | exact Below.refl _ _ | apply Below.drew | apply Below.setCell | apply Below.alloc | (simp; done) | omega | (simp; omega))), (HO3.out.blocks (fun k hk _ => ?_)).mono (fun k hk _ => by omega), HSZ.out⟩
        repeat rw [blk_setCell_other _ _ _ _ (by dsimp only; omega)]
    · have HS := Lib.hid hs
      have hq : (24 : Int) < (cols.length : Int) := by omega
      have HOK := Lib.hid (show prjOk p c R cols = false by simp [prjOk, hl])
      clear hs hl
      go_enter Tryd.func43, Tryd.ntmps43
      go_upto_region 1 with fail
      generalize ((w.alloc (.cells #[.int .i64 c, .slice A R.length cp] tSp)).alloc (.cells #[.int .i64 0, .slice none 0 0] tSp)) = W0 at HVB HV HW hB0 HX0 HY0 HT hsz0 ⊢
      have hz0' : w.heap.size + 2 ≤ W0.heap.size := by omega
      clear hsz0
      obtain ⟨hx0, hx1, hxf0, hxf1, hxs⟩ := HX0.out.two
      go_wp2_with fail
      refine (implIsSpace_any W0 B _ p c R HT.out HV.out hB0).mono ?_
      rintro e w1 ⟨rfl, b1⟩
      rw [HS.out]
      have HX1 := Lib.hid (HX0.out.below b1 hxs)
      have HY1 := Lib.hid (HY0.out.below b1 (by omega))
      have HV1 := Lib.hid (HV.out.below b1 hB0)
      have HW1 := Lib.hid (HW.out.below b1 hB0)
      have HB1 := Lib.hid (HVB.out.trans (b1.mono HVB.out.size))
      have hs1 : W0.heap.size ≤ w1.heap.size := b1.size
      have hB1 : B ≤ w1.heap.size := Nat.le_trans hB0 hs1
      clear b1 hx0 hx1 hxf0 hxf1 hxs
      obtain ⟨hx0, hx1, hxf0, hxf1, hxs⟩ := HX1.out.two
      obtain ⟨hy0, hy1, hyf0, hyf1, hys⟩ := HY1.out.two
      go_wp2
      refine bodyPost_ret (v := .tuple #[.agg #[.int .i64 0, .slice none 0 0], .bool false]) (by simp [results, Tryd.results43, go_sem, hy0, hy1]) rfl ?_
      rw [HOK.out, (prj_no HOK.out).1, (prj_no HOK.out).2]
      exact ⟨_, rfl, (by refine Below.trans HB1.out ?_; repeat' (first | exact Below.refl _ _ | apply Below.drew | apply Below.setCell | apply Below.alloc | (simp; done) | omega | (simp; omega))), ⟨none, 0, rfl, Or.inl rfl⟩, by simp [szG, tot]⟩
end Go.Proofs.YtahlicbjbbpihaaDoor
