/- HasPair: both sides. -/
import Derived.Test.YtpoghbdomknfcaaDoorRowCat
import Derived.Test.YtpoghbdomknfcaaDoorVecI
import Derived.Test.YtpoghbdomknfcaaDoorVecS
import Derived.Test.YtpoghbdomknfcaaDoorVecA
import Derived.Test.YtpoghbdomknfcaaDoorIsRl
import Derived.Test.YtpoghbdomknfcaaDoorLawGB
import Derived.Test.YtpoghbdomknfcaaDoorRetBB
namespace Go.Proofs.YtpoghbdomknfcaaDoor
set_option maxRecDepth 100000
open Go Go.RowKit Go.Deep

def pairOk (p l r : Int) (R : List (List Int)) (x y : List Int) : Bool := isRl p l r R && rowB p l x && rowB p r y
def hpV (p l r : Int) (R : List (List Int)) (x y : List Int) : Bool := pairOk p l r R x y && hasV p (l + r).toNat R (x ++ y)
theorem pair_rl {p l r : Int} {R : List (List Int)} {x y : List Int} (h : isRl p l r R = false) : pairOk p l r R x y = false ∧ hpV p l r R x y = false := by simp [pairOk, hpV, h]
theorem pair_x {p l r : Int} {R : List (List Int)} {x y : List Int} (h : rowB p l x = false) : pairOk p l r R x y = false ∧ hpV p l r R x y = false := by simp [pairOk, hpV, h]
theorem pair_y {p l r : Int} {R : List (List Int)} {x y : List Int} (h : rowB p r y = false) : pairOk p l r R x y = false ∧ hpV p l r R x y = false := by simp [pairOk, hpV, h]
theorem pair_ok {p : Int} {a b : Nat} {R : List (List Int)} {x y : List Int} (h : isRl p a b R = true) (hx : rowB p a x = true) (hy : rowB p b y = true) : pairOk p a b R x y = true ∧ hpV p a b R x y = hasV p (a + b) R (x ++ y) := by
  have e : ((a : Int) + (b : Int)).toNat = a + b := by omega
  simp [pairOk, hpV, h, hx, hy, e]
theorem vec_app {p : Int} {a b : Nat} {x y : List Int} (hx : Vec p a x) (hy : Vec p b y) : Vec p (a + b) (x ++ y) := by
  refine ⟨by rw [List.length_append, hx.1, hy.1], fun z hz => ?_⟩
  rcases List.mem_append.1 hz with h | h
  · exact hx.2 z h
  · exact hy.2 z h
set_option maxHeartbeats 3200000 in
theorem impl_HasPair (w : World) (B : Nat) (v vx vy : Value) (p l r : Int) (R : List (List Int)) (x y : List Int) (hbl : Bi l) (_hbr : Bi r) (ht : Tab w) (hv : LfG w B v R) (hx : LfR w B vx x) (hy : LfR w B vy y) (hB : B ≤ w.heap.size) (_hs : szG R ≤ 1048576) (_hsx : szR x ≤ 1048576) (_hsy : szR y ≤ 1048576) :
    Calls Tryd.prog 44 #[.int .i64 p, .agg #[.int .i64 l, .int .i64 r, v], vx, vy] w (IRetBB w (hpV p l r R x y) (pairOk p l r R x y)) := by
  obtain ⟨A, cp, rfl⟩ := hv.len
  obtain ⟨Ax, cx, rfl⟩ := hx.len
  obtain ⟨Ay, cy, rfl⟩ := hy.len
  cases hs : isRl p l r R with
  | false =>
    have HOK := Lib.hid hs
    have HOX := Lib.hid (pair_rl (x := x) (y := y) hs)
    clear hs
    have HVB := Lib.hid (show Below w.heap.size w (w.alloc (.cells #[.int .i64 l, .int .i64 r, .slice A R.length cp] tRl)) from (Below.refl _ _).alloc (Nat.le_refl _) _)
    have HV := Lib.hid (hv.below HVB.out hB)
    have HX := Lib.hid (hx.below HVB.out hB)
    have HY := Lib.hid (hy.below HVB.out hB)
    have hB0 : B ≤ (w.alloc (.cells #[.int .i64 l, .int .i64 r, .slice A R.length cp] tRl)).heap.size := Nat.le_trans hB HVB.out.size
    have HR0 := Lib.hid (cellsAt_new w #[.int .i64 l, .int .i64 r, .slice A R.length cp] tRl)
    have HT := Lib.hid (ht.below HVB.out)
    have HBL := Lib.hid hbl.2
    clear hv hx hy hB hbl ht
    go_enter Tryd.func44, Tryd.ntmps44
    go_upto_region 1 with fail
    generalize (w.alloc (.cells #[.int .i64 l, .int .i64 r, .slice A R.length cp] tRl)) = W0 at HVB HV HX HY hB0 HR0 HT ⊢
    obtain ⟨hr0, hr1, hr2, hrf0, hrf1, hrf2, hrs⟩ := HR0.out.three
    go_wp2_with fail
    refine (implIsRelation_any W0 B _ p l r R HT.out HV.out hB0 HBL.out).mono ?_
    rintro e w1 ⟨rfl, b1⟩
    rw [HOK.out]
    have HR1 := Lib.hid (HR0.out.below b1 hrs)
    have HV1 := Lib.hid (HV.out.below b1 hB0)
    have HX1 := Lib.hid (HX.out.below b1 hB0)
    have HY1 := Lib.hid (HY.out.below b1 hB0)
    have HT1 := Lib.hid (HT.out.below b1)
    have HB1 := Lib.hid (HVB.out.trans (b1.mono HVB.out.size))
    have hB1 : B ≤ w1.heap.size := Nat.le_trans hB0 b1.size
    clear b1 hr0 hr1 hr2 hrf0 hrf1 hrf2 hrs
    go_wp2
    go_ret2
    rw [HOX.out.1, HOX.out.2]
    exact ⟨rfl, HB1.out⟩
  | true =>
    obtain ⟨hf, a, b, rfl, rfl, hab, hln, hred⟩ := isRl_parts hs
    have HOK := Lib.hid hs
    have HF := Lib.hid hf
    have HRD := Lib.hid hred
    have key1 : areL p a [x] = rowB p a x := by rw [areL_rows _ _ _ hf]; simp
    have key2 : areL p b [y] = rowB p b y := by rw [areL_rows _ _ _ hf]; simp
    have HK1 := Lib.hid key1
    have HK2 := Lib.hid key2
    have HHS := Lib.hid hs
    clear hs hf hred key1 key2
    cases hxb : rowB p a x with
    | false =>
      have HKX := Lib.hid hxb
      have HOX := Lib.hid (pair_x (r := b) (R := R) (y := y) hxb)
      clear hxb
      have HVB := Lib.hid (show Below w.heap.size w (w.alloc (.cells #[.int .i64 a, .int .i64 b, .slice A R.length cp] tRl)) from (Below.refl _ _).alloc (Nat.le_refl _) _)
      have HV := Lib.hid (hv.below HVB.out hB)
      have HX := Lib.hid (hx.below HVB.out hB)
      have HY := Lib.hid (hy.below HVB.out hB)
      have hB0 : B ≤ (w.alloc (.cells #[.int .i64 a, .int .i64 b, .slice A R.length cp] tRl)).heap.size := Nat.le_trans hB HVB.out.size
      have HR0 := Lib.hid (cellsAt_new w #[.int .i64 a, .int .i64 b, .slice A R.length cp] tRl)
      have HT := Lib.hid (ht.below HVB.out)
      have HBL := Lib.hid hbl.2
      clear hv hx hy hB hbl ht
      go_enter Tryd.func44, Tryd.ntmps44
      go_upto_region 1 with fail
      generalize (w.alloc (.cells #[.int .i64 a, .int .i64 b, .slice A R.length cp] tRl)) = W0 at HVB HV HX HY hB0 HR0 HT ⊢
      obtain ⟨hr0, hr1, hr2, hrf0, hrf1, hrf2, hrs⟩ := HR0.out.three
      go_wp2_with fail
      refine (implIsRelation_any W0 B _ p a b R HT.out HV.out hB0 HBL.out).mono ?_
      rintro e w1 ⟨rfl, b1⟩
      rw [HOK.out]
      have HR1 := Lib.hid (HR0.out.below b1 hrs)
      have HV1 := Lib.hid (HV.out.below b1 hB0)
      have HX1 := Lib.hid (HX.out.below b1 hB0)
      have HY1 := Lib.hid (HY.out.below b1 hB0)
      have HT1 := Lib.hid (HT.out.below b1)
      have HB1 := Lib.hid (HVB.out.trans (b1.mono HVB.out.size))
      have hB1 : B ≤ w1.heap.size := Nat.le_trans hB0 b1.size
      clear b1 hr0 hr1 hr2 hrf0 hrf1 hrf2 hrs
      obtain ⟨hr0, hr1, hr2, hrf0, hrf1, hrf2, hrs⟩ := HR1.out.three
      have HA := Lib.hid (show Below w1.heap.size w1 (w1.alloc (.cells #[.slice Ax x.length cx] 37)) from (Below.refl _ _).alloc (Nat.le_refl _) _)
      have HRG := Lib.hid (RdG.one (cellsAt_new w1 #[.slice Ax x.length cx] 37) ((HX1.out.1.below HA.out hB1).mono (T := fun q => q < w1.heap.size + 1) (fun q hq => by omega)) (by omega) 1)
      have HTA := Lib.hid (HT1.out.below HA.out)
      have HR2 := Lib.hid (HR1.out.below HA.out hrs)
      have HV2 := Lib.hid (HV1.out.below HA.out hB1)
      have HX2 := Lib.hid (HX1.out.below HA.out hB1)
      have HY2 := Lib.hid (HY1.out.below HA.out hB1)
      have hB2 : B ≤ (w1.alloc (.cells #[.slice Ax x.length cx] 37)).heap.size := Nat.le_trans hB1 HA.out.size
      have HB2 := Lib.hid (HB1.out.trans (HA.out.mono HB1.out.size))
      go_wp2_with fail
      refine (areLists_any _ (w1.heap.size + 1) _ p a [x] HTA.out HRG.out (by simp) (fun r hr => match r, hr with | 0, _ => HX1.out.2 | _ + 1, h => absurd h (by simp))).mono ?_
      rintro e w' ⟨rfl, rfl⟩
      rw [HK1.out]
      clear hr0 hr1 hr2 hrf0 hrf1 hrf2 hrs HA HRG
      generalize (w1.alloc (.cells #[.slice Ax x.length cx] 37)) = w2 at HTA HR2 HV2 HX2 HY2 hB2 HB2 ⊢
      rw [HKX.out]
      go_wp2
      go_ret2
      rw [HOX.out.1, HOX.out.2]
      exact ⟨rfl, HB2.out⟩
    | true =>
      cases hyb : rowB p b y with
      | false =>
        have HKX := Lib.hid hxb
        have HKY := Lib.hid hyb
        have HOX := Lib.hid (pair_y (l := a) (R := R) (x := x) hyb)
        clear hxb hyb
        have HVB := Lib.hid (show Below w.heap.size w (w.alloc (.cells #[.int .i64 a, .int .i64 b, .slice A R.length cp] tRl)) from (Below.refl _ _).alloc (Nat.le_refl _) _)
        have HV := Lib.hid (hv.below HVB.out hB)
        have HX := Lib.hid (hx.below HVB.out hB)
        have HY := Lib.hid (hy.below HVB.out hB)
        have hB0 : B ≤ (w.alloc (.cells #[.int .i64 a, .int .i64 b, .slice A R.length cp] tRl)).heap.size := Nat.le_trans hB HVB.out.size
        have HR0 := Lib.hid (cellsAt_new w #[.int .i64 a, .int .i64 b, .slice A R.length cp] tRl)
        have HT := Lib.hid (ht.below HVB.out)
        have HBL := Lib.hid hbl.2
        clear hv hx hy hB hbl ht
        go_enter Tryd.func44, Tryd.ntmps44
        go_upto_region 1 with fail
        generalize (w.alloc (.cells #[.int .i64 a, .int .i64 b, .slice A R.length cp] tRl)) = W0 at HVB HV HX HY hB0 HR0 HT ⊢
        obtain ⟨hr0, hr1, hr2, hrf0, hrf1, hrf2, hrs⟩ := HR0.out.three
        go_wp2_with fail
        refine (implIsRelation_any W0 B _ p a b R HT.out HV.out hB0 HBL.out).mono ?_
        rintro e w1 ⟨rfl, b1⟩
        rw [HOK.out]
        have HR1 := Lib.hid (HR0.out.below b1 hrs)
        have HV1 := Lib.hid (HV.out.below b1 hB0)
        have HX1 := Lib.hid (HX.out.below b1 hB0)
        have HY1 := Lib.hid (HY.out.below b1 hB0)
        have HT1 := Lib.hid (HT.out.below b1)
        have HB1 := Lib.hid (HVB.out.trans (b1.mono HVB.out.size))
        have hB1 : B ≤ w1.heap.size := Nat.le_trans hB0 b1.size
        clear b1 hr0 hr1 hr2 hrf0 hrf1 hrf2 hrs
        obtain ⟨hr0, hr1, hr2, hrf0, hrf1, hrf2, hrs⟩ := HR1.out.three
        have HA := Lib.hid (show Below w1.heap.size w1 (w1.alloc (.cells #[.slice Ax x.length cx] 37)) from (Below.refl _ _).alloc (Nat.le_refl _) _)
        have HRG := Lib.hid (RdG.one (cellsAt_new w1 #[.slice Ax x.length cx] 37) ((HX1.out.1.below HA.out hB1).mono (T := fun q => q < w1.heap.size + 1) (fun q hq => by omega)) (by omega) 1)
        have HTA := Lib.hid (HT1.out.below HA.out)
        have HR2 := Lib.hid (HR1.out.below HA.out hrs)
        have HV2 := Lib.hid (HV1.out.below HA.out hB1)
        have HX2 := Lib.hid (HX1.out.below HA.out hB1)
        have HY2 := Lib.hid (HY1.out.below HA.out hB1)
        have hB2 : B ≤ (w1.alloc (.cells #[.slice Ax x.length cx] 37)).heap.size := Nat.le_trans hB1 HA.out.size
        have HB2 := Lib.hid (HB1.out.trans (HA.out.mono HB1.out.size))
        go_wp2_with fail
        refine (areLists_any _ (w1.heap.size + 1) _ p a [x] HTA.out HRG.out (by simp) (fun r hr => match r, hr with | 0, _ => HX1.out.2 | _ + 1, h => absurd h (by simp))).mono ?_
        rintro e w' ⟨rfl, rfl⟩
        rw [HK1.out]
        clear hr0 hr1 hr2 hrf0 hrf1 hrf2 hrs HA HRG
        generalize (w1.alloc (.cells #[.slice Ax x.length cx] 37)) = w2 at HTA HR2 HV2 HX2 HY2 hB2 HB2 ⊢
        obtain ⟨hr0, hr1, hr2, hrf0, hrf1, hrf2, hrs⟩ := HR2.out.three
        have HA := Lib.hid (show Below w2.heap.size w2 (w2.alloc (.cells #[.slice Ay y.length cy] 37)) from (Below.refl _ _).alloc (Nat.le_refl _) _)
        have HRG := Lib.hid (RdG.one (cellsAt_new w2 #[.slice Ay y.length cy] 37) ((HY2.out.1.below HA.out hB2).mono (T := fun q => q < w2.heap.size + 1) (fun q hq => by omega)) (by omega) 1)
        have HTB := Lib.hid (HTA.out.below HA.out)
        have HR3 := Lib.hid (HR2.out.below HA.out hrs)
        have HV3 := Lib.hid (HV2.out.below HA.out hB2)
        have HX3 := Lib.hid (HX2.out.below HA.out hB2)
        have HY3 := Lib.hid (HY2.out.below HA.out hB2)
        have hB3 : B ≤ (w2.alloc (.cells #[.slice Ay y.length cy] 37)).heap.size := Nat.le_trans hB2 HA.out.size
        have HB3 := Lib.hid (HB2.out.trans (HA.out.mono HB2.out.size))
        rw [HKX.out]
        go_wp2_with fail
        refine (areLists_any _ (w2.heap.size + 1) _ p b [y] HTB.out HRG.out (by simp) (fun r hr => match r, hr with | 0, _ => HY2.out.2 | _ + 1, h => absurd h (by simp))).mono ?_
        rintro e w' ⟨rfl, rfl⟩
        rw [HK2.out, HKY.out]
        clear hr0 hr1 hr2 hrf0 hrf1 hrf2 hrs HA HRG
        generalize (w2.alloc (.cells #[.slice Ay y.length cy] 37)) = w3 at HTB HR3 HV3 HX3 HY3 hB3 HB3 ⊢
        go_wp2
        go_ret2
        rw [HOX.out.1, HOX.out.2]
        exact ⟨rfl, HB3.out⟩
      | true =>
        have HKX := Lib.hid hxb
        have HKY := Lib.hid hyb
        have HOX := Lib.hid (pair_ok HHS.out hxb hyb)
        have HVC := Lib.hid (vec_app (rowB_vec hxb) (rowB_vec hyb))
        have HLX := Lib.hid (rowB_vec hxb).1
        have HLY := Lib.hid (rowB_vec hyb).1
        clear hxb hyb
        have HVB := Lib.hid (show Below w.heap.size w (w.alloc (.cells #[.int .i64 a, .int .i64 b, .slice A R.length cp] tRl)) from (Below.refl _ _).alloc (Nat.le_refl _) _)
        have HV := Lib.hid (hv.below HVB.out hB)
        have HX := Lib.hid (hx.below HVB.out hB)
        have HY := Lib.hid (hy.below HVB.out hB)
        have hB0 : B ≤ (w.alloc (.cells #[.int .i64 a, .int .i64 b, .slice A R.length cp] tRl)).heap.size := Nat.le_trans hB HVB.out.size
        have HR0 := Lib.hid (cellsAt_new w #[.int .i64 a, .int .i64 b, .slice A R.length cp] tRl)
        have HT := Lib.hid (ht.below HVB.out)
        have HBL := Lib.hid hbl.2
        clear hv hx hy hB hbl ht
        go_enter Tryd.func44, Tryd.ntmps44
        go_upto_region 1 with fail
        generalize (w.alloc (.cells #[.int .i64 a, .int .i64 b, .slice A R.length cp] tRl)) = W0 at HVB HV HX HY hB0 HR0 HT ⊢
        obtain ⟨hr0, hr1, hr2, hrf0, hrf1, hrf2, hrs⟩ := HR0.out.three
        go_wp2_with fail
        refine (implIsRelation_any W0 B _ p a b R HT.out HV.out hB0 HBL.out).mono ?_
        rintro e w1 ⟨rfl, b1⟩
        rw [HOK.out]
        have HR1 := Lib.hid (HR0.out.below b1 hrs)
        have HV1 := Lib.hid (HV.out.below b1 hB0)
        have HX1 := Lib.hid (HX.out.below b1 hB0)
        have HY1 := Lib.hid (HY.out.below b1 hB0)
        have HT1 := Lib.hid (HT.out.below b1)
        have HB1 := Lib.hid (HVB.out.trans (b1.mono HVB.out.size))
        have hB1 : B ≤ w1.heap.size := Nat.le_trans hB0 b1.size
        clear b1 hr0 hr1 hr2 hrf0 hrf1 hrf2 hrs
        obtain ⟨hr0, hr1, hr2, hrf0, hrf1, hrf2, hrs⟩ := HR1.out.three
        have HA := Lib.hid (show Below w1.heap.size w1 (w1.alloc (.cells #[.slice Ax x.length cx] 37)) from (Below.refl _ _).alloc (Nat.le_refl _) _)
        have HRG := Lib.hid (RdG.one (cellsAt_new w1 #[.slice Ax x.length cx] 37) ((HX1.out.1.below HA.out hB1).mono (T := fun q => q < w1.heap.size + 1) (fun q hq => by omega)) (by omega) 1)
        have HTA := Lib.hid (HT1.out.below HA.out)
        have HR2 := Lib.hid (HR1.out.below HA.out hrs)
        have HV2 := Lib.hid (HV1.out.below HA.out hB1)
        have HX2 := Lib.hid (HX1.out.below HA.out hB1)
        have HY2 := Lib.hid (HY1.out.below HA.out hB1)
        have hB2 : B ≤ (w1.alloc (.cells #[.slice Ax x.length cx] 37)).heap.size := Nat.le_trans hB1 HA.out.size
        have HB2 := Lib.hid (HB1.out.trans (HA.out.mono HB1.out.size))
        go_wp2_with fail
        refine (areLists_any _ (w1.heap.size + 1) _ p a [x] HTA.out HRG.out (by simp) (fun r hr => match r, hr with | 0, _ => HX1.out.2 | _ + 1, h => absurd h (by simp))).mono ?_
        rintro e w' ⟨rfl, rfl⟩
        rw [HK1.out]
        clear hr0 hr1 hr2 hrf0 hrf1 hrf2 hrs HA HRG
        generalize (w1.alloc (.cells #[.slice Ax x.length cx] 37)) = w2 at HTA HR2 HV2 HX2 HY2 hB2 HB2 ⊢
        obtain ⟨hr0, hr1, hr2, hrf0, hrf1, hrf2, hrs⟩ := HR2.out.three
        have HA := Lib.hid (show Below w2.heap.size w2 (w2.alloc (.cells #[.slice Ay y.length cy] 37)) from (Below.refl _ _).alloc (Nat.le_refl _) _)
        have HRG := Lib.hid (RdG.one (cellsAt_new w2 #[.slice Ay y.length cy] 37) ((HY2.out.1.below HA.out hB2).mono (T := fun q => q < w2.heap.size + 1) (fun q hq => by omega)) (by omega) 1)
        have HTB := Lib.hid (HTA.out.below HA.out)
        have HR3 := Lib.hid (HR2.out.below HA.out hrs)
        have HV3 := Lib.hid (HV2.out.below HA.out hB2)
        have HX3 := Lib.hid (HX2.out.below HA.out hB2)
        have HY3 := Lib.hid (HY2.out.below HA.out hB2)
        have hB3 : B ≤ (w2.alloc (.cells #[.slice Ay y.length cy] 37)).heap.size := Nat.le_trans hB2 HA.out.size
        have HB3 := Lib.hid (HB2.out.trans (HA.out.mono HB2.out.size))
        rw [HKX.out]
        go_wp2_with fail
        refine (areLists_any _ (w2.heap.size + 1) _ p b [y] HTB.out HRG.out (by simp) (fun r hr => match r, hr with | 0, _ => HY2.out.2 | _ + 1, h => absurd h (by simp))).mono ?_
        rintro e w' ⟨rfl, rfl⟩
        rw [HK2.out, HKY.out]
        clear hr0 hr1 hr2 hrf0 hrf1 hrf2 hrs HA HRG
        generalize (w2.alloc (.cells #[.slice Ay y.length cy] 37)) = w3 at HTB HR3 HV3 HX3 HY3 hB3 HB3 ⊢
        obtain ⟨hr0, hr1, hr2, hrf0, hrf1, hrf2, hrs⟩ := HR3.out.three
        go_wp2_with fail
        refine (pairs_any w3 A R.length cp a b (by omega) (by omega) (by omega)).mono ?_
        rintro e w4 ⟨rfl, b4⟩
        have HB4 := Lib.hid (HB3.out.trans (b4.mono HB3.out.size))
        have HV4 := Lib.hid (HV3.out.below b4 hB3)
        have HX4 := Lib.hid (HX3.out.below b4 hB3)
        have HY4 := Lib.hid (HY3.out.below b4 hB3)
        have hB4 : B ≤ w4.heap.size := Nat.le_trans hB3 b4.size
        clear b4 hr0 hr1 hr2 hrf0 hrf1 hrf2 hrs
        have HA := Lib.hid (show Below w4.heap.size w4 (w4.alloc (.cells #[.slice Ax x.length cx, .slice Ay y.length cy] 37)) from (Below.refl _ _).alloc (Nat.le_refl _) _)
        have HRG := Lib.hid (RdG.pair (B := w4.heap.size + 1) (cellsAt_new w4 #[.slice Ax x.length cx, .slice Ay y.length cy] 37) ((HX4.out.1.below HA.out hB4).mono (fun q hq => by omega)) ((HY4.out.1.below HA.out hB4).mono (fun q hq => by omega)) (by omega))
        have hAS : w4.heap.size + 1 ≤ (w4.alloc (.cells #[.slice Ax x.length cx, .slice Ay y.length cy] 37)).heap.size := by simp
        go_wp2_with fail
        refine (concatR_any _ (w4.heap.size + 1) _ [x, y] HRG.out hAS (by simp) (by have := HLX.out; have := HLY.out; simp [tot]; omega)).mono ?_
        rintro e w5 ⟨v5, rfl, b5, o5⟩
        have HB45 := Lib.hid (HA.out.trans (b5.mono HA.out.size))
        have HB5 := Lib.hid (HB4.out.trans (HB45.out.mono HB4.out.size))
        have HV5 := Lib.hid ((HV4.out.below HB45.out hB4).mono (Nat.le_trans hB4 HB45.out.size))
        have HO5 := Lib.hid o5.readB
        have HFL := Lib.hid (show [x, y].flatten = x ++ y by simp)
        rw [HFL.out] at HO5
        have HC := Lib.hid (show ((a : Int) + b) = ((a + b : Nat) : Int) by omega)
        clear b5 o5
        go_wp2_with fail
        rw [HC.out]
        refine (contains_sp w5 w5.heap.size _ _ p (a + b) R (x ++ y) HV5.out.1 HO5.out (Nat.le_refl _) HF.out HRD.out HVC.out hab).mono ?_
        rintro e w6 ⟨rfl, b6⟩
        have HB6 := Lib.hid (HB5.out.trans (b6.mono HB5.out.size))
        clear b6
        go_wp2
        go_ret2
        rw [HOX.out.1, HOX.out.2]
        exact ⟨rfl, HB6.out⟩
set_option maxHeartbeats 1600000 in
theorem rlHas_any (w : World) (B : Nat) (v vx vy : Value) (p l r : Int) (c : Nat) (R : List (List Int)) (x y : List Int) (hv : RdG w B v R) (hx : RdS w (fun b => b < B) vx x) (hy : RdS w (fun b => b < B) vy y) (hB : B ≤ w.heap.size) (hf : fld p = true) (hR : IsRed p R.length c R) (hV : Vec p c (x ++ y)) (hc : c ≤ 24) :
    Calls Tryd.prog 83 #[.int .i64 p, .agg #[.int .i64 l, .int .i64 r, v], vx, vy] w (SaysB w (hasV p c R (x ++ y))) := by
  obtain ⟨A, cp, rfl⟩ := hv.len
  have hlen : x.length + y.length = c := by rw [← List.length_append]; exact hV.1
  have hlx : x.length ≤ 24 := by omega
  have hly : y.length ≤ 24 := by omega
  have hx2 := hx
  have hy2 := hy
  obtain ⟨Ax, cx, rfl, _, _⟩ := hx2
  obtain ⟨Ay, cy, rfl, _, _⟩ := hy2
  have HVB := Lib.hid (show Below w.heap.size w (w.alloc (.cells #[.int .i64 l, .int .i64 r, .slice A R.length cp] tRl)) from (Below.refl _ _).alloc (Nat.le_refl _) _)
  have HV := Lib.hid (hv.below HVB.out hB)
  have HX := Lib.hid (hx.below HVB.out hB)
  have HY := Lib.hid (hy.below HVB.out hB)
  have hB0 : B ≤ (w.alloc (.cells #[.int .i64 l, .int .i64 r, .slice A R.length cp] tRl)).heap.size := Nat.le_trans hB HVB.out.size
  have HR0 := Lib.hid (cellsAt_new w #[.int .i64 l, .int .i64 r, .slice A R.length cp] tRl)
  have HF := Lib.hid hf
  have HRD := Lib.hid hR
  have HVC := Lib.hid hV
  clear hv hx hy hB hf hR hV hlen
  go_enter Tryd.func83, Tryd.ntmps83
  go_upto_region 1 with fail
  generalize (w.alloc (.cells #[.int .i64 l, .int .i64 r, .slice A R.length cp] tRl)) = W at HVB HV HX HY hB0 HR0 ⊢
  have hr2 := HR0.out.three.2.2.1
  have hrs := HR0.out.lt
  have HELD : Hid (∀ w' : World, w'.heap[w.heap.size]? = W.heap[w.heap.size]? → w'.cell? ⟨w.heap.size, 2, none⟩ = some (.slice A R.length cp)) := Lib.hid (fun w' H => (World.cell?_of_block (w := W) H).trans hr2)
  clear hr2
  have HQ0 : Hid (W.drew.heap[w.heap.size]? = W.heap[w.heap.size]?) := Lib.hid rfl
  have HXD := Lib.hid (show RdS W.drew (fun b => b < B) (.slice Ax x.length cx) x from HX.out)
  have hBD : B ≤ W.drew.heap.size := hB0
  go_wp2
  go_region_held3 (fun w' => w'.cell? ⟨w.heap.size, 2, none⟩ = some (.slice A R.length cp))
    (first | with_reducible exact HELD.out _ HQ0.out | with_reducible exact HELD.out _ HQ1.out | with_reducible exact HELD.out _ HQ2.out | with_reducible exact HELD.out _ HQ3.out)
    (first
      | (go_at_call 90; go_split_ands; refine (l1Own_app W.drew B _ x HXD.out hBD (by omega)).mono ?_; rintro e w1 ⟨v1, rfl, b1, o1⟩; have HB1 : Hid (Below W.heap.size W w1) := Lib.hid ((Below.refl _ _).drew.trans b1); have HQ1 : Hid (w1.heap[w.heap.size]? = W.heap[w.heap.size]?) := Lib.hid (HB1.out.block _ hrs); have HO1 := Lib.hid (show RowA w1 W.heap.size v1 x from o1); have HY1 := Lib.hid (HY.out.below HB1.out hB0); have hs1 : W.heap.size ≤ w1.heap.size := HB1.out.size; clear b1 o1)
      | (refine step_joinR (by rfl) _ _ (by rfl) w1 W.heap.size v1 x y _ Ay cy (by rfl) HO1.out (by rfl) HY1.out hs1 (by omega) ?_; intro v2 w2 hj2 hb2; have HB2 : Hid (Below W.heap.size W w2) := Lib.hid (HB1.out.trans hb2); have HQ2 : Hid (w2.heap[w.heap.size]? = W.heap[w.heap.size]?) := Lib.hid (HB2.out.block _ hrs); have HJ2 := Lib.hid hj2.read; have HV2 := Lib.hid ((HV.out.below HB2.out hB0).mono (Nat.le_trans hB0 HB2.out.size)); clear hj2 hb2)
      | (go_at_call 119; go_split_ands; refine (spHas_any w2 w2.heap.size _ _ p c R (x ++ y) HV2.out HJ2.out (Nat.le_refl _) HF.out HRD.out HVC.out (by omega)).mono ?_; rintro e w3 ⟨rfl, b3⟩; have HB3 : Hid (Below W.heap.size W w3) := Lib.hid (HB2.out.trans (b3.mono HB2.out.size)); have HQ3 : Hid (w3.heap[w.heap.size]? = W.heap[w.heap.size]?) := Lib.hid (HB3.out.block _ hrs); clear b3))
  go_wp2
  go_ret
  exact ⟨rfl, HVB.out.trans (HB3.out.mono HVB.out.size)⟩
set_option maxHeartbeats 3200000 in
theorem spec_HasPair (w : World) (B : Nat) (v vx vy : Value) (p l r : Int) (R : List (List Int)) (x y : List Int) (hbl : Bi l) (_hbr : Bi r) (hv : LfG w B v R) (hx : LfR w B vx x) (hy : LfR w B vy y) (hB : B ≤ w.heap.size) (_hs : szG R ≤ 1048576) (_hsx : szR x ≤ 1048576) (_hsy : szR y ≤ 1048576) :
    Calls Tryd.prog 43 #[.int .i64 p, .agg #[.int .i64 l, .int .i64 r, v], vx, vy] w (SRetBB w (hpV p l r R x y) (pairOk p l r R x y)) := by
  obtain ⟨A, cp, rfl⟩ := hv.len
  obtain ⟨Ax, cx, rfl⟩ := hx.len
  obtain ⟨Ay, cy, rfl⟩ := hy.len
  cases hs : isRl p l r R with
  | false =>
    have HOK := Lib.hid hs
    have HOX := Lib.hid (pair_rl (x := x) (y := y) hs)
    clear hs
    have HVB := Lib.hid (show Below w.heap.size w (w.alloc (.cells #[.int .i64 l, .int .i64 r, .slice A R.length cp] tRl)) from (Below.refl _ _).alloc (Nat.le_refl _) _)
    have HV := Lib.hid (hv.below HVB.out hB)
    have HX := Lib.hid (hx.below HVB.out hB)
    have HY := Lib.hid (hy.below HVB.out hB)
    have hB0 : B ≤ (w.alloc (.cells #[.int .i64 l, .int .i64 r, .slice A R.length cp] tRl)).heap.size := Nat.le_trans hB HVB.out.size
    have HR0 := Lib.hid (cellsAt_new w #[.int .i64 l, .int .i64 r, .slice A R.length cp] tRl)
    have HBL := Lib.hid hbl.2
    clear hv hx hy hB hbl
    go_enter Tryd.func43, Tryd.ntmps43
    go_upto_region 1 with fail
    generalize (w.alloc (.cells #[.int .i64 l, .int .i64 r, .slice A R.length cp] tRl)) = W0 at HVB HV HX HY hB0 HR0 ⊢
    obtain ⟨hr0, hr1, hr2, hrf0, hrf1, hrf2, hrs⟩ := HR0.out.three
    go_wp2_with fail
    refine (rlGood_any W0 B _ p l r R HV.out hB0).mono ?_
    rintro e w1 ⟨rfl, b1⟩
    rw [HOK.out]
    have HR1 := Lib.hid (HR0.out.below b1 hrs)
    have HV1 := Lib.hid (HV.out.below b1 hB0)
    have HX1 := Lib.hid (HX.out.below b1 hB0)
    have HY1 := Lib.hid (HY.out.below b1 hB0)
    have HB1 := Lib.hid (HVB.out.trans (b1.mono HVB.out.size))
    have hB1 : B ≤ w1.heap.size := Nat.le_trans hB0 b1.size
    clear b1 hr0 hr1 hr2 hrf0 hrf1 hrf2 hrs
    go_wp2
    go_ret2
    rw [HOX.out.1, HOX.out.2]
    exact ⟨rfl, HB1.out⟩
  | true =>
    obtain ⟨hf, a, b, rfl, rfl, hab, hln, hred⟩ := isRl_parts hs
    have h1 := (fld_bd hf).1
    have h2 := (fld_bd hf).2
    have HOK := Lib.hid hs
    have HF := Lib.hid hf
    have HRD := Lib.hid hred
    have HHS := Lib.hid hs
    clear hs hf hred
    by_cases hlx : x.length = a
    · by_cases hly : y.length = b
      · have hq1 : ((x.length : Int) != (a : Int)) = false := by simp; omega
        have hq2 : ((y.length : Int) != (b : Int)) = false := by simp; omega
        have HLX := Lib.hid hlx
        have HLY := Lib.hid hly
        clear hlx hly
        cases hxb : x.all (el p) with
        | false =>
          have HKX := Lib.hid hxb
          have HOX := Lib.hid (pair_x (r := b) (R := R) (y := y) (show rowB p a x = false by simp [rowB, hxb]))
          clear hxb
          have HVB := Lib.hid (show Below w.heap.size w (w.alloc (.cells #[.int .i64 a, .int .i64 b, .slice A R.length cp] tRl)) from (Below.refl _ _).alloc (Nat.le_refl _) _)
          have HV := Lib.hid (hv.below HVB.out hB)
          have HX := Lib.hid (hx.below HVB.out hB)
          have HY := Lib.hid (hy.below HVB.out hB)
          have hB0 : B ≤ (w.alloc (.cells #[.int .i64 a, .int .i64 b, .slice A R.length cp] tRl)).heap.size := Nat.le_trans hB HVB.out.size
          have HR0 := Lib.hid (cellsAt_new w #[.int .i64 a, .int .i64 b, .slice A R.length cp] tRl)
          have HBL := Lib.hid hbl.2
          clear hv hx hy hB hbl
          go_enter Tryd.func43, Tryd.ntmps43
          go_upto_region 1 with fail
          generalize (w.alloc (.cells #[.int .i64 a, .int .i64 b, .slice A R.length cp] tRl)) = W0 at HVB HV HX HY hB0 HR0 ⊢
          obtain ⟨hr0, hr1, hr2, hrf0, hrf1, hrf2, hrs⟩ := HR0.out.three
          go_wp2_with fail
          refine (rlGood_any W0 B _ p a b R HV.out hB0).mono ?_
          rintro e w1 ⟨rfl, b1⟩
          rw [HOK.out]
          have HR1 := Lib.hid (HR0.out.below b1 hrs)
          have HV1 := Lib.hid (HV.out.below b1 hB0)
          have HX1 := Lib.hid (HX.out.below b1 hB0)
          have HY1 := Lib.hid (HY.out.below b1 hB0)
          have HB1 := Lib.hid (HVB.out.trans (b1.mono HVB.out.size))
          have hB1 : B ≤ w1.heap.size := Nat.le_trans hB0 b1.size
          clear b1 hr0 hr1 hr2 hrf0 hrf1 hrf2 hrs
          obtain ⟨hr0, hr1, hr2, hrf0, hrf1, hrf2, hrs⟩ := HR1.out.three
          go_wp2_with fail
          refine (fdIn_any w1 B _ p x HX1.out.1 HX1.out.2 h1 h2).mono ?_
          rintro e w' ⟨rfl, rfl⟩
          rw [HKX.out]
          go_wp2
          go_ret2
          rw [HOX.out.1, HOX.out.2]
          exact ⟨rfl, HB1.out⟩
        | true =>
          cases hyb : y.all (el p) with
          | false =>
            have HKX := Lib.hid hxb
            have HKY := Lib.hid hyb
            have HOX := Lib.hid (pair_y (l := a) (R := R) (x := x) (show rowB p b y = false by simp [rowB, hyb]))
            clear hxb hyb
            have HVB := Lib.hid (show Below w.heap.size w (w.alloc (.cells #[.int .i64 a, .int .i64 b, .slice A R.length cp] tRl)) from (Below.refl _ _).alloc (Nat.le_refl _) _)
            have HV := Lib.hid (hv.below HVB.out hB)
            have HX := Lib.hid (hx.below HVB.out hB)
            have HY := Lib.hid (hy.below HVB.out hB)
            have hB0 : B ≤ (w.alloc (.cells #[.int .i64 a, .int .i64 b, .slice A R.length cp] tRl)).heap.size := Nat.le_trans hB HVB.out.size
            have HR0 := Lib.hid (cellsAt_new w #[.int .i64 a, .int .i64 b, .slice A R.length cp] tRl)
            have HBL := Lib.hid hbl.2
            clear hv hx hy hB hbl
            go_enter Tryd.func43, Tryd.ntmps43
            go_upto_region 1 with fail
            generalize (w.alloc (.cells #[.int .i64 a, .int .i64 b, .slice A R.length cp] tRl)) = W0 at HVB HV HX HY hB0 HR0 ⊢
            obtain ⟨hr0, hr1, hr2, hrf0, hrf1, hrf2, hrs⟩ := HR0.out.three
            go_wp2_with fail
            refine (rlGood_any W0 B _ p a b R HV.out hB0).mono ?_
            rintro e w1 ⟨rfl, b1⟩
            rw [HOK.out]
            have HR1 := Lib.hid (HR0.out.below b1 hrs)
            have HV1 := Lib.hid (HV.out.below b1 hB0)
            have HX1 := Lib.hid (HX.out.below b1 hB0)
            have HY1 := Lib.hid (HY.out.below b1 hB0)
            have HB1 := Lib.hid (HVB.out.trans (b1.mono HVB.out.size))
            have hB1 : B ≤ w1.heap.size := Nat.le_trans hB0 b1.size
            clear b1 hr0 hr1 hr2 hrf0 hrf1 hrf2 hrs
            obtain ⟨hr0, hr1, hr2, hrf0, hrf1, hrf2, hrs⟩ := HR1.out.three
            go_wp2_with fail
            refine (fdIn_any w1 B _ p x HX1.out.1 HX1.out.2 h1 h2).mono ?_
            rintro e w' ⟨rfl, rfl⟩
            rw [HKX.out]
            go_wp2_with fail
            refine (fdIn_any w1 B _ p y HY1.out.1 HY1.out.2 h1 h2).mono ?_
            rintro e w' ⟨rfl, rfl⟩
            rw [HKY.out]
            go_wp2
            go_ret2
            rw [HOX.out.1, HOX.out.2]
            exact ⟨rfl, HB1.out⟩
          | true =>
            have HKX := Lib.hid hxb
            have HKY := Lib.hid hyb
            have hrx : rowB p a x = true := by simp [rowB, hxb, HLX.out]
            have hry : rowB p b y = true := by simp [rowB, hyb, HLY.out]
            have HOX := Lib.hid (pair_ok HHS.out hrx hry)
            have HVC := Lib.hid (vec_app (rowB_vec hrx) (rowB_vec hry))
            clear hxb hyb hrx hry
            have HVB := Lib.hid (show Below w.heap.size w (w.alloc (.cells #[.int .i64 a, .int .i64 b, .slice A R.length cp] tRl)) from (Below.refl _ _).alloc (Nat.le_refl _) _)
            have HV := Lib.hid (hv.below HVB.out hB)
            have HX := Lib.hid (hx.below HVB.out hB)
            have HY := Lib.hid (hy.below HVB.out hB)
            have hB0 : B ≤ (w.alloc (.cells #[.int .i64 a, .int .i64 b, .slice A R.length cp] tRl)).heap.size := Nat.le_trans hB HVB.out.size
            have HR0 := Lib.hid (cellsAt_new w #[.int .i64 a, .int .i64 b, .slice A R.length cp] tRl)
            have HBL := Lib.hid hbl.2
            clear hv hx hy hB hbl
            go_enter Tryd.func43, Tryd.ntmps43
            go_upto_region 1 with fail
            generalize (w.alloc (.cells #[.int .i64 a, .int .i64 b, .slice A R.length cp] tRl)) = W0 at HVB HV HX HY hB0 HR0 ⊢
            obtain ⟨hr0, hr1, hr2, hrf0, hrf1, hrf2, hrs⟩ := HR0.out.three
            go_wp2_with fail
            refine (rlGood_any W0 B _ p a b R HV.out hB0).mono ?_
            rintro e w1 ⟨rfl, b1⟩
            rw [HOK.out]
            have HR1 := Lib.hid (HR0.out.below b1 hrs)
            have HV1 := Lib.hid (HV.out.below b1 hB0)
            have HX1 := Lib.hid (HX.out.below b1 hB0)
            have HY1 := Lib.hid (HY.out.below b1 hB0)
            have HB1 := Lib.hid (HVB.out.trans (b1.mono HVB.out.size))
            have hB1 : B ≤ w1.heap.size := Nat.le_trans hB0 b1.size
            clear b1 hr0 hr1 hr2 hrf0 hrf1 hrf2 hrs
            obtain ⟨hr0, hr1, hr2, hrf0, hrf1, hrf2, hrs⟩ := HR1.out.three
            go_wp2_with fail
            refine (fdIn_any w1 B _ p x HX1.out.1 HX1.out.2 h1 h2).mono ?_
            rintro e w' ⟨rfl, rfl⟩
            rw [HKX.out]
            go_wp2_with fail
            refine (fdIn_any w1 B _ p y HY1.out.1 HY1.out.2 h1 h2).mono ?_
            rintro e w' ⟨rfl, rfl⟩
            rw [HKY.out]
            go_wp2_with fail
            refine (rlHas_any w1 B _ _ _ p a b (a + b) R x y HV1.out.1 HX1.out.1 HY1.out.1 hB1 HF.out HRD.out HVC.out hab).mono ?_
            rintro e w2 ⟨rfl, b2⟩
            have HB2 := Lib.hid (HB1.out.trans (b2.mono HB1.out.size))
            clear b2
            go_wp2
            go_ret2
            rw [HOX.out.1, HOX.out.2]
            exact ⟨rfl, HB2.out⟩
      · have hq1 : ((x.length : Int) != (a : Int)) = false := by simp; omega
        have hq2 : ((y.length : Int) != (b : Int)) = true := by simp; omega
        have HOX := Lib.hid (pair_y (l := a) (R := R) (x := x) (show rowB p b y = false by simp [rowB]; omega))
        clear hlx hly
        have HVB := Lib.hid (show Below w.heap.size w (w.alloc (.cells #[.int .i64 a, .int .i64 b, .slice A R.length cp] tRl)) from (Below.refl _ _).alloc (Nat.le_refl _) _)
        have HV := Lib.hid (hv.below HVB.out hB)
        have HX := Lib.hid (hx.below HVB.out hB)
        have HY := Lib.hid (hy.below HVB.out hB)
        have hB0 : B ≤ (w.alloc (.cells #[.int .i64 a, .int .i64 b, .slice A R.length cp] tRl)).heap.size := Nat.le_trans hB HVB.out.size
        have HR0 := Lib.hid (cellsAt_new w #[.int .i64 a, .int .i64 b, .slice A R.length cp] tRl)
        have HBL := Lib.hid hbl.2
        clear hv hx hy hB hbl
        go_enter Tryd.func43, Tryd.ntmps43
        go_upto_region 1 with fail
        generalize (w.alloc (.cells #[.int .i64 a, .int .i64 b, .slice A R.length cp] tRl)) = W0 at HVB HV HX HY hB0 HR0 ⊢
        obtain ⟨hr0, hr1, hr2, hrf0, hrf1, hrf2, hrs⟩ := HR0.out.three
        go_wp2_with fail
        refine (rlGood_any W0 B _ p a b R HV.out hB0).mono ?_
        rintro e w1 ⟨rfl, b1⟩
        rw [HOK.out]
        have HR1 := Lib.hid (HR0.out.below b1 hrs)
        have HV1 := Lib.hid (HV.out.below b1 hB0)
        have HX1 := Lib.hid (HX.out.below b1 hB0)
        have HY1 := Lib.hid (HY.out.below b1 hB0)
        have HB1 := Lib.hid (HVB.out.trans (b1.mono HVB.out.size))
        have hB1 : B ≤ w1.heap.size := Nat.le_trans hB0 b1.size
        clear b1 hr0 hr1 hr2 hrf0 hrf1 hrf2 hrs
        obtain ⟨hr0, hr1, hr2, hrf0, hrf1, hrf2, hrs⟩ := HR1.out.three
        go_wp2
        go_ret2
        rw [HOX.out.1, HOX.out.2]
        exact ⟨rfl, HB1.out⟩
    · have hq1 : ((x.length : Int) != (a : Int)) = true := by simp; omega
      have HOX := Lib.hid (pair_x (r := b) (R := R) (y := y) (show rowB p a x = false by simp [rowB]; omega))
      clear hlx
      have HVB := Lib.hid (show Below w.heap.size w (w.alloc (.cells #[.int .i64 a, .int .i64 b, .slice A R.length cp] tRl)) from (Below.refl _ _).alloc (Nat.le_refl _) _)
      have HV := Lib.hid (hv.below HVB.out hB)
      have HX := Lib.hid (hx.below HVB.out hB)
      have HY := Lib.hid (hy.below HVB.out hB)
      have hB0 : B ≤ (w.alloc (.cells #[.int .i64 a, .int .i64 b, .slice A R.length cp] tRl)).heap.size := Nat.le_trans hB HVB.out.size
      have HR0 := Lib.hid (cellsAt_new w #[.int .i64 a, .int .i64 b, .slice A R.length cp] tRl)
      have HBL := Lib.hid hbl.2
      clear hv hx hy hB hbl
      go_enter Tryd.func43, Tryd.ntmps43
      go_upto_region 1 with fail
      generalize (w.alloc (.cells #[.int .i64 a, .int .i64 b, .slice A R.length cp] tRl)) = W0 at HVB HV HX HY hB0 HR0 ⊢
      obtain ⟨hr0, hr1, hr2, hrf0, hrf1, hrf2, hrs⟩ := HR0.out.three
      go_wp2_with fail
      refine (rlGood_any W0 B _ p a b R HV.out hB0).mono ?_
      rintro e w1 ⟨rfl, b1⟩
      rw [HOK.out]
      have HR1 := Lib.hid (HR0.out.below b1 hrs)
      have HV1 := Lib.hid (HV.out.below b1 hB0)
      have HX1 := Lib.hid (HX.out.below b1 hB0)
      have HY1 := Lib.hid (HY.out.below b1 hB0)
      have HB1 := Lib.hid (HVB.out.trans (b1.mono HVB.out.size))
      have hB1 : B ≤ w1.heap.size := Nat.le_trans hB0 b1.size
      clear b1 hr0 hr1 hr2 hrf0 hrf1 hrf2 hrs
      obtain ⟨hr0, hr1, hr2, hrf0, hrf1, hrf2, hrs⟩ := HR1.out.three
      go_wp2
      go_ret2
      rw [HOX.out.1, HOX.out.2]
      exact ⟨rfl, HB1.out⟩
end Go.Proofs.YtpoghbdomknfcaaDoor
