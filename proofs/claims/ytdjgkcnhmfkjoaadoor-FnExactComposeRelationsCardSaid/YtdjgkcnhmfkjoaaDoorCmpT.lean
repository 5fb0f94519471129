/- ComposeRelations: both sides. -/
import Derived.Test.YtdjgkcnhmfkjoaaDoorCmpF
import Derived.Test.YtdjgkcnhmfkjoaaDoorCmpS
import Derived.Test.YtdjgkcnhmfkjoaaDoorIsRl
import Derived.Test.YtdjgkcnhmfkjoaaDoorLawGB
namespace Go.Proofs.YtdjgkcnhmfkjoaaDoor
set_option maxRecDepth 100000
open Go Go.RowKit Go.Deep

def cmpOk (p l r : Int) (R : List (List Int)) (l2 r2 : Int) (S : List (List Int)) : Bool := isRl p l r R && isRl p l2 r2 S && decide (r = l2) && sidesB l r2
def cmpL (p l r : Int) (R : List (List Int)) (l2 r2 : Int) (S : List (List Int)) : Int := if cmpOk p l r R l2 r2 S then l else 0
def cmpG (p l r : Int) (R : List (List Int)) (l2 r2 : Int) (S : List (List Int)) : Int := if cmpOk p l r R l2 r2 S then r2 else 0
def cmpR (p l r : Int) (R : List (List Int)) (l2 r2 : Int) (S : List (List Int)) : List (List Int) := if cmpOk p l r R l2 r2 S then rref p (cmpO p l.toNat r.toNat r2.toNat R S) (l.toNat + r2.toNat) else []
theorem cmp_no {p l r : Int} {R : List (List Int)} {l2 r2 : Int} {S : List (List Int)} (h : cmpOk p l r R l2 r2 S = false) : cmpL p l r R l2 r2 S = 0 ∧ cmpG p l r R l2 r2 S = 0 ∧ cmpR p l r R l2 r2 S = [] := by simp [cmpL, cmpG, cmpR, h]
theorem cmp_yes {p : Int} {a b a2 b2 : Nat} {R S : List (List Int)} (h : cmpOk p a b R a2 b2 S = true) : cmpL p a b R a2 b2 S = (a : Int) ∧ cmpG p a b R a2 b2 S = (b2 : Int) ∧ cmpR p a b R a2 b2 S = rref p (cmpO p a b b2 R S) (a + b2) := by simp [cmpL, cmpG, cmpR, h]
set_option maxRecDepth 100000 in
set_option maxHeartbeats 12800000 in
theorem impl_ComposeRelations (w : World) (B : Nat) (va vb : Value) (p l r : Int) (l2 r2 : Int) (R S : List (List Int)) (hbl : Bi l) (_hbr : Bi r) (hbl2 : Bi l2) (_hbr2 : Bi r2) (ht : Tab w) (ha : LfG w B va R) (hb : LfG w B vb S) (hB : B ≤ w.heap.size) (_hsa : szG R ≤ 1048576) (_hsb : szG S ≤ 1048576) :
    Calls Tryd.prog 7 #[.int .i64 p, .agg #[.int .i64 l, .int .i64 r, va], .agg #[.int .i64 l2, .int .i64 r2, vb]] w (IRetRelationP w (cmpL p l r R l2 r2 S) (cmpG p l r R l2 r2 S) (cmpR p l r R l2 r2 S) (cmpOk p l r R l2 r2 S)) := by
  obtain ⟨A1, c1, rfl⟩ := ha.len
  obtain ⟨A2, c2, rfl⟩ := hb.len
  cases hs : isRl p l r R with
  | false =>
    have HOK := Lib.hid hs
    have HOX := Lib.hid (show cmpOk p l r R l2 r2 S = false by simp [cmpOk, hs])
    clear hs
    have HVB := Lib.hid (show Below w.heap.size w (((w.alloc (.cells #[.int .i64 l, .int .i64 r, .slice A1 R.length c1] tRl)).alloc (.cells #[.int .i64 l2, .int .i64 r2, .slice A2 S.length c2] tRl)).alloc (.cells #[.int .i64 0, .int .i64 0, .slice none 0 0] tRl)) by repeat' (first | exact Below.refl _ _ | apply Below.alloc | (simp; done) | (simp; omega)))
    have HV := Lib.hid (ha.below HVB.out hB)
    have HW := Lib.hid (hb.below HVB.out hB)
    have hB0 : B ≤ (((w.alloc (.cells #[.int .i64 l, .int .i64 r, .slice A1 R.length c1] tRl)).alloc (.cells #[.int .i64 l2, .int .i64 r2, .slice A2 S.length c2] tRl)).alloc (.cells #[.int .i64 0, .int .i64 0, .slice none 0 0] tRl)).heap.size := Nat.le_trans hB HVB.out.size
    have HX0 := Lib.hid (((cellsAt_new w #[.int .i64 l, .int .i64 r, .slice A1 R.length c1] tRl).alloc (.cells #[.int .i64 l2, .int .i64 r2, .slice A2 S.length c2] tRl)).alloc (.cells #[.int .i64 0, .int .i64 0, .slice none 0 0] tRl))
    have HM0 := Lib.hid ((cellsAt_new' (w.alloc (.cells #[.int .i64 l, .int .i64 r, .slice A1 R.length c1] tRl)) #[.int .i64 l2, .int .i64 r2, .slice A2 S.length c2] tRl _ (w.heap.size + 1) (by simp) rfl).alloc (.cells #[.int .i64 0, .int .i64 0, .slice none 0 0] tRl))
    have HY0 := Lib.hid (cellsAt_new' ((w.alloc (.cells #[.int .i64 l, .int .i64 r, .slice A1 R.length c1] tRl)).alloc (.cells #[.int .i64 l2, .int .i64 r2, .slice A2 S.length c2] tRl)) #[.int .i64 0, .int .i64 0, .slice none 0 0] tRl _ (w.heap.size + 1 + 1) (by simp) rfl)
    have hsz0 : (((w.alloc (.cells #[.int .i64 l, .int .i64 r, .slice A1 R.length c1] tRl)).alloc (.cells #[.int .i64 l2, .int .i64 r2, .slice A2 S.length c2] tRl)).alloc (.cells #[.int .i64 0, .int .i64 0, .slice none 0 0] tRl)).heap.size = w.heap.size + 3 := by simp
    have HT := Lib.hid (ht.below HVB.out)
    have HBL := Lib.hid hbl.2
    have HBL2 := Lib.hid hbl2.2
    clear ha hb hB hbl hbl2 ht
    go_enter Tryd.func7, Tryd.ntmps7
    go_upto_region 1 with fail
    generalize (((w.alloc (.cells #[.int .i64 l, .int .i64 r, .slice A1 R.length c1] tRl)).alloc (.cells #[.int .i64 l2, .int .i64 r2, .slice A2 S.length c2] tRl)).alloc (.cells #[.int .i64 0, .int .i64 0, .slice none 0 0] tRl)) = W0 at HVB HV HW hB0 HX0 HM0 HY0 HT hsz0 ⊢
    have hz0 : w.heap.size + 3 ≤ W0.heap.size := by omega
    clear hsz0
    obtain ⟨hx0, hx1, hx2, hxf0, hxf1, hxf2, hxs⟩ := HX0.out.three
    obtain ⟨hm0, hm1, hm2, hmf0, hmf1, hmf2, hms⟩ := HM0.out.three
    go_wp2_with fail
    refine (implIsRelation_any W0 B _ p l r R HT.out HV.out hB0 HBL.out).mono ?_
    rintro e w1 ⟨rfl, b1⟩
    rw [HOK.out]
    have HX1 := Lib.hid (HX0.out.below b1 hxs)
    have HM1 := Lib.hid (HM0.out.below b1 hms)
    have HY1 := Lib.hid (HY0.out.below b1 (by omega))
    have HV1 := Lib.hid (HV.out.below b1 hB0)
    have HW1 := Lib.hid (HW.out.below b1 hB0)
    have HT1 := Lib.hid (HT.out.below b1)
    have HB1 := Lib.hid (HVB.out.trans (b1.mono HVB.out.size))
    have hz1 : w.heap.size + 3 ≤ w1.heap.size := Nat.le_trans hz0 b1.size
    have hB1 : B ≤ w1.heap.size := Nat.le_trans hB0 b1.size
    clear b1 hx0 hx1 hx2 hxf0 hxf1 hxf2 hxs hm0 hm1 hm2 hmf0 hmf1 hmf2 hms
    obtain ⟨hy0, hy1, hy2, hyf0, hyf1, hyf2, hys⟩ := HY1.out.three
    go_wp2
    refine bodyPost_ret (v := .tuple #[.agg #[.int .i64 0, .int .i64 0, .slice none 0 0], .bool false]) (by simp [results, Tryd.results7, go_sem, hy0, hy1, hy2]) rfl ?_
    rw [HOX.out, (cmp_no HOX.out).1, (cmp_no HOX.out).2.1, (cmp_no HOX.out).2.2]
    exact ⟨_, rfl, (by refine Below.trans HB1.out ?_; repeat' (first | exact Below.refl _ _ | apply Below.drew | apply Below.setCell | apply Below.alloc | (simp; done) | omega | (simp; omega))), ⟨none, 0, rfl, Nat.le_refl 0, Or.inl rfl⟩, by simp [szG, tot]⟩
  | true =>
    obtain ⟨hf, a, b, rfl, rfl, hab, hln, hred⟩ := isRl_parts hs
    have HOK := Lib.hid hs
    have HF := Lib.hid hf
    have HRM := Lib.hid hred.mat
    have HRI := Lib.hid hred
    clear hs hf hred
    cases hs2 : isRl p l2 r2 S with
    | false =>
      have HOK2 := Lib.hid hs2
      have HOX := Lib.hid (show cmpOk p a b R l2 r2 S = false by simp [cmpOk, hs2])
      clear hs2
      have HVB := Lib.hid (show Below w.heap.size w (((w.alloc (.cells #[.int .i64 a, .int .i64 b, .slice A1 R.length c1] tRl)).alloc (.cells #[.int .i64 l2, .int .i64 r2, .slice A2 S.length c2] tRl)).alloc (.cells #[.int .i64 0, .int .i64 0, .slice none 0 0] tRl)) by repeat' (first | exact Below.refl _ _ | apply Below.alloc | (simp; done) | (simp; omega)))
      have HV := Lib.hid (ha.below HVB.out hB)
      have HW := Lib.hid (hb.below HVB.out hB)
      have hB0 : B ≤ (((w.alloc (.cells #[.int .i64 a, .int .i64 b, .slice A1 R.length c1] tRl)).alloc (.cells #[.int .i64 l2, .int .i64 r2, .slice A2 S.length c2] tRl)).alloc (.cells #[.int .i64 0, .int .i64 0, .slice none 0 0] tRl)).heap.size := Nat.le_trans hB HVB.out.size
      have HX0 := Lib.hid (((cellsAt_new w #[.int .i64 a, .int .i64 b, .slice A1 R.length c1] tRl).alloc (.cells #[.int .i64 l2, .int .i64 r2, .slice A2 S.length c2] tRl)).alloc (.cells #[.int .i64 0, .int .i64 0, .slice none 0 0] tRl))
      have HM0 := Lib.hid ((cellsAt_new' (w.alloc (.cells #[.int .i64 a, .int .i64 b, .slice A1 R.length c1] tRl)) #[.int .i64 l2, .int .i64 r2, .slice A2 S.length c2] tRl _ (w.heap.size + 1) (by simp) rfl).alloc (.cells #[.int .i64 0, .int .i64 0, .slice none 0 0] tRl))
      have HY0 := Lib.hid (cellsAt_new' ((w.alloc (.cells #[.int .i64 a, .int .i64 b, .slice A1 R.length c1] tRl)).alloc (.cells #[.int .i64 l2, .int .i64 r2, .slice A2 S.length c2] tRl)) #[.int .i64 0, .int .i64 0, .slice none 0 0] tRl _ (w.heap.size + 1 + 1) (by simp) rfl)
      have hsz0 : (((w.alloc (.cells #[.int .i64 a, .int .i64 b, .slice A1 R.length c1] tRl)).alloc (.cells #[.int .i64 l2, .int .i64 r2, .slice A2 S.length c2] tRl)).alloc (.cells #[.int .i64 0, .int .i64 0, .slice none 0 0] tRl)).heap.size = w.heap.size + 3 := by simp
      have HT := Lib.hid (ht.below HVB.out)
      have HBL := Lib.hid hbl.2
      have HBL2 := Lib.hid hbl2.2
      clear ha hb hB hbl hbl2 ht
      go_enter Tryd.func7, Tryd.ntmps7
      go_upto_region 1 with fail
      generalize (((w.alloc (.cells #[.int .i64 a, .int .i64 b, .slice A1 R.length c1] tRl)).alloc (.cells #[.int .i64 l2, .int .i64 r2, .slice A2 S.length c2] tRl)).alloc (.cells #[.int .i64 0, .int .i64 0, .slice none 0 0] tRl)) = W0 at HVB HV HW hB0 HX0 HM0 HY0 HT hsz0 ⊢
      have hz0 : w.heap.size + 3 ≤ W0.heap.size := by omega
      clear hsz0
      obtain ⟨hx0, hx1, hx2, hxf0, hxf1, hxf2, hxs⟩ := HX0.out.three
      obtain ⟨hm0, hm1, hm2, hmf0, hmf1, hmf2, hms⟩ := HM0.out.three
      go_wp2_with fail
      refine (implIsRelation_any W0 B _ p a b R HT.out HV.out hB0 HBL.out).mono ?_
      rintro e w1 ⟨rfl, b1⟩
      rw [HOK.out]
      have HX1 := Lib.hid (HX0.out.below b1 hxs)
      have HM1 := Lib.hid (HM0.out.below b1 hms)
      have HY1 := Lib.hid (HY0.out.below b1 (by omega))
      have HV1 := Lib.hid (HV.out.below b1 hB0)
      have HW1 := Lib.hid (HW.out.below b1 hB0)
      have HT1 := Lib.hid (HT.out.below b1)
      have HB1 := Lib.hid (HVB.out.trans (b1.mono HVB.out.size))
      have hz1 : w.heap.size + 3 ≤ w1.heap.size := Nat.le_trans hz0 b1.size
      have hB1 : B ≤ w1.heap.size := Nat.le_trans hB0 b1.size
      clear b1 hx0 hx1 hx2 hxf0 hxf1 hxf2 hxs hm0 hm1 hm2 hmf0 hmf1 hmf2 hms
      obtain ⟨hx0, hx1, hx2, hxf0, hxf1, hxf2, hxs⟩ := HX1.out.three
      obtain ⟨hm0, hm1, hm2, hmf0, hmf1, hmf2, hms⟩ := HM1.out.three
      go_wp2_with fail
      refine (implIsRelation_any w1 B _ p l2 r2 S HT1.out HW1.out hB1 HBL2.out).mono ?_
      rintro e w2 ⟨rfl, b2⟩
      rw [HOK2.out]
      have HX2 := Lib.hid (HX1.out.below b2 hxs)
      have HM2 := Lib.hid (HM1.out.below b2 hms)
      have HY2 := Lib.hid (HY1.out.below b2 (by omega))
      have HV2 := Lib.hid (HV1.out.below b2 hB1)
      have HW2 := Lib.hid (HW1.out.below b2 hB1)
      have HT2 := Lib.hid (HT1.out.below b2)
      have HB2 := Lib.hid (HB1.out.trans (b2.mono HB1.out.size))
      have hz2 : w.heap.size + 3 ≤ w2.heap.size := Nat.le_trans hz1 b2.size
      have hB2 : B ≤ w2.heap.size := Nat.le_trans hB1 b2.size
      clear b2 hx0 hx1 hx2 hxf0 hxf1 hxf2 hxs hm0 hm1 hm2 hmf0 hmf1 hmf2 hms
      obtain ⟨hx0, hx1, hx2, hxf0, hxf1, hxf2, hxs⟩ := HX2.out.three
      obtain ⟨hm0, hm1, hm2, hmf0, hmf1, hmf2, hms⟩ := HM2.out.three
      obtain ⟨hy0, hy1, hy2, hyf0, hyf1, hyf2, hys⟩ := HY2.out.three
      go_wp2
      refine bodyPost_ret (v := .tuple #[.agg #[.int .i64 0, .int .i64 0, .slice none 0 0], .bool false]) (by simp [results, Tryd.results7, go_sem, hy0, hy1, hy2]) rfl ?_
      rw [HOX.out, (cmp_no HOX.out).1, (cmp_no HOX.out).2.1, (cmp_no HOX.out).2.2]
      exact ⟨_, rfl, (by refine Below.trans HB2.out ?_; repeat' (first | exact Below.refl _ _ | apply Below.drew | apply Below.setCell | apply Below.alloc | (simp; done) | omega | (simp; omega))), ⟨none, 0, rfl, Nat.le_refl 0, Or.inl rfl⟩, by simp [szG, tot]⟩
    | true =>
      obtain ⟨-, a2, b2', rfl, rfl, hab2, hln2, hred2⟩ := isRl_parts hs2
      have HOK2 := Lib.hid hs2
      have HS2 := Lib.hid hred2.mat
      have HSI := Lib.hid hred2
      clear hs2 hred2
      by_cases heq : b = a2
      case neg =>
        have HOX := Lib.hid (show cmpOk p a b R a2 b2' S = false by simp [cmpOk]; intro _ _ h; exact absurd h (by omega))
        have hne : ¬ ((b : Int) = (a2 : Int)) := by omega
        have hneb : ((b : Int) != (a2 : Int)) = true := by simp; omega
        have HVB := Lib.hid (show Below w.heap.size w (((w.alloc (.cells #[.int .i64 a, .int .i64 b, .slice A1 R.length c1] tRl)).alloc (.cells #[.int .i64 a2, .int .i64 b2', .slice A2 S.length c2] tRl)).alloc (.cells #[.int .i64 0, .int .i64 0, .slice none 0 0] tRl)) by repeat' (first | exact Below.refl _ _ | apply Below.alloc | (simp; done) | (simp; omega)))
        have HV := Lib.hid (ha.below HVB.out hB)
        have HW := Lib.hid (hb.below HVB.out hB)
        have hB0 : B ≤ (((w.alloc (.cells #[.int .i64 a, .int .i64 b, .slice A1 R.length c1] tRl)).alloc (.cells #[.int .i64 a2, .int .i64 b2', .slice A2 S.length c2] tRl)).alloc (.cells #[.int .i64 0, .int .i64 0, .slice none 0 0] tRl)).heap.size := Nat.le_trans hB HVB.out.size
        have HX0 := Lib.hid (((cellsAt_new w #[.int .i64 a, .int .i64 b, .slice A1 R.length c1] tRl).alloc (.cells #[.int .i64 a2, .int .i64 b2', .slice A2 S.length c2] tRl)).alloc (.cells #[.int .i64 0, .int .i64 0, .slice none 0 0] tRl))
        have HM0 := Lib.hid ((cellsAt_new' (w.alloc (.cells #[.int .i64 a, .int .i64 b, .slice A1 R.length c1] tRl)) #[.int .i64 a2, .int .i64 b2', .slice A2 S.length c2] tRl _ (w.heap.size + 1) (by simp) rfl).alloc (.cells #[.int .i64 0, .int .i64 0, .slice none 0 0] tRl))
        have HY0 := Lib.hid (cellsAt_new' ((w.alloc (.cells #[.int .i64 a, .int .i64 b, .slice A1 R.length c1] tRl)).alloc (.cells #[.int .i64 a2, .int .i64 b2', .slice A2 S.length c2] tRl)) #[.int .i64 0, .int .i64 0, .slice none 0 0] tRl _ (w.heap.size + 1 + 1) (by simp) rfl)
        have hsz0 : (((w.alloc (.cells #[.int .i64 a, .int .i64 b, .slice A1 R.length c1] tRl)).alloc (.cells #[.int .i64 a2, .int .i64 b2', .slice A2 S.length c2] tRl)).alloc (.cells #[.int .i64 0, .int .i64 0, .slice none 0 0] tRl)).heap.size = w.heap.size + 3 := by simp
        have HT := Lib.hid (ht.below HVB.out)
        have HBL := Lib.hid hbl.2
        have HBL2 := Lib.hid hbl2.2
        clear ha hb hB hbl hbl2 ht
        go_enter Tryd.func7, Tryd.ntmps7
        go_upto_region 1 with fail
        generalize (((w.alloc (.cells #[.int .i64 a, .int .i64 b, .slice A1 R.length c1] tRl)).alloc (.cells #[.int .i64 a2, .int .i64 b2', .slice A2 S.length c2] tRl)).alloc (.cells #[.int .i64 0, .int .i64 0, .slice none 0 0] tRl)) = W0 at HVB HV HW hB0 HX0 HM0 HY0 HT hsz0 ⊢
        have hz0 : w.heap.size + 3 ≤ W0.heap.size := by omega
        clear hsz0
        obtain ⟨hx0, hx1, hx2, hxf0, hxf1, hxf2, hxs⟩ := HX0.out.three
        obtain ⟨hm0, hm1, hm2, hmf0, hmf1, hmf2, hms⟩ := HM0.out.three
        go_wp2_with fail
        refine (implIsRelation_any W0 B _ p a b R HT.out HV.out hB0 HBL.out).mono ?_
        rintro e w1 ⟨rfl, b1⟩
        rw [HOK.out]
        have HX1 := Lib.hid (HX0.out.below b1 hxs)
        have HM1 := Lib.hid (HM0.out.below b1 hms)
        have HY1 := Lib.hid (HY0.out.below b1 (by omega))
        have HV1 := Lib.hid (HV.out.below b1 hB0)
        have HW1 := Lib.hid (HW.out.below b1 hB0)
        have HT1 := Lib.hid (HT.out.below b1)
        have HB1 := Lib.hid (HVB.out.trans (b1.mono HVB.out.size))
        have hz1 : w.heap.size + 3 ≤ w1.heap.size := Nat.le_trans hz0 b1.size
        have hB1 : B ≤ w1.heap.size := Nat.le_trans hB0 b1.size
        clear b1 hx0 hx1 hx2 hxf0 hxf1 hxf2 hxs hm0 hm1 hm2 hmf0 hmf1 hmf2 hms
        obtain ⟨hx0, hx1, hx2, hxf0, hxf1, hxf2, hxs⟩ := HX1.out.three
        obtain ⟨hm0, hm1, hm2, hmf0, hmf1, hmf2, hms⟩ := HM1.out.three
        go_wp2_with fail
        refine (implIsRelation_any w1 B _ p a2 b2' S HT1.out HW1.out hB1 HBL2.out).mono ?_
        rintro e w2 ⟨rfl, b2⟩
        rw [HOK2.out]
        have HX2 := Lib.hid (HX1.out.below b2 hxs)
        have HM2 := Lib.hid (HM1.out.below b2 hms)
        have HY2 := Lib.hid (HY1.out.below b2 (by omega))
        have HV2 := Lib.hid (HV1.out.below b2 hB1)
        have HW2 := Lib.hid (HW1.out.below b2 hB1)
        have HT2 := Lib.hid (HT1.out.below b2)
        have HB2 := Lib.hid (HB1.out.trans (b2.mono HB1.out.size))
        have hz2 : w.heap.size + 3 ≤ w2.heap.size := Nat.le_trans hz1 b2.size
        have hB2 : B ≤ w2.heap.size := Nat.le_trans hB1 b2.size
        clear b2 hx0 hx1 hx2 hxf0 hxf1 hxf2 hxs hm0 hm1 hm2 hmf0 hmf1 hmf2 hms
        obtain ⟨hx0, hx1, hx2, hxf0, hxf1, hxf2, hxs⟩ := HX2.out.three
        obtain ⟨hm0, hm1, hm2, hmf0, hmf1, hmf2, hms⟩ := HM2.out.three
        obtain ⟨hy0, hy1, hy2, hyf0, hyf1, hyf2, hys⟩ := HY2.out.three
        go_wp2
        refine bodyPost_ret (v := .tuple #[.agg #[.int .i64 0, .int .i64 0, .slice none 0 0], .bool false]) (by simp [results, Tryd.results7, go_sem, hy0, hy1, hy2]) rfl ?_
        rw [HOX.out, (cmp_no HOX.out).1, (cmp_no HOX.out).2.1, (cmp_no HOX.out).2.2]
        exact ⟨_, rfl, (by refine Below.trans HB2.out ?_; repeat' (first | exact Below.refl _ _ | apply Below.drew | apply Below.setCell | apply Below.alloc | (simp; done) | omega | (simp; omega))), ⟨none, 0, rfl, Nat.le_refl 0, Or.inl rfl⟩, by simp [szG, tot]⟩
      case pos =>
        subst heq
        have hneb : ((b : Int) != (b : Int)) = false := by simp
        cases hsd : sidesB (a : Int) (b2' : Int) with
        | false =>
          have HSD := Lib.hid hsd
          have HOX := Lib.hid (show cmpOk p a b R b b2' S = false by simp [cmpOk, hsd])
          have hgt : (24 : Int) < (a : Int) + (b2' : Int) := by
            unfold sidesB at hsd
            simp at hsd
            omega
          have haa : (a : Int) ≤ 24 := by omega
          have hbb2 : (b2' : Int) ≤ 24 := by omega
          have hw1 : IntKind.i64.wrap ((a : Int) + (b2' : Int)) = (a : Int) + (b2' : Int) := Go.IntWalk.i64_in _ ⟨by omega, by omega⟩
          clear hsd
          have HVB := Lib.hid (show Below w.heap.size w (((w.alloc (.cells #[.int .i64 a, .int .i64 b, .slice A1 R.length c1] tRl)).alloc (.cells #[.int .i64 b, .int .i64 b2', .slice A2 S.length c2] tRl)).alloc (.cells #[.int .i64 0, .int .i64 0, .slice none 0 0] tRl)) by repeat' (first | exact Below.refl _ _ | apply Below.alloc | (simp; done) | (simp; omega)))
          have HV := Lib.hid (ha.below HVB.out hB)
          have HW := Lib.hid (hb.below HVB.out hB)
          have hB0 : B ≤ (((w.alloc (.cells #[.int .i64 a, .int .i64 b, .slice A1 R.length c1] tRl)).alloc (.cells #[.int .i64 b, .int .i64 b2', .slice A2 S.length c2] tRl)).alloc (.cells #[.int .i64 0, .int .i64 0, .slice none 0 0] tRl)).heap.size := Nat.le_trans hB HVB.out.size
          have HX0 := Lib.hid (((cellsAt_new w #[.int .i64 a, .int .i64 b, .slice A1 R.length c1] tRl).alloc (.cells #[.int .i64 b, .int .i64 b2', .slice A2 S.length c2] tRl)).alloc (.cells #[.int .i64 0, .int .i64 0, .slice none 0 0] tRl))
          have HM0 := Lib.hid ((cellsAt_new' (w.alloc (.cells #[.int .i64 a, .int .i64 b, .slice A1 R.length c1] tRl)) #[.int .i64 b, .int .i64 b2', .slice A2 S.length c2] tRl _ (w.heap.size + 1) (by simp) rfl).alloc (.cells #[.int .i64 0, .int .i64 0, .slice none 0 0] tRl))
          have HY0 := Lib.hid (cellsAt_new' ((w.alloc (.cells #[.int .i64 a, .int .i64 b, .slice A1 R.length c1] tRl)).alloc (.cells #[.int .i64 b, .int .i64 b2', .slice A2 S.length c2] tRl)) #[.int .i64 0, .int .i64 0, .slice none 0 0] tRl _ (w.heap.size + 1 + 1) (by simp) rfl)
          have hsz0 : (((w.alloc (.cells #[.int .i64 a, .int .i64 b, .slice A1 R.length c1] tRl)).alloc (.cells #[.int .i64 b, .int .i64 b2', .slice A2 S.length c2] tRl)).alloc (.cells #[.int .i64 0, .int .i64 0, .slice none 0 0] tRl)).heap.size = w.heap.size + 3 := by simp
          have HT := Lib.hid (ht.below HVB.out)
          have HBL := Lib.hid hbl.2
          have HBL2 := Lib.hid hbl2.2
          clear ha hb hB hbl hbl2 ht
          go_enter Tryd.func7, Tryd.ntmps7
          go_upto_region 1 with fail
          generalize (((w.alloc (.cells #[.int .i64 a, .int .i64 b, .slice A1 R.length c1] tRl)).alloc (.cells #[.int .i64 b, .int .i64 b2', .slice A2 S.length c2] tRl)).alloc (.cells #[.int .i64 0, .int .i64 0, .slice none 0 0] tRl)) = W0 at HVB HV HW hB0 HX0 HM0 HY0 HT hsz0 ⊢
          have hz0 : w.heap.size + 3 ≤ W0.heap.size := by omega
          clear hsz0
          obtain ⟨hx0, hx1, hx2, hxf0, hxf1, hxf2, hxs⟩ := HX0.out.three
          obtain ⟨hm0, hm1, hm2, hmf0, hmf1, hmf2, hms⟩ := HM0.out.three
          go_wp2_with fail
          refine (implIsRelation_any W0 B _ p a b R HT.out HV.out hB0 HBL.out).mono ?_
          rintro e w1 ⟨rfl, b1⟩
          rw [HOK.out]
          have HX1 := Lib.hid (HX0.out.below b1 hxs)
          have HM1 := Lib.hid (HM0.out.below b1 hms)
          have HY1 := Lib.hid (HY0.out.below b1 (by omega))
          have HV1 := Lib.hid (HV.out.below b1 hB0)
          have HW1 := Lib.hid (HW.out.below b1 hB0)
          have HT1 := Lib.hid (HT.out.below b1)
          have HB1 := Lib.hid (HVB.out.trans (b1.mono HVB.out.size))
          have hz1 : w.heap.size + 3 ≤ w1.heap.size := Nat.le_trans hz0 b1.size
          have hB1 : B ≤ w1.heap.size := Nat.le_trans hB0 b1.size
          clear b1 hx0 hx1 hx2 hxf0 hxf1 hxf2 hxs hm0 hm1 hm2 hmf0 hmf1 hmf2 hms
          obtain ⟨hx0, hx1, hx2, hxf0, hxf1, hxf2, hxs⟩ := HX1.out.three
          obtain ⟨hm0, hm1, hm2, hmf0, hmf1, hmf2, hms⟩ := HM1.out.three
          go_wp2_with fail
          refine (implIsRelation_any w1 B _ p b b2' S HT1.out HW1.out hB1 HBL2.out).mono ?_
          rintro e w2 ⟨rfl, b2⟩
          rw [HOK2.out]
          have HX2 := Lib.hid (HX1.out.below b2 hxs)
          have HM2 := Lib.hid (HM1.out.below b2 hms)
          have HY2 := Lib.hid (HY1.out.below b2 (by omega))
          have HV2 := Lib.hid (HV1.out.below b2 hB1)
          have HW2 := Lib.hid (HW1.out.below b2 hB1)
          have HT2 := Lib.hid (HT1.out.below b2)
          have HB2 := Lib.hid (HB1.out.trans (b2.mono HB1.out.size))
          have hz2 : w.heap.size + 3 ≤ w2.heap.size := Nat.le_trans hz1 b2.size
          have hB2 : B ≤ w2.heap.size := Nat.le_trans hB1 b2.size
          clear b2 hx0 hx1 hx2 hxf0 hxf1 hxf2 hxs hm0 hm1 hm2 hmf0 hmf1 hmf2 hms
          obtain ⟨hx0, hx1, hx2, hxf0, hxf1, hxf2, hxs⟩ := HX2.out.three
          obtain ⟨hm0, hm1, hm2, hmf0, hmf1, hmf2, hms⟩ := HM2.out.three
          go_wp2_with fail
          refine (areSides_any w2 ((a : Int)) ((b2' : Int)) (by omega)).mono ?_
          rintro e w' ⟨rfl, rfl⟩
          rw [HSD.out]
          obtain ⟨hy0, hy1, hy2, hyf0, hyf1, hyf2, hys⟩ := HY2.out.three
          go_wp2
          refine bodyPost_ret (v := .tuple #[.agg #[.int .i64 0, .int .i64 0, .slice none 0 0], .bool false]) (by simp [results, Tryd.results7, go_sem, hy0, hy1, hy2]) rfl ?_
          rw [HOX.out, (cmp_no HOX.out).1, (cmp_no HOX.out).2.1, (cmp_no HOX.out).2.2]
          exact ⟨_, rfl, (by refine Below.trans HB2.out ?_; repeat' (first | exact Below.refl _ _ | apply Below.drew | apply Below.setCell | apply Below.alloc | (simp; done) | omega | (simp; omega))), ⟨none, 0, rfl, Nat.le_refl 0, Or.inl rfl⟩, by simp [szG, tot]⟩
        | true =>
          have HSD := Lib.hid hsd
          have HOX := Lib.hid (show cmpOk p a b R b b2' S = true by simp [cmpOk, hsd, HOK.out, HOK2.out])
          have hle : a + b2' ≤ 24 := by
            unfold sidesB at hsd
            simp at hsd
            omega
          have HSZ := Lib.hid (rref_sz HF.out hle (cmpO_mat (la := a) (m := b) (rb := b2') HF.out HRM.out HS2.out))
          have HEQ := Lib.hid (cmp_eq (la := a) (m := b) (rb := b2') HF.out HRM.out HS2.out)
          have hgt : ¬ (24 : Int) < (a : Int) + (b2' : Int) := by omega
          have hw1 : IntKind.i64.wrap ((a : Int) + (b2' : Int)) = (a : Int) + (b2' : Int) := Go.IntWalk.i64_in _ ⟨by omega, by omega⟩
          clear hsd
          have HVB := Lib.hid (show Below w.heap.size w (((w.alloc (.cells #[.int .i64 a, .int .i64 b, .slice A1 R.length c1] tRl)).alloc (.cells #[.int .i64 b, .int .i64 b2', .slice A2 S.length c2] tRl)).alloc (.cells #[.int .i64 0, .int .i64 0, .slice none 0 0] tRl)) by repeat' (first | exact Below.refl _ _ | apply Below.alloc | (simp; done) | (simp; omega)))
          have HV := Lib.hid (ha.below HVB.out hB)
          have HW := Lib.hid (hb.below HVB.out hB)
          have hB0 : B ≤ (((w.alloc (.cells #[.int .i64 a, .int .i64 b, .slice A1 R.length c1] tRl)).alloc (.cells #[.int .i64 b, .int .i64 b2', .slice A2 S.length c2] tRl)).alloc (.cells #[.int .i64 0, .int .i64 0, .slice none 0 0] tRl)).heap.size := Nat.le_trans hB HVB.out.size
          have HX0 := Lib.hid (((cellsAt_new w #[.int .i64 a, .int .i64 b, .slice A1 R.length c1] tRl).alloc (.cells #[.int .i64 b, .int .i64 b2', .slice A2 S.length c2] tRl)).alloc (.cells #[.int .i64 0, .int .i64 0, .slice none 0 0] tRl))
          have HM0 := Lib.hid ((cellsAt_new' (w.alloc (.cells #[.int .i64 a, .int .i64 b, .slice A1 R.length c1] tRl)) #[.int .i64 b, .int .i64 b2', .slice A2 S.length c2] tRl _ (w.heap.size + 1) (by simp) rfl).alloc (.cells #[.int .i64 0, .int .i64 0, .slice none 0 0] tRl))
          have HY0 := Lib.hid (cellsAt_new' ((w.alloc (.cells #[.int .i64 a, .int .i64 b, .slice A1 R.length c1] tRl)).alloc (.cells #[.int .i64 b, .int .i64 b2', .slice A2 S.length c2] tRl)) #[.int .i64 0, .int .i64 0, .slice none 0 0] tRl _ (w.heap.size + 1 + 1) (by simp) rfl)
          have hsz0 : (((w.alloc (.cells #[.int .i64 a, .int .i64 b, .slice A1 R.length c1] tRl)).alloc (.cells #[.int .i64 b, .int .i64 b2', .slice A2 S.length c2] tRl)).alloc (.cells #[.int .i64 0, .int .i64 0, .slice none 0 0] tRl)).heap.size = w.heap.size + 3 := by simp
          have HT := Lib.hid (ht.below HVB.out)
          have HBL := Lib.hid hbl.2
          have HBL2 := Lib.hid hbl2.2
          clear ha hb hB hbl hbl2 ht
          go_enter Tryd.func7, Tryd.ntmps7
          go_upto_region 1 with fail
          generalize (((w.alloc (.cells #[.int .i64 a, .int .i64 b, .slice A1 R.length c1] tRl)).alloc (.cells #[.int .i64 b, .int .i64 b2', .slice A2 S.length c2] tRl)).alloc (.cells #[.int .i64 0, .int .i64 0, .slice none 0 0] tRl)) = W0 at HVB HV HW hB0 HX0 HM0 HY0 HT hsz0 ⊢
          have hz0 : w.heap.size + 3 ≤ W0.heap.size := by omega
          clear hsz0
          obtain ⟨hx0, hx1, hx2, hxf0, hxf1, hxf2, hxs⟩ := HX0.out.three
          obtain ⟨hm0, hm1, hm2, hmf0, hmf1, hmf2, hms⟩ := HM0.out.three
          go_wp2_with fail
          refine (implIsRelation_any W0 B _ p a b R HT.out HV.out hB0 HBL.out).mono ?_
          rintro e w1 ⟨rfl, b1⟩
          rw [HOK.out]
          have HX1 := Lib.hid (HX0.out.below b1 hxs)
          have HM1 := Lib.hid (HM0.out.below b1 hms)
          have HY1 := Lib.hid (HY0.out.below b1 (by omega))
          have HV1 := Lib.hid (HV.out.below b1 hB0)
          have HW1 := Lib.hid (HW.out.below b1 hB0)
          have HT1 := Lib.hid (HT.out.below b1)
          have HB1 := Lib.hid (HVB.out.trans (b1.mono HVB.out.size))
          have hz1 : w.heap.size + 3 ≤ w1.heap.size := Nat.le_trans hz0 b1.size
          have hB1 : B ≤ w1.heap.size := Nat.le_trans hB0 b1.size
          clear b1 hx0 hx1 hx2 hxf0 hxf1 hxf2 hxs hm0 hm1 hm2 hmf0 hmf1 hmf2 hms
          obtain ⟨hx0, hx1, hx2, hxf0, hxf1, hxf2, hxs⟩ := HX1.out.three
          obtain ⟨hm0, hm1, hm2, hmf0, hmf1, hmf2, hms⟩ := HM1.out.three
          go_wp2_with fail
          refine (implIsRelation_any w1 B _ p b b2' S HT1.out HW1.out hB1 HBL2.out).mono ?_
          rintro e w2 ⟨rfl, b2⟩
          rw [HOK2.out]
          have HX2 := Lib.hid (HX1.out.below b2 hxs)
          have HM2 := Lib.hid (HM1.out.below b2 hms)
          have HY2 := Lib.hid (HY1.out.below b2 (by omega))
          have HV2 := Lib.hid (HV1.out.below b2 hB1)
          have HW2 := Lib.hid (HW1.out.below b2 hB1)
          have HT2 := Lib.hid (HT1.out.below b2)
          have HB2 := Lib.hid (HB1.out.trans (b2.mono HB1.out.size))
          have hz2 : w.heap.size + 3 ≤ w2.heap.size := Nat.le_trans hz1 b2.size
          have hB2 : B ≤ w2.heap.size := Nat.le_trans hB1 b2.size
          clear b2 hx0 hx1 hx2 hxf0 hxf1 hxf2 hxs hm0 hm1 hm2 hmf0 hmf1 hmf2 hms
          obtain ⟨hx0, hx1, hx2, hxf0, hxf1, hxf2, hxs⟩ := HX2.out.three
          obtain ⟨hm0, hm1, hm2, hmf0, hmf1, hmf2, hms⟩ := HM2.out.three
          go_wp2_with fail
          refine (areSides_any w2 ((a : Int)) ((b2' : Int)) (by omega)).mono ?_
          rintro e w' ⟨rfl, rfl⟩
          rw [HSD.out]
          go_wp2_with fail
          refine (compositionOf_any w2 B _ _ p a b b2' R S HV2.out.1 HW2.out.1 hB2 HF.out HRM.out HS2.out (by omega) (by omega) (by omega)).mono ?_
          rintro e w4 ⟨v4, rfl, b4, o4⟩
          rw [← HEQ.out] at o4
          obtain ⟨A4, c4, rfl⟩ := OwGP.len o4
          have HB4 := Lib.hid b4
          have HO4 := Lib.hid (OwGP.mono (T := fun q => w2.heap.size ≤ q) o4 (fun q hq _ => hq))
          have HY4 := Lib.hid (HY2.out.below HB4.out (by omega))
          clear b4 o4 hx0 hx1 hx2 hxf0 hxf1 hxf2 hxs hm0 hm1 hm2 hmf0 hmf1 hmf2 hms
          obtain ⟨hy0, hy1, hy2, hyf0, hyf1, hyf2, hys⟩ := HY4.out.three
          have HBE := Lib.hid (HB2.out.trans (HB4.out.mono HB2.out.size))
          go_wp2
          refine bodyPost_ret (v := .tuple #[.agg #[.int .i64 (a : Int), .int .i64 (b2' : Int), .slice A4 (rref p (cmpO p a b b2' R S) (a + b2')).length c4], .bool true]) (by simp [results, Tryd.results7, go_sem, hy0, hy1, hy2]) rfl ?_
          rw [HOX.out, (cmp_yes HOX.out).1, (cmp_yes HOX.out).2.1, (cmp_yes HOX.out).2.2]
          refine ⟨_, rfl, (by refine Below.trans HBE.out ?_; repeat' (first | exact Below.refl _ _ | apply Below.drew | apply Below.setCell | apply Below.alloc | (simp; done) | omega | (simp; omega))), (OwGP.blocks HO4.out (fun q hq _ => ?_)).mono (fun q hq _ => by omega), HSZ.out⟩
          repeat rw [blk_setCell_other _ _ _ _ (by dsimp only; omega)]
set_option maxRecDepth 100000 in
set_option maxHeartbeats 12800000 in
theorem spec_ComposeRelations (w : World) (B : Nat) (va vb : Value) (p l r : Int) (l2 r2 : Int) (R S : List (List Int)) (hbl : Bi l) (_hbr : Bi r) (hbl2 : Bi l2) (_hbr2 : Bi r2) (ha : LfG w B va R) (hb : LfG w B vb S) (hB : B ≤ w.heap.size) (_hsa : szG R ≤ 1048576) (_hsb : szG S ≤ 1048576) :
    Calls Tryd.prog 5 #[.int .i64 p, .agg #[.int .i64 l, .int .i64 r, va], .agg #[.int .i64 l2, .int .i64 r2, vb]] w (SRetRelationP w (cmpL p l r R l2 r2 S) (cmpG p l r R l2 r2 S) (cmpR p l r R l2 r2 S) (cmpOk p l r R l2 r2 S)) := by
  obtain ⟨A1, c1, rfl⟩ := ha.len
  obtain ⟨A2, c2, rfl⟩ := hb.len
  cases hs : isRl p l r R with
  | false =>
    have HOK := Lib.hid hs
    have HOX := Lib.hid (show cmpOk p l r R l2 r2 S = false by simp [cmpOk, hs])
    clear hs
    have HVB := Lib.hid (show Below w.heap.size w (((w.alloc (.cells #[.int .i64 l, .int .i64 r, .slice A1 R.length c1] tRl)).alloc (.cells #[.int .i64 l2, .int .i64 r2, .slice A2 S.length c2] tRl)).alloc (.cells #[.int .i64 0, .int .i64 0, .slice none 0 0] tRl)) by repeat' (first | exact Below.refl _ _ | apply Below.alloc | (simp; done) | (simp; omega)))
    have HV := Lib.hid (ha.below HVB.out hB)
    have HW := Lib.hid (hb.below HVB.out hB)
    have hB0 : B ≤ (((w.alloc (.cells #[.int .i64 l, .int .i64 r, .slice A1 R.length c1] tRl)).alloc (.cells #[.int .i64 l2, .int .i64 r2, .slice A2 S.length c2] tRl)).alloc (.cells #[.int .i64 0, .int .i64 0, .slice none 0 0] tRl)).heap.size := Nat.le_trans hB HVB.out.size
    have HX0 := Lib.hid (((cellsAt_new w #[.int .i64 l, .int .i64 r, .slice A1 R.length c1] tRl).alloc (.cells #[.int .i64 l2, .int .i64 r2, .slice A2 S.length c2] tRl)).alloc (.cells #[.int .i64 0, .int .i64 0, .slice none 0 0] tRl))
    have HM0 := Lib.hid ((cellsAt_new' (w.alloc (.cells #[.int .i64 l, .int .i64 r, .slice A1 R.length c1] tRl)) #[.int .i64 l2, .int .i64 r2, .slice A2 S.length c2] tRl _ (w.heap.size + 1) (by simp) rfl).alloc (.cells #[.int .i64 0, .int .i64 0, .slice none 0 0] tRl))
    have HY0 := Lib.hid (cellsAt_new' ((w.alloc (.cells #[.int .i64 l, .int .i64 r, .slice A1 R.length c1] tRl)).alloc (.cells #[.int .i64 l2, .int .i64 r2, .slice A2 S.length c2] tRl)) #[.int .i64 0, .int .i64 0, .slice none 0 0] tRl _ (w.heap.size + 1 + 1) (by simp) rfl)
    have hsz0 : (((w.alloc (.cells #[.int .i64 l, .int .i64 r, .slice A1 R.length c1] tRl)).alloc (.cells #[.int .i64 l2, .int .i64 r2, .slice A2 S.length c2] tRl)).alloc (.cells #[.int .i64 0, .int .i64 0, .slice none 0 0] tRl)).heap.size = w.heap.size + 3 := by simp
    clear ha hb hB hbl hbl2
    go_enter Tryd.func5, Tryd.ntmps5
    go_upto_region 1 with fail
    generalize (((w.alloc (.cells #[.int .i64 l, .int .i64 r, .slice A1 R.length c1] tRl)).alloc (.cells #[.int .i64 l2, .int .i64 r2, .slice A2 S.length c2] tRl)).alloc (.cells #[.int .i64 0, .int .i64 0, .slice none 0 0] tRl)) = W0 at HVB HV HW hB0 HX0 HM0 HY0 hsz0 ⊢
    have hz0 : w.heap.size + 3 ≤ W0.heap.size := by omega
    clear hsz0
    obtain ⟨hx0, hx1, hx2, hxf0, hxf1, hxf2, hxs⟩ := HX0.out.three
    obtain ⟨hm0, hm1, hm2, hmf0, hmf1, hmf2, hms⟩ := HM0.out.three
    go_wp2_with fail
    refine (rlGood_any W0 B _ p l r R HV.out hB0).mono ?_
    rintro e w1 ⟨rfl, b1⟩
    rw [HOK.out]
    have HX1 := Lib.hid (HX0.out.below b1 hxs)
    have HM1 := Lib.hid (HM0.out.below b1 hms)
    have HY1 := Lib.hid (HY0.out.below b1 (by omega))
    have HV1 := Lib.hid (HV.out.below b1 hB0)
    have HW1 := Lib.hid (HW.out.below b1 hB0)
    have HB1 := Lib.hid (HVB.out.trans (b1.mono HVB.out.size))
    have hz1 : w.heap.size + 3 ≤ w1.heap.size := Nat.le_trans hz0 b1.size
    have hB1 : B ≤ w1.heap.size := Nat.le_trans hB0 b1.size
    clear b1 hx0 hx1 hx2 hxf0 hxf1 hxf2 hxs hm0 hm1 hm2 hmf0 hmf1 hmf2 hms
    obtain ⟨hy0, hy1, hy2, hyf0, hyf1, hyf2, hys⟩ := HY1.out.three
    go_wp2
    refine bodyPost_ret (v := .tuple #[.agg #[.int .i64 0, .int .i64 0, .slice none 0 0], .bool false]) (by simp [results, Tryd.results5, go_sem, hy0, hy1, hy2]) rfl ?_
    rw [HOX.out, (cmp_no HOX.out).1, (cmp_no HOX.out).2.1, (cmp_no HOX.out).2.2]
    exact ⟨_, rfl, (by refine Below.trans HB1.out ?_; repeat' (first | exact Below.refl _ _ | apply Below.drew | apply Below.setCell | apply Below.alloc | (simp; done) | omega | (simp; omega))), ⟨none, 0, rfl, Nat.le_refl 0, Or.inl rfl⟩, by simp [szG, tot]⟩
  | true =>
    obtain ⟨hf, a, b, rfl, rfl, hab, hln, hred⟩ := isRl_parts hs
    have HOK := Lib.hid hs
    have HF := Lib.hid hf
    have HRM := Lib.hid hred.mat
    have HRI := Lib.hid hred
    clear hs hf hred
    cases hs2 : isRl p l2 r2 S with
    | false =>
      have HOK2 := Lib.hid hs2
      have HOX := Lib.hid (show cmpOk p a b R l2 r2 S = false by simp [cmpOk, hs2])
      clear hs2
      have HVB := Lib.hid (show Below w.heap.size w (((w.alloc (.cells #[.int .i64 a, .int .i64 b, .slice A1 R.length c1] tRl)).alloc (.cells #[.int .i64 l2, .int .i64 r2, .slice A2 S.length c2] tRl)).alloc (.cells #[.int .i64 0, .int .i64 0, .slice none 0 0] tRl)) by repeat' (first | exact Below.refl _ _ | apply Below.alloc | (simp; done) | (simp; omega)))
      have HV := Lib.hid (ha.below HVB.out hB)
      have HW := Lib.hid (hb.below HVB.out hB)
      have hB0 : B ≤ (((w.alloc (.cells #[.int .i64 a, .int .i64 b, .slice A1 R.length c1] tRl)).alloc (.cells #[.int .i64 l2, .int .i64 r2, .slice A2 S.length c2] tRl)).alloc (.cells #[.int .i64 0, .int .i64 0, .slice none 0 0] tRl)).heap.size := Nat.le_trans hB HVB.out.size
      have HX0 := Lib.hid (((cellsAt_new w #[.int .i64 a, .int .i64 b, .slice A1 R.length c1] tRl).alloc (.cells #[.int .i64 l2, .int .i64 r2, .slice A2 S.length c2] tRl)).alloc (.cells #[.int .i64 0, .int .i64 0, .slice none 0 0] tRl))
      have HM0 := Lib.hid ((cellsAt_new' (w.alloc (.cells #[.int .i64 a, .int .i64 b, .slice A1 R.length c1] tRl)) #[.int .i64 l2, .int .i64 r2, .slice A2 S.length c2] tRl _ (w.heap.size + 1) (by simp) rfl).alloc (.cells #[.int .i64 0, .int .i64 0, .slice none 0 0] tRl))
      have HY0 := Lib.hid (cellsAt_new' ((w.alloc (.cells #[.int .i64 a, .int .i64 b, .slice A1 R.length c1] tRl)).alloc (.cells #[.int .i64 l2, .int .i64 r2, .slice A2 S.length c2] tRl)) #[.int .i64 0, .int .i64 0, .slice none 0 0] tRl _ (w.heap.size + 1 + 1) (by simp) rfl)
      have hsz0 : (((w.alloc (.cells #[.int .i64 a, .int .i64 b, .slice A1 R.length c1] tRl)).alloc (.cells #[.int .i64 l2, .int .i64 r2, .slice A2 S.length c2] tRl)).alloc (.cells #[.int .i64 0, .int .i64 0, .slice none 0 0] tRl)).heap.size = w.heap.size + 3 := by simp
      clear ha hb hB hbl hbl2
      go_enter Tryd.func5, Tryd.ntmps5
      go_upto_region 1 with fail
      generalize (((w.alloc (.cells #[.int .i64 a, .int .i64 b, .slice A1 R.length c1] tRl)).alloc (.cells #[.int .i64 l2, .int .i64 r2, .slice A2 S.length c2] tRl)).alloc (.cells #[.int .i64 0, .int .i64 0, .slice none 0 0] tRl)) = W0 at HVB HV HW hB0 HX0 HM0 HY0 hsz0 ⊢
      have hz0 : w.heap.size + 3 ≤ W0.heap.size := by omega
      clear hsz0
      obtain ⟨hx0, hx1, hx2, hxf0, hxf1, hxf2, hxs⟩ := HX0.out.three
      obtain ⟨hm0, hm1, hm2, hmf0, hmf1, hmf2, hms⟩ := HM0.out.three
      go_wp2_with fail
      refine (rlGood_any W0 B _ p a b R HV.out hB0).mono ?_
      rintro e w1 ⟨rfl, b1⟩
      rw [HOK.out]
      have HX1 := Lib.hid (HX0.out.below b1 hxs)
      have HM1 := Lib.hid (HM0.out.below b1 hms)
      have HY1 := Lib.hid (HY0.out.below b1 (by omega))
      have HV1 := Lib.hid (HV.out.below b1 hB0)
      have HW1 := Lib.hid (HW.out.below b1 hB0)
      have HB1 := Lib.hid (HVB.out.trans (b1.mono HVB.out.size))
      have hz1 : w.heap.size + 3 ≤ w1.heap.size := Nat.le_trans hz0 b1.size
      have hB1 : B ≤ w1.heap.size := Nat.le_trans hB0 b1.size
      clear b1 hx0 hx1 hx2 hxf0 hxf1 hxf2 hxs hm0 hm1 hm2 hmf0 hmf1 hmf2 hms
      obtain ⟨hx0, hx1, hx2, hxf0, hxf1, hxf2, hxs⟩ := HX1.out.three
      obtain ⟨hm0, hm1, hm2, hmf0, hmf1, hmf2, hms⟩ := HM1.out.three
      go_wp2_with fail
      refine (rlGood_any w1 B _ p l2 r2 S HW1.out hB1).mono ?_
      rintro e w2 ⟨rfl, b2⟩
      rw [HOK2.out]
      have HX2 := Lib.hid (HX1.out.below b2 hxs)
      have HM2 := Lib.hid (HM1.out.below b2 hms)
      have HY2 := Lib.hid (HY1.out.below b2 (by omega))
      have HV2 := Lib.hid (HV1.out.below b2 hB1)
      have HW2 := Lib.hid (HW1.out.below b2 hB1)
      have HB2 := Lib.hid (HB1.out.trans (b2.mono HB1.out.size))
      have hz2 : w.heap.size + 3 ≤ w2.heap.size := Nat.le_trans hz1 b2.size
      have hB2 : B ≤ w2.heap.size := Nat.le_trans hB1 b2.size
      clear b2 hx0 hx1 hx2 hxf0 hxf1 hxf2 hxs hm0 hm1 hm2 hmf0 hmf1 hmf2 hms
      obtain ⟨hx0, hx1, hx2, hxf0, hxf1, hxf2, hxs⟩ := HX2.out.three
      obtain ⟨hm0, hm1, hm2, hmf0, hmf1, hmf2, hms⟩ := HM2.out.three
      obtain ⟨hy0, hy1, hy2, hyf0, hyf1, hyf2, hys⟩ := HY2.out.three
      go_wp2
      refine bodyPost_ret (v := .tuple #[.agg #[.int .i64 0, .int .i64 0, .slice none 0 0], .bool false]) (by simp [results, Tryd.results5, go_sem, hy0, hy1, hy2]) rfl ?_
      rw [HOX.out, (cmp_no HOX.out).1, (cmp_no HOX.out).2.1, (cmp_no HOX.out).2.2]
      exact ⟨_, rfl, (by refine Below.trans HB2.out ?_; repeat' (first | exact Below.refl _ _ | apply Below.drew | apply Below.setCell | apply Below.alloc | (simp; done) | omega | (simp; omega))), ⟨none, 0, rfl, Nat.le_refl 0, Or.inl rfl⟩, by simp [szG, tot]⟩
    | true =>
      obtain ⟨-, a2, b2', rfl, rfl, hab2, hln2, hred2⟩ := isRl_parts hs2
      have HOK2 := Lib.hid hs2
      have HS2 := Lib.hid hred2.mat
      have HSI := Lib.hid hred2
      clear hs2 hred2
      by_cases heq : b = a2
      case neg =>
        have HOX := Lib.hid (show cmpOk p a b R a2 b2' S = false by simp [cmpOk]; intro _ _ h; exact absurd h (by omega))
        have hne : ¬ ((b : Int) = (a2 : Int)) := by omega
        have hneb : ((b : Int) != (a2 : Int)) = true := by simp; omega
        have HVB := Lib.hid (show Below w.heap.size w (((w.alloc (.cells #[.int .i64 a, .int .i64 b, .slice A1 R.length c1] tRl)).alloc (.cells #[.int .i64 a2, .int .i64 b2', .slice A2 S.length c2] tRl)).alloc (.cells #[.int .i64 0, .int .i64 0, .slice none 0 0] tRl)) by repeat' (first | exact Below.refl _ _ | apply Below.alloc | (simp; done) | (simp; omega)))
        have HV := Lib.hid (ha.below HVB.out hB)
        have HW := Lib.hid (hb.below HVB.out hB)
        have hB0 : B ≤ (((w.alloc (.cells #[.int .i64 a, .int .i64 b, .slice A1 R.length c1] tRl)).alloc (.cells #[.int .i64 a2, .int .i64 b2', .slice A2 S.length c2] tRl)).alloc (.cells #[.int .i64 0, .int .i64 0, .slice none 0 0] tRl)).heap.size := Nat.le_trans hB HVB.out.size
        have HX0 := Lib.hid (((cellsAt_new w #[.int .i64 a, .int .i64 b, .slice A1 R.length c1] tRl).alloc (.cells #[.int .i64 a2, .int .i64 b2', .slice A2 S.length c2] tRl)).alloc (.cells #[.int .i64 0, .int .i64 0, .slice none 0 0] tRl))
        have HM0 := Lib.hid ((cellsAt_new' (w.alloc (.cells #[.int .i64 a, .int .i64 b, .slice A1 R.length c1] tRl)) #[.int .i64 a2, .int .i64 b2', .slice A2 S.length c2] tRl _ (w.heap.size + 1) (by simp) rfl).alloc (.cells #[.int .i64 0, .int .i64 0, .slice none 0 0] tRl))
        have HY0 := Lib.hid (cellsAt_new' ((w.alloc (.cells #[.int .i64 a, .int .i64 b, .slice A1 R.length c1] tRl)).alloc (.cells #[.int .i64 a2, .int .i64 b2', .slice A2 S.length c2] tRl)) #[.int .i64 0, .int .i64 0, .slice none 0 0] tRl _ (w.heap.size + 1 + 1) (by simp) rfl)
        have hsz0 : (((w.alloc (.cells #[.int .i64 a, .int .i64 b, .slice A1 R.length c1] tRl)).alloc (.cells #[.int .i64 a2, .int .i64 b2', .slice A2 S.length c2] tRl)).alloc (.cells #[.int .i64 0, .int .i64 0, .slice none 0 0] tRl)).heap.size = w.heap.size + 3 := by simp
        clear ha hb hB hbl hbl2
        go_enter Tryd.func5, Tryd.ntmps5
        go_upto_region 1 with fail
        generalize (((w.alloc (.cells #[.int .i64 a, .int .i64 b, .slice A1 R.length c1] tRl)).alloc (.cells #[.int .i64 a2, .int .i64 b2', .slice A2 S.length c2] tRl)).alloc (.cells #[.int .i64 0, .int .i64 0, .slice none 0 0] tRl)) = W0 at HVB HV HW hB0 HX0 HM0 HY0 hsz0 ⊢
        have hz0 : w.heap.size + 3 ≤ W0.heap.size := by omega
        clear hsz0
        obtain ⟨hx0, hx1, hx2, hxf0, hxf1, hxf2, hxs⟩ := HX0.out.three
        obtain ⟨hm0, hm1, hm2, hmf0, hmf1, hmf2, hms⟩ := HM0.out.three
        go_wp2_with fail
        refine (rlGood_any W0 B _ p a b R HV.out hB0).mono ?_
        rintro e w1 ⟨rfl, b1⟩
        rw [HOK.out]
        have HX1 := Lib.hid (HX0.out.below b1 hxs)
        have HM1 := Lib.hid (HM0.out.below b1 hms)
        have HY1 := Lib.hid (HY0.out.below b1 (by omega))
        have HV1 := Lib.hid (HV.out.below b1 hB0)
        have HW1 := Lib.hid (HW.out.below b1 hB0)
        have HB1 := Lib.hid (HVB.out.trans (b1.mono HVB.out.size))
        have hz1 : w.heap.size + 3 ≤ w1.heap.size := Nat.le_trans hz0 b1.size
        have hB1 : B ≤ w1.heap.size := Nat.le_trans hB0 b1.size
        clear b1 hx0 hx1 hx2 hxf0 hxf1 hxf2 hxs hm0 hm1 hm2 hmf0 hmf1 hmf2 hms
        obtain ⟨hx0, hx1, hx2, hxf0, hxf1, hxf2, hxs⟩ := HX1.out.three
        obtain ⟨hm0, hm1, hm2, hmf0, hmf1, hmf2, hms⟩ := HM1.out.three
        go_wp2_with fail
        refine (rlGood_any w1 B _ p a2 b2' S HW1.out hB1).mono ?_
        rintro e w2 ⟨rfl, b2⟩
        rw [HOK2.out]
        have HX2 := Lib.hid (HX1.out.below b2 hxs)
        have HM2 := Lib.hid (HM1.out.below b2 hms)
        have HY2 := Lib.hid (HY1.out.below b2 (by omega))
        have HV2 := Lib.hid (HV1.out.below b2 hB1)
        have HW2 := Lib.hid (HW1.out.below b2 hB1)
        have HB2 := Lib.hid (HB1.out.trans (b2.mono HB1.out.size))
        have hz2 : w.heap.size + 3 ≤ w2.heap.size := Nat.le_trans hz1 b2.size
        have hB2 : B ≤ w2.heap.size := Nat.le_trans hB1 b2.size
        clear b2 hx0 hx1 hx2 hxf0 hxf1 hxf2 hxs hm0 hm1 hm2 hmf0 hmf1 hmf2 hms
        obtain ⟨hx0, hx1, hx2, hxf0, hxf1, hxf2, hxs⟩ := HX2.out.three
        obtain ⟨hm0, hm1, hm2, hmf0, hmf1, hmf2, hms⟩ := HM2.out.three
        obtain ⟨hy0, hy1, hy2, hyf0, hyf1, hyf2, hys⟩ := HY2.out.three
        go_wp2
        refine bodyPost_ret (v := .tuple #[.agg #[.int .i64 0, .int .i64 0, .slice none 0 0], .bool false]) (by simp [results, Tryd.results5, go_sem, hy0, hy1, hy2]) rfl ?_
        rw [HOX.out, (cmp_no HOX.out).1, (cmp_no HOX.out).2.1, (cmp_no HOX.out).2.2]
        exact ⟨_, rfl, (by refine Below.trans HB2.out ?_; repeat' (first | exact Below.refl _ _ | apply Below.drew | apply Below.setCell | apply Below.alloc | (simp; done) | omega | (simp; omega))), ⟨none, 0, rfl, Nat.le_refl 0, Or.inl rfl⟩, by simp [szG, tot]⟩
      case pos =>
        subst heq
        have hneb : ((b : Int) != (b : Int)) = false := by simp
        cases hsd : sidesB (a : Int) (b2' : Int) with
        | false =>
          have HSD := Lib.hid hsd
          have HOX := Lib.hid (show cmpOk p a b R b b2' S = false by simp [cmpOk, hsd])
          have hgt : (24 : Int) < (a : Int) + (b2' : Int) := by
            unfold sidesB at hsd
            simp at hsd
            omega
          have haa : (a : Int) ≤ 24 := by omega
          have hbb2 : (b2' : Int) ≤ 24 := by omega
          have hw1 : IntKind.i64.wrap ((a : Int) + (b2' : Int)) = (a : Int) + (b2' : Int) := Go.IntWalk.i64_in _ ⟨by omega, by omega⟩
          clear hsd
          have HVB := Lib.hid (show Below w.heap.size w (((w.alloc (.cells #[.int .i64 a, .int .i64 b, .slice A1 R.length c1] tRl)).alloc (.cells #[.int .i64 b, .int .i64 b2', .slice A2 S.length c2] tRl)).alloc (.cells #[.int .i64 0, .int .i64 0, .slice none 0 0] tRl)) by repeat' (first | exact Below.refl _ _ | apply Below.alloc | (simp; done) | (simp; omega)))
          have HV := Lib.hid (ha.below HVB.out hB)
          have HW := Lib.hid (hb.below HVB.out hB)
          have hB0 : B ≤ (((w.alloc (.cells #[.int .i64 a, .int .i64 b, .slice A1 R.length c1] tRl)).alloc (.cells #[.int .i64 b, .int .i64 b2', .slice A2 S.length c2] tRl)).alloc (.cells #[.int .i64 0, .int .i64 0, .slice none 0 0] tRl)).heap.size := Nat.le_trans hB HVB.out.size
          have HX0 := Lib.hid (((cellsAt_new w #[.int .i64 a, .int .i64 b, .slice A1 R.length c1] tRl).alloc (.cells #[.int .i64 b, .int .i64 b2', .slice A2 S.length c2] tRl)).alloc (.cells #[.int .i64 0, .int .i64 0, .slice none 0 0] tRl))
          have HM0 := Lib.hid ((cellsAt_new' (w.alloc (.cells #[.int .i64 a, .int .i64 b, .slice A1 R.length c1] tRl)) #[.int .i64 b, .int .i64 b2', .slice A2 S.length c2] tRl _ (w.heap.size + 1) (by simp) rfl).alloc (.cells #[.int .i64 0, .int .i64 0, .slice none 0 0] tRl))
          have HY0 := Lib.hid (cellsAt_new' ((w.alloc (.cells #[.int .i64 a, .int .i64 b, .slice A1 R.length c1] tRl)).alloc (.cells #[.int .i64 b, .int .i64 b2', .slice A2 S.length c2] tRl)) #[.int .i64 0, .int .i64 0, .slice none 0 0] tRl _ (w.heap.size + 1 + 1) (by simp) rfl)
          have hsz0 : (((w.alloc (.cells #[.int .i64 a, .int .i64 b, .slice A1 R.length c1] tRl)).alloc (.cells #[.int .i64 b, .int .i64 b2', .slice A2 S.length c2] tRl)).alloc (.cells #[.int .i64 0, .int .i64 0, .slice none 0 0] tRl)).heap.size = w.heap.size + 3 := by simp
          clear ha hb hB hbl hbl2
          go_enter Tryd.func5, Tryd.ntmps5
          go_upto_region 1 with fail
          generalize (((w.alloc (.cells #[.int .i64 a, .int .i64 b, .slice A1 R.length c1] tRl)).alloc (.cells #[.int .i64 b, .int .i64 b2', .slice A2 S.length c2] tRl)).alloc (.cells #[.int .i64 0, .int .i64 0, .slice none 0 0] tRl)) = W0 at HVB HV HW hB0 HX0 HM0 HY0 hsz0 ⊢
          have hz0 : w.heap.size + 3 ≤ W0.heap.size := by omega
          clear hsz0
          obtain ⟨hx0, hx1, hx2, hxf0, hxf1, hxf2, hxs⟩ := HX0.out.three
          obtain ⟨hm0, hm1, hm2, hmf0, hmf1, hmf2, hms⟩ := HM0.out.three
          go_wp2_with fail
          refine (rlGood_any W0 B _ p a b R HV.out hB0).mono ?_
          rintro e w1 ⟨rfl, b1⟩
          rw [HOK.out]
          have HX1 := Lib.hid (HX0.out.below b1 hxs)
          have HM1 := Lib.hid (HM0.out.below b1 hms)
          have HY1 := Lib.hid (HY0.out.below b1 (by omega))
          have HV1 := Lib.hid (HV.out.below b1 hB0)
          have HW1 := Lib.hid (HW.out.below b1 hB0)
          have HB1 := Lib.hid (HVB.out.trans (b1.mono HVB.out.size))
          have hz1 : w.heap.size + 3 ≤ w1.heap.size := Nat.le_trans hz0 b1.size
          have hB1 : B ≤ w1.heap.size := Nat.le_trans hB0 b1.size
          clear b1 hx0 hx1 hx2 hxf0 hxf1 hxf2 hxs hm0 hm1 hm2 hmf0 hmf1 hmf2 hms
          obtain ⟨hx0, hx1, hx2, hxf0, hxf1, hxf2, hxs⟩ := HX1.out.three
          obtain ⟨hm0, hm1, hm2, hmf0, hmf1, hmf2, hms⟩ := HM1.out.three
          go_wp2_with fail
          refine (rlGood_any w1 B _ p b b2' S HW1.out hB1).mono ?_
          rintro e w2 ⟨rfl, b2⟩
          rw [HOK2.out]
          have HX2 := Lib.hid (HX1.out.below b2 hxs)
          have HM2 := Lib.hid (HM1.out.below b2 hms)
          have HY2 := Lib.hid (HY1.out.below b2 (by omega))
          have HV2 := Lib.hid (HV1.out.below b2 hB1)
          have HW2 := Lib.hid (HW1.out.below b2 hB1)
          have HB2 := Lib.hid (HB1.out.trans (b2.mono HB1.out.size))
          have hz2 : w.heap.size + 3 ≤ w2.heap.size := Nat.le_trans hz1 b2.size
          have hB2 : B ≤ w2.heap.size := Nat.le_trans hB1 b2.size
          clear b2 hx0 hx1 hx2 hxf0 hxf1 hxf2 hxs hm0 hm1 hm2 hmf0 hmf1 hmf2 hms
          obtain ⟨hx0, hx1, hx2, hxf0, hxf1, hxf2, hxs⟩ := HX2.out.three
          obtain ⟨hm0, hm1, hm2, hmf0, hmf1, hmf2, hms⟩ := HM2.out.three
          obtain ⟨hy0, hy1, hy2, hyf0, hyf1, hyf2, hys⟩ := HY2.out.three
          go_wp2
          refine bodyPost_ret (v := .tuple #[.agg #[.int .i64 0, .int .i64 0, .slice none 0 0], .bool false]) (by simp [results, Tryd.results5, go_sem, hy0, hy1, hy2]) rfl ?_
          rw [HOX.out, (cmp_no HOX.out).1, (cmp_no HOX.out).2.1, (cmp_no HOX.out).2.2]
          exact ⟨_, rfl, (by refine Below.trans HB2.out ?_; repeat' (first | exact Below.refl _ _ | apply Below.drew | apply Below.setCell | apply Below.alloc | (simp; done) | omega | (simp; omega))), ⟨none, 0, rfl, Nat.le_refl 0, Or.inl rfl⟩, by simp [szG, tot]⟩
        | true =>
          have HSD := Lib.hid hsd
          have HOX := Lib.hid (show cmpOk p a b R b b2' S = true by simp [cmpOk, hsd, HOK.out, HOK2.out])
          have hle : a + b2' ≤ 24 := by
            unfold sidesB at hsd
            simp at hsd
            omega
          have HSZ := Lib.hid (rref_sz HF.out hle (cmpO_mat (la := a) (m := b) (rb := b2') HF.out HRM.out HS2.out))
          have HEQ := Lib.hid (cmp_eq (la := a) (m := b) (rb := b2') HF.out HRM.out HS2.out)
          have hgt : ¬ (24 : Int) < (a : Int) + (b2' : Int) := by omega
          have hw1 : IntKind.i64.wrap ((a : Int) + (b2' : Int)) = (a : Int) + (b2' : Int) := Go.IntWalk.i64_in _ ⟨by omega, by omega⟩
          clear hsd
          have HVB := Lib.hid (show Below w.heap.size w (((w.alloc (.cells #[.int .i64 a, .int .i64 b, .slice A1 R.length c1] tRl)).alloc (.cells #[.int .i64 b, .int .i64 b2', .slice A2 S.length c2] tRl)).alloc (.cells #[.int .i64 0, .int .i64 0, .slice none 0 0] tRl)) by repeat' (first | exact Below.refl _ _ | apply Below.alloc | (simp; done) | (simp; omega)))
          have HV := Lib.hid (ha.below HVB.out hB)
          have HW := Lib.hid (hb.below HVB.out hB)
          have hB0 : B ≤ (((w.alloc (.cells #[.int .i64 a, .int .i64 b, .slice A1 R.length c1] tRl)).alloc (.cells #[.int .i64 b, .int .i64 b2', .slice A2 S.length c2] tRl)).alloc (.cells #[.int .i64 0, .int .i64 0, .slice none 0 0] tRl)).heap.size := Nat.le_trans hB HVB.out.size
          have HX0 := Lib.hid (((cellsAt_new w #[.int .i64 a, .int .i64 b, .slice A1 R.length c1] tRl).alloc (.cells #[.int .i64 b, .int .i64 b2', .slice A2 S.length c2] tRl)).alloc (.cells #[.int .i64 0, .int .i64 0, .slice none 0 0] tRl))
          have HM0 := Lib.hid ((cellsAt_new' (w.alloc (.cells #[.int .i64 a, .int .i64 b, .slice A1 R.length c1] tRl)) #[.int .i64 b, .int .i64 b2', .slice A2 S.length c2] tRl _ (w.heap.size + 1) (by simp) rfl).alloc (.cells #[.int .i64 0, .int .i64 0, .slice none 0 0] tRl))
          have HY0 := Lib.hid (cellsAt_new' ((w.alloc (.cells #[.int .i64 a, .int .i64 b, .slice A1 R.length c1] tRl)).alloc (.cells #[.int .i64 b, .int .i64 b2', .slice A2 S.length c2] tRl)) #[.int .i64 0, .int .i64 0, .slice none 0 0] tRl _ (w.heap.size + 1 + 1) (by simp) rfl)
          have hsz0 : (((w.alloc (.cells #[.int .i64 a, .int .i64 b, .slice A1 R.length c1] tRl)).alloc (.cells #[.int .i64 b, .int .i64 b2', .slice A2 S.length c2] tRl)).alloc (.cells #[.int .i64 0, .int .i64 0, .slice none 0 0] tRl)).heap.size = w.heap.size + 3 := by simp
          clear ha hb hB hbl hbl2
          go_enter Tryd.func5, Tryd.ntmps5
          go_upto_region 1 with fail
          generalize (((w.alloc (.cells #[.int .i64 a, .int .i64 b, .slice A1 R.length c1] tRl)).alloc (.cells #[.int .i64 b, .int .i64 b2', .slice A2 S.length c2] tRl)).alloc (.cells #[.int .i64 0, .int .i64 0, .slice none 0 0] tRl)) = W0 at HVB HV HW hB0 HX0 HM0 HY0 hsz0 ⊢
          have hz0 : w.heap.size + 3 ≤ W0.heap.size := by omega
          clear hsz0
          obtain ⟨hx0, hx1, hx2, hxf0, hxf1, hxf2, hxs⟩ := HX0.out.three
          obtain ⟨hm0, hm1, hm2, hmf0, hmf1, hmf2, hms⟩ := HM0.out.three
          go_wp2_with fail
          refine (rlGood_any W0 B _ p a b R HV.out hB0).mono ?_
          rintro e w1 ⟨rfl, b1⟩
          rw [HOK.out]
          have HX1 := Lib.hid (HX0.out.below b1 hxs)
          have HM1 := Lib.hid (HM0.out.below b1 hms)
          have HY1 := Lib.hid (HY0.out.below b1 (by omega))
          have HV1 := Lib.hid (HV.out.below b1 hB0)
          have HW1 := Lib.hid (HW.out.below b1 hB0)
          have HB1 := Lib.hid (HVB.out.trans (b1.mono HVB.out.size))
          have hz1 : w.heap.size + 3 ≤ w1.heap.size := Nat.le_trans hz0 b1.size
          have hB1 : B ≤ w1.heap.size := Nat.le_trans hB0 b1.size
          clear b1 hx0 hx1 hx2 hxf0 hxf1 hxf2 hxs hm0 hm1 hm2 hmf0 hmf1 hmf2 hms
          obtain ⟨hx0, hx1, hx2, hxf0, hxf1, hxf2, hxs⟩ := HX1.out.three
          obtain ⟨hm0, hm1, hm2, hmf0, hmf1, hmf2, hms⟩ := HM1.out.three
          go_wp2_with fail
          refine (rlGood_any w1 B _ p b b2' S HW1.out hB1).mono ?_
          rintro e w2 ⟨rfl, b2⟩
          rw [HOK2.out]
          have HX2 := Lib.hid (HX1.out.below b2 hxs)
          have HM2 := Lib.hid (HM1.out.below b2 hms)
          have HY2 := Lib.hid (HY1.out.below b2 (by omega))
          have HV2 := Lib.hid (HV1.out.below b2 hB1)
          have HW2 := Lib.hid (HW1.out.below b2 hB1)
          have HB2 := Lib.hid (HB1.out.trans (b2.mono HB1.out.size))
          have hz2 : w.heap.size + 3 ≤ w2.heap.size := Nat.le_trans hz1 b2.size
          have hB2 : B ≤ w2.heap.size := Nat.le_trans hB1 b2.size
          clear b2 hx0 hx1 hx2 hxf0 hxf1 hxf2 hxs hm0 hm1 hm2 hmf0 hmf1 hmf2 hms
          obtain ⟨hx0, hx1, hx2, hxf0, hxf1, hxf2, hxs⟩ := HX2.out.three
          obtain ⟨hm0, hm1, hm2, hmf0, hmf1, hmf2, hms⟩ := HM2.out.three
          go_wp2_with fail
          refine (rlCompose_any w2 B _ _ p a b b2' R S HV2.out.1 HW2.out.1 hB2 HF.out HRM.out HS2.out (by omega) (by omega) (by omega)).mono ?_
          rintro e w4 ⟨v4, rfl, b4, o4⟩
          obtain ⟨A4, c4, rfl⟩ := OwG.len o4
          have HB4 := Lib.hid b4
          have HO4 := Lib.hid (OwG.mono (T := fun q => w2.heap.size ≤ q) o4 (fun q hq _ => hq))
          have HY4 := Lib.hid (HY2.out.below HB4.out (by omega))
          clear b4 o4 hx0 hx1 hx2 hxf0 hxf1 hxf2 hxs hm0 hm1 hm2 hmf0 hmf1 hmf2 hms
          obtain ⟨hy0, hy1, hy2, hyf0, hyf1, hyf2, hys⟩ := HY4.out.three
          have HBE := Lib.hid (HB2.out.trans (HB4.out.mono HB2.out.size))
          go_wp2
          refine bodyPost_ret (v := .tuple #[.agg #[.int .i64 (a : Int), .int .i64 (b2' : Int), .slice A4 (rref p (cmpO p a b b2' R S) (a + b2')).length c4], .bool true]) (by simp [results, Tryd.results5, go_sem, hy0, hy1, hy2]) rfl ?_
          rw [HOX.out, (cmp_yes HOX.out).1, (cmp_yes HOX.out).2.1, (cmp_yes HOX.out).2.2]
          refine ⟨_, rfl, (by refine Below.trans HBE.out ?_; repeat' (first | exact Below.refl _ _ | apply Below.drew | apply Below.setCell | apply Below.alloc | (simp; done) | omega | (simp; omega))), OwGP.mono (OwG.toP (HO4.out.blocks (fun q hq _ => ?_))) (fun q hq _ => by omega), HSZ.out⟩
          repeat rw [blk_setCell_other _ _ _ _ (by dsimp only; omega)]
end Go.Proofs.YtdjgkcnhmfkjoaaDoor
