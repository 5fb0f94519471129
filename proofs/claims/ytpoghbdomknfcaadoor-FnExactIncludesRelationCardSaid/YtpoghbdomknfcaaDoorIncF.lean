/- IncludesRelation: both sides. -/
import Derived.Test.YtpoghbdomknfcaaDoorInc
import Derived.Test.YtpoghbdomknfcaaDoorLawGB
import Derived.Test.YtpoghbdomknfcaaDoorRetBB
namespace Go.Proofs.YtpoghbdomknfcaaDoor
set_option maxRecDepth 100000
open Go Go.RowKit Go.Deep

def incOk (p l r : Int) (R : List (List Int)) (l2 r2 : Int) (S : List (List Int)) : Bool := isRl p l r R && isRl p l2 r2 S && decide (l = l2) && decide (r = r2)
def incV (p l r : Int) (R : List (List Int)) (l2 r2 : Int) (S : List (List Int)) : Bool := incOk p l r R l2 r2 S && !(S.any fun x => !hasV p (l + r).toNat R x)
theorem inc_a {p l r : Int} {R : List (List Int)} {l2 r2 : Int} {S : List (List Int)} (h : isRl p l r R = false) : incV p l r R l2 r2 S = false ∧ incOk p l r R l2 r2 S = false := by simp [incOk, incV, h]
theorem inc_b {p l r : Int} {R : List (List Int)} {l2 r2 : Int} {S : List (List Int)} (h : isRl p l2 r2 S = false) : incV p l r R l2 r2 S = false ∧ incOk p l r R l2 r2 S = false := by simp [incOk, incV, h]
theorem inc_l {p l r : Int} {R : List (List Int)} {l2 r2 : Int} {S : List (List Int)} (h : ¬ l = l2) : incV p l r R l2 r2 S = false ∧ incOk p l r R l2 r2 S = false := by simp [incOk, incV, h]
theorem inc_r {p l r : Int} {R : List (List Int)} {l2 r2 : Int} {S : List (List Int)} (h : ¬ r = r2) : incV p l r R l2 r2 S = false ∧ incOk p l r R l2 r2 S = false := by simp [incOk, incV, h]
theorem inc_ok {p : Int} {a b : Nat} {R S : List (List Int)} (h1 : isRl p a b R = true) (h2 : isRl p a b S = true) : incV p a b R a b S = (!(S.any fun x => !hasV p (a + b) R x)) ∧ incOk p a b R a b S = true := by
  have e : ((a : Int) + (b : Int)).toNat = a + b := by omega
  simp [incOk, incV, h1, h2, e]
set_option maxHeartbeats 3200000 in
theorem impl_IncludesRelation (w : World) (B : Nat) (va vb : Value) (p l r : Int) (l2 r2 : Int) (R S : List (List Int)) (hbl : Bi l) (_hbr : Bi r) (hbl2 : Bi l2) (_hbr2 : Bi r2) (ht : Tab w) (ha : LfG w B va R) (hb : LfG w B vb S) (hB : B ≤ w.heap.size) (_hsa : szG R ≤ 1048576) (_hsb : szG S ≤ 1048576) :
    Calls Tryd.prog 46 #[.int .i64 p, .agg #[.int .i64 l, .int .i64 r, va], .agg #[.int .i64 l2, .int .i64 r2, vb]] w (IRetBB w (incV p l r R l2 r2 S) (incOk p l r R l2 r2 S)) := by
  obtain ⟨A1, c1, rfl⟩ := ha.len
  obtain ⟨A2, c2, rfl⟩ := hb.len
  cases hs : isRl p l r R with
  | false =>
    have HOK := Lib.hid hs
    have HOX := Lib.hid (inc_a (l2 := l2) (r2 := r2) (S := S) hs)
    clear hs
    have HVB := Lib.hid (show Below w.heap.size w (((w.alloc (.cells #[.int .i64 p] 3)).alloc (.cells #[.int .i64 l, .int .i64 r, .slice A1 R.length c1] tRl)).alloc (.cells #[.int .i64 l2, .int .i64 r2, .slice A2 S.length c2] tRl)) by repeat' (first | exact Below.refl _ _ | apply Below.alloc | (simp; done) | (simp; omega)))
    have HV := Lib.hid (ha.below HVB.out hB)
    have HW := Lib.hid (hb.below HVB.out hB)
    have hB0 : B ≤ (((w.alloc (.cells #[.int .i64 p] 3)).alloc (.cells #[.int .i64 l, .int .i64 r, .slice A1 R.length c1] tRl)).alloc (.cells #[.int .i64 l2, .int .i64 r2, .slice A2 S.length c2] tRl)).heap.size := Nat.le_trans hB HVB.out.size
    have HP0 := Lib.hid (((cellsAt_new w #[.int .i64 p] 3).alloc (.cells #[.int .i64 l, .int .i64 r, .slice A1 R.length c1] tRl)).alloc (.cells #[.int .i64 l2, .int .i64 r2, .slice A2 S.length c2] tRl))
    have HA0 := Lib.hid ((cellsAt_new' (w.alloc (.cells #[.int .i64 p] 3)) #[.int .i64 l, .int .i64 r, .slice A1 R.length c1] tRl _ (w.heap.size + 1) (by simp) rfl).alloc (.cells #[.int .i64 l2, .int .i64 r2, .slice A2 S.length c2] tRl))
    have HB0 := Lib.hid (cellsAt_new' ((w.alloc (.cells #[.int .i64 p] 3)).alloc (.cells #[.int .i64 l, .int .i64 r, .slice A1 R.length c1] tRl)) #[.int .i64 l2, .int .i64 r2, .slice A2 S.length c2] tRl _ (w.heap.size + 1 + 1) (by simp) rfl)
    have hsz0 : (((w.alloc (.cells #[.int .i64 p] 3)).alloc (.cells #[.int .i64 l, .int .i64 r, .slice A1 R.length c1] tRl)).alloc (.cells #[.int .i64 l2, .int .i64 r2, .slice A2 S.length c2] tRl)).heap.size = w.heap.size + 3 := by simp
    have HT := Lib.hid (ht.below HVB.out)
    have HBL := Lib.hid hbl.2
    have HBL2 := Lib.hid hbl2.2
    clear ha hb hB hbl hbl2 ht
    go_enter Tryd.func46, Tryd.ntmps46
    go_upto_region 1 with fail
    generalize (((w.alloc (.cells #[.int .i64 p] 3)).alloc (.cells #[.int .i64 l, .int .i64 r, .slice A1 R.length c1] tRl)).alloc (.cells #[.int .i64 l2, .int .i64 r2, .slice A2 S.length c2] tRl)) = W0 at HVB HV HW hB0 HP0 HA0 HB0 HT hsz0 ⊢
    have hz0 : w.heap.size + 3 ≤ W0.heap.size := by omega
    clear hsz0
    obtain ⟨ha0, ha1, ha2, haf0, haf1, haf2, has⟩ := HA0.out.three
    obtain ⟨hb0, hb1, hb2, hbf0, hbf1, hbf2, hbs⟩ := HB0.out.three
    have hp0 : W0.cell? ⟨w.heap.size, 0, none⟩ = some (.int .i64 p) := HP0.out.cell (i := 0) (by simp)
    go_wp2_with fail
    refine (implIsRelation_any W0 B _ p l r R HT.out HV.out hB0 HBL.out).mono ?_
    rintro e w1 ⟨rfl, b1⟩
    rw [HOK.out]
    have HP1 := Lib.hid (HP0.out.below b1 (by omega))
    have HA1 := Lib.hid (HA0.out.below b1 has)
    have HB1' := Lib.hid (HB0.out.below b1 hbs)
    have HV1 := Lib.hid (HV.out.below b1 hB0)
    have HW1 := Lib.hid (HW.out.below b1 hB0)
    have HT1 := Lib.hid (HT.out.below b1)
    have HB1 := Lib.hid (HVB.out.trans (b1.mono HVB.out.size))
    have hs1 : w.heap.size + 3 ≤ w1.heap.size := Nat.le_trans hz0 b1.size
    have hB1 : B ≤ w1.heap.size := Nat.le_trans hB0 b1.size
    clear b1 ha0 ha1 ha2 haf0 haf1 haf2 has hb0 hb1 hb2 hbf0 hbf1 hbf2 hbs hp0
    go_wp2
    go_ret2
    rw [HOX.out.1, HOX.out.2]
    exact ⟨rfl, HB1.out⟩
  | true =>
    obtain ⟨hf, a, b, rfl, rfl, hab, hln, hred⟩ := isRl_parts hs
    have HOK := Lib.hid hs
    have HF := Lib.hid hf
    have HRD := Lib.hid hred
    clear hs hf hred
    cases hs2 : isRl p l2 r2 S with
    | false =>
      have HOK2 := Lib.hid hs2
      have HOX := Lib.hid (inc_b (l := a) (r := b) (R := R) hs2)
      clear hs2
      have HVB := Lib.hid (show Below w.heap.size w (((w.alloc (.cells #[.int .i64 p] 3)).alloc (.cells #[.int .i64 a, .int .i64 b, .slice A1 R.length c1] tRl)).alloc (.cells #[.int .i64 l2, .int .i64 r2, .slice A2 S.length c2] tRl)) by repeat' (first | exact Below.refl _ _ | apply Below.alloc | (simp; done) | (simp; omega)))
      have HV := Lib.hid (ha.below HVB.out hB)
      have HW := Lib.hid (hb.below HVB.out hB)
      have hB0 : B ≤ (((w.alloc (.cells #[.int .i64 p] 3)).alloc (.cells #[.int .i64 a, .int .i64 b, .slice A1 R.length c1] tRl)).alloc (.cells #[.int .i64 l2, .int .i64 r2, .slice A2 S.length c2] tRl)).heap.size := Nat.le_trans hB HVB.out.size
      have HP0 := Lib.hid (((cellsAt_new w #[.int .i64 p] 3).alloc (.cells #[.int .i64 a, .int .i64 b, .slice A1 R.length c1] tRl)).alloc (.cells #[.int .i64 l2, .int .i64 r2, .slice A2 S.length c2] tRl))
      have HA0 := Lib.hid ((cellsAt_new' (w.alloc (.cells #[.int .i64 p] 3)) #[.int .i64 a, .int .i64 b, .slice A1 R.length c1] tRl _ (w.heap.size + 1) (by simp) rfl).alloc (.cells #[.int .i64 l2, .int .i64 r2, .slice A2 S.length c2] tRl))
      have HB0 := Lib.hid (cellsAt_new' ((w.alloc (.cells #[.int .i64 p] 3)).alloc (.cells #[.int .i64 a, .int .i64 b, .slice A1 R.length c1] tRl)) #[.int .i64 l2, .int .i64 r2, .slice A2 S.length c2] tRl _ (w.heap.size + 1 + 1) (by simp) rfl)
      have hsz0 : (((w.alloc (.cells #[.int .i64 p] 3)).alloc (.cells #[.int .i64 a, .int .i64 b, .slice A1 R.length c1] tRl)).alloc (.cells #[.int .i64 l2, .int .i64 r2, .slice A2 S.length c2] tRl)).heap.size = w.heap.size + 3 := by simp
      have HT := Lib.hid (ht.below HVB.out)
      have HBL := Lib.hid hbl.2
      have HBL2 := Lib.hid hbl2.2
      clear ha hb hB hbl hbl2 ht
      go_enter Tryd.func46, Tryd.ntmps46
      go_upto_region 1 with fail
      generalize (((w.alloc (.cells #[.int .i64 p] 3)).alloc (.cells #[.int .i64 a, .int .i64 b, .slice A1 R.length c1] tRl)).alloc (.cells #[.int .i64 l2, .int .i64 r2, .slice A2 S.length c2] tRl)) = W0 at HVB HV HW hB0 HP0 HA0 HB0 HT hsz0 ⊢
      have hz0 : w.heap.size + 3 ≤ W0.heap.size := by omega
      clear hsz0
      obtain ⟨ha0, ha1, ha2, haf0, haf1, haf2, has⟩ := HA0.out.three
      obtain ⟨hb0, hb1, hb2, hbf0, hbf1, hbf2, hbs⟩ := HB0.out.three
      have hp0 : W0.cell? ⟨w.heap.size, 0, none⟩ = some (.int .i64 p) := HP0.out.cell (i := 0) (by simp)
      go_wp2_with fail
      refine (implIsRelation_any W0 B _ p a b R HT.out HV.out hB0 HBL.out).mono ?_
      rintro e w1 ⟨rfl, b1⟩
      rw [HOK.out]
      have HP1 := Lib.hid (HP0.out.below b1 (by omega))
      have HA1 := Lib.hid (HA0.out.below b1 has)
      have HB1' := Lib.hid (HB0.out.below b1 hbs)
      have HV1 := Lib.hid (HV.out.below b1 hB0)
      have HW1 := Lib.hid (HW.out.below b1 hB0)
      have HT1 := Lib.hid (HT.out.below b1)
      have HB1 := Lib.hid (HVB.out.trans (b1.mono HVB.out.size))
      have hs1 : w.heap.size + 3 ≤ w1.heap.size := Nat.le_trans hz0 b1.size
      have hB1 : B ≤ w1.heap.size := Nat.le_trans hB0 b1.size
      clear b1 ha0 ha1 ha2 haf0 haf1 haf2 has hb0 hb1 hb2 hbf0 hbf1 hbf2 hbs hp0
      obtain ⟨ha0, ha1, ha2, haf0, haf1, haf2, has⟩ := HA1.out.three
      obtain ⟨hb0, hb1, hb2, hbf0, hbf1, hbf2, hbs⟩ := HB1'.out.three
      have hp0 : w1.cell? ⟨w.heap.size, 0, none⟩ = some (.int .i64 p) := HP1.out.cell (i := 0) (by simp)
      go_wp2_with fail
      refine (implIsRelation_any w1 B _ p l2 r2 S HT1.out HW1.out hB1 HBL2.out).mono ?_
      rintro e w2 ⟨rfl, b2⟩
      rw [HOK2.out]
      have HP2 := Lib.hid (HP1.out.below b2 (by omega))
      have HA2 := Lib.hid (HA1.out.below b2 has)
      have HB2' := Lib.hid (HB1'.out.below b2 hbs)
      have HV2 := Lib.hid (HV1.out.below b2 hB1)
      have HW2 := Lib.hid (HW1.out.below b2 hB1)
      have HB2 := Lib.hid (HB1.out.trans (b2.mono HB1.out.size))
      have hs2 : w.heap.size + 3 ≤ w2.heap.size := Nat.le_trans hs1 b2.size
      have hB2 : B ≤ w2.heap.size := Nat.le_trans hB1 b2.size
      clear b2 ha0 ha1 ha2 haf0 haf1 haf2 has hb0 hb1 hb2 hbf0 hbf1 hbf2 hbs hp0
      obtain ⟨ha0, ha1, ha2, haf0, haf1, haf2, has⟩ := HA2.out.three
      obtain ⟨hb0, hb1, hb2, hbf0, hbf1, hbf2, hbs⟩ := HB2'.out.three
      have hp0 : w2.cell? ⟨w.heap.size, 0, none⟩ = some (.int .i64 p) := HP2.out.cell (i := 0) (by simp)
      go_wp2
      go_ret2
      rw [HOX.out.1, HOX.out.2]
      exact ⟨rfl, HB2.out⟩
    | true =>
      obtain ⟨-, a2, b2', rfl, rfl, hab2, hln2, hred2⟩ := isRl_parts hs2
      have HOK2 := Lib.hid hs2
      have HS2 := Lib.hid hred2.mat
      clear hs2 hred2
      by_cases hl : a = a2
      · by_cases hr : b = b2'
        · subst hl
          subst hr
          have HOX := Lib.hid (inc_ok HOK.out HOK2.out)
          have HVB := Lib.hid (show Below w.heap.size w (((w.alloc (.cells #[.int .i64 p] 3)).alloc (.cells #[.int .i64 a, .int .i64 b, .slice A1 R.length c1] tRl)).alloc (.cells #[.int .i64 a, .int .i64 b, .slice A2 S.length c2] tRl)) by repeat' (first | exact Below.refl _ _ | apply Below.alloc | (simp; done) | (simp; omega)))
          have HV := Lib.hid (ha.below HVB.out hB)
          have HW := Lib.hid (hb.below HVB.out hB)
          have hB0 : B ≤ (((w.alloc (.cells #[.int .i64 p] 3)).alloc (.cells #[.int .i64 a, .int .i64 b, .slice A1 R.length c1] tRl)).alloc (.cells #[.int .i64 a, .int .i64 b, .slice A2 S.length c2] tRl)).heap.size := Nat.le_trans hB HVB.out.size
          have HP0 := Lib.hid (((cellsAt_new w #[.int .i64 p] 3).alloc (.cells #[.int .i64 a, .int .i64 b, .slice A1 R.length c1] tRl)).alloc (.cells #[.int .i64 a, .int .i64 b, .slice A2 S.length c2] tRl))
          have HA0 := Lib.hid ((cellsAt_new' (w.alloc (.cells #[.int .i64 p] 3)) #[.int .i64 a, .int .i64 b, .slice A1 R.length c1] tRl _ (w.heap.size + 1) (by simp) rfl).alloc (.cells #[.int .i64 a, .int .i64 b, .slice A2 S.length c2] tRl))
          have HB0 := Lib.hid (cellsAt_new' ((w.alloc (.cells #[.int .i64 p] 3)).alloc (.cells #[.int .i64 a, .int .i64 b, .slice A1 R.length c1] tRl)) #[.int .i64 a, .int .i64 b, .slice A2 S.length c2] tRl _ (w.heap.size + 1 + 1) (by simp) rfl)
          have hsz0 : (((w.alloc (.cells #[.int .i64 p] 3)).alloc (.cells #[.int .i64 a, .int .i64 b, .slice A1 R.length c1] tRl)).alloc (.cells #[.int .i64 a, .int .i64 b, .slice A2 S.length c2] tRl)).heap.size = w.heap.size + 3 := by simp
          have HT := Lib.hid (ht.below HVB.out)
          have HBL := Lib.hid hbl.2
          have HBL2 := Lib.hid hbl2.2
          clear ha hb hB hbl hbl2 ht
          go_enter Tryd.func46, Tryd.ntmps46
          go_upto_region 1 with fail
          generalize (((w.alloc (.cells #[.int .i64 p] 3)).alloc (.cells #[.int .i64 a, .int .i64 b, .slice A1 R.length c1] tRl)).alloc (.cells #[.int .i64 a, .int .i64 b, .slice A2 S.length c2] tRl)) = W0 at HVB HV HW hB0 HP0 HA0 HB0 HT hsz0 ⊢
          have hz0 : w.heap.size + 3 ≤ W0.heap.size := by omega
          clear hsz0
          obtain ⟨ha0, ha1, ha2, haf0, haf1, haf2, has⟩ := HA0.out.three
          obtain ⟨hb0, hb1, hb2, hbf0, hbf1, hbf2, hbs⟩ := HB0.out.three
          have hp0 : W0.cell? ⟨w.heap.size, 0, none⟩ = some (.int .i64 p) := HP0.out.cell (i := 0) (by simp)
          go_wp2_with fail
          refine (implIsRelation_any W0 B _ p a b R HT.out HV.out hB0 HBL.out).mono ?_
          rintro e w1 ⟨rfl, b1⟩
          rw [HOK.out]
          have HP1 := Lib.hid (HP0.out.below b1 (by omega))
          have HA1 := Lib.hid (HA0.out.below b1 has)
          have HB1' := Lib.hid (HB0.out.below b1 hbs)
          have HV1 := Lib.hid (HV.out.below b1 hB0)
          have HW1 := Lib.hid (HW.out.below b1 hB0)
          have HT1 := Lib.hid (HT.out.below b1)
          have HB1 := Lib.hid (HVB.out.trans (b1.mono HVB.out.size))
          have hs1 : w.heap.size + 3 ≤ w1.heap.size := Nat.le_trans hz0 b1.size
          have hB1 : B ≤ w1.heap.size := Nat.le_trans hB0 b1.size
          clear b1 ha0 ha1 ha2 haf0 haf1 haf2 has hb0 hb1 hb2 hbf0 hbf1 hbf2 hbs hp0
          obtain ⟨ha0, ha1, ha2, haf0, haf1, haf2, has⟩ := HA1.out.three
          obtain ⟨hb0, hb1, hb2, hbf0, hbf1, hbf2, hbs⟩ := HB1'.out.three
          have hp0 : w1.cell? ⟨w.heap.size, 0, none⟩ = some (.int .i64 p) := HP1.out.cell (i := 0) (by simp)
          go_wp2_with fail
          refine (implIsRelation_any w1 B _ p a b S HT1.out HW1.out hB1 HBL2.out).mono ?_
          rintro e w2 ⟨rfl, b2⟩
          rw [HOK2.out]
          have HP2 := Lib.hid (HP1.out.below b2 (by omega))
          have HA2 := Lib.hid (HA1.out.below b2 has)
          have HB2' := Lib.hid (HB1'.out.below b2 hbs)
          have HV2 := Lib.hid (HV1.out.below b2 hB1)
          have HW2 := Lib.hid (HW1.out.below b2 hB1)
          have HB2 := Lib.hid (HB1.out.trans (b2.mono HB1.out.size))
          have hs2 : w.heap.size + 3 ≤ w2.heap.size := Nat.le_trans hs1 b2.size
          have hB2 : B ≤ w2.heap.size := Nat.le_trans hB1 b2.size
          clear b2 ha0 ha1 ha2 haf0 haf1 haf2 has hb0 hb1 hb2 hbf0 hbf1 hbf2 hbs hp0
          obtain ⟨ha0, ha1, ha2, haf0, haf1, haf2, has⟩ := HA2.out.three
          obtain ⟨hb0, hb1, hb2, hbf0, hbf1, hbf2, hbs⟩ := HB2'.out.three
          have hp0 : w2.cell? ⟨w.heap.size, 0, none⟩ = some (.int .i64 p) := HP2.out.cell (i := 0) (by simp)
          have HQ := Lib.hid (fun (W : World) (u : Value) (j : Nat) (hW : Below w2.heap.size w2 W) (hj : j < S.length) (hu : RdS W (fun q => q < B) u (S.getD j [])) => outside_any W B w.heap.size (w.heap.size + 1) u A1 c1 p a b R (S.getD j []) (HP2.out.below hW (by omega)) (HA2.out.below hW (by omega)) (HV2.out.1.below hW hB2) hu (Nat.le_trans hB2 hW.size) HF.out HRD.out (HS2.out.row hj) hab)
          go_wp2_with fail
          refine (containsOut_any w2 B _ _ _ S (fun x => !hasV p (a + b) R x) HW2.out.1 hB2 (by omega) HQ.out).mono ?_
          rintro e w3 ⟨rfl, b3⟩
          have HB3 := Lib.hid (HB2.out.trans (b3.mono HB2.out.size))
          clear b3
          generalize hany : (S.any fun x => !hasV p (a + b) R x) = bb at HOX
          have HANY := Lib.hid hany
          clear hany
          go_wp2
          go_ret2
          rw [HOX.out.1, HOX.out.2]
          exact ⟨rfl, HB3.out⟩
        · subst hl
          have hq1 : ((a : Int) != (a : Int)) = false := by simp
          have hq2 : ((b : Int) != (b2' : Int)) = true := by simp; omega
          have HOX := Lib.hid (inc_r (p := p) (l := a) (R := R) (l2 := a) (S := S) (show ¬ (b : Int) = (b2' : Int) by omega))
          clear hr
          have HVB := Lib.hid (show Below w.heap.size w (((w.alloc (.cells #[.int .i64 p] 3)).alloc (.cells #[.int .i64 a, .int .i64 b, .slice A1 R.length c1] tRl)).alloc (.cells #[.int .i64 a, .int .i64 b2', .slice A2 S.length c2] tRl)) by repeat' (first | exact Below.refl _ _ | apply Below.alloc | (simp; done) | (simp; omega)))
          have HV := Lib.hid (ha.below HVB.out hB)
          have HW := Lib.hid (hb.below HVB.out hB)
          have hB0 : B ≤ (((w.alloc (.cells #[.int .i64 p] 3)).alloc (.cells #[.int .i64 a, .int .i64 b, .slice A1 R.length c1] tRl)).alloc (.cells #[.int .i64 a, .int .i64 b2', .slice A2 S.length c2] tRl)).heap.size := Nat.le_trans hB HVB.out.size
          have HP0 := Lib.hid (((cellsAt_new w #[.int .i64 p] 3).alloc (.cells #[.int .i64 a, .int .i64 b, .slice A1 R.length c1] tRl)).alloc (.cells #[.int .i64 a, .int .i64 b2', .slice A2 S.length c2] tRl))
          have HA0 := Lib.hid ((cellsAt_new' (w.alloc (.cells #[.int .i64 p] 3)) #[.int .i64 a, .int .i64 b, .slice A1 R.length c1] tRl _ (w.heap.size + 1) (by simp) rfl).alloc (.cells #[.int .i64 a, .int .i64 b2', .slice A2 S.length c2] tRl))
          have HB0 := Lib.hid (cellsAt_new' ((w.alloc (.cells #[.int .i64 p] 3)).alloc (.cells #[.int .i64 a, .int .i64 b, .slice A1 R.length c1] tRl)) #[.int .i64 a, .int .i64 b2', .slice A2 S.length c2] tRl _ (w.heap.size + 1 + 1) (by simp) rfl)
          have hsz0 : (((w.alloc (.cells #[.int .i64 p] 3)).alloc (.cells #[.int .i64 a, .int .i64 b, .slice A1 R.length c1] tRl)).alloc (.cells #[.int .i64 a, .int .i64 b2', .slice A2 S.length c2] tRl)).heap.size = w.heap.size + 3 := by simp
          have HT := Lib.hid (ht.below HVB.out)
          have HBL := Lib.hid hbl.2
          have HBL2 := Lib.hid hbl2.2
          clear ha hb hB hbl hbl2 ht
          go_enter Tryd.func46, Tryd.ntmps46
          go_upto_region 1 with fail
          generalize (((w.alloc (.cells #[.int .i64 p] 3)).alloc (.cells #[.int .i64 a, .int .i64 b, .slice A1 R.length c1] tRl)).alloc (.cells #[.int .i64 a, .int .i64 b2', .slice A2 S.length c2] tRl)) = W0 at HVB HV HW hB0 HP0 HA0 HB0 HT hsz0 ⊢
          have hz0 : w.heap.size + 3 ≤ W0.heap.size := by omega
          clear hsz0
          obtain ⟨ha0, ha1, ha2, haf0, haf1, haf2, has⟩ := HA0.out.three
          obtain ⟨hb0, hb1, hb2, hbf0, hbf1, hbf2, hbs⟩ := HB0.out.three
          have hp0 : W0.cell? ⟨w.heap.size, 0, none⟩ = some (.int .i64 p) := HP0.out.cell (i := 0) (by simp)
          go_wp2_with fail
          refine (implIsRelation_any W0 B _ p a b R HT.out HV.out hB0 HBL.out).mono ?_
          rintro e w1 ⟨rfl, b1⟩
          rw [HOK.out]
          have HP1 := Lib.hid (HP0.out.below b1 (by omega))
          have HA1 := Lib.hid (HA0.out.below b1 has)
          have HB1' := Lib.hid (HB0.out.below b1 hbs)
          have HV1 := Lib.hid (HV.out.below b1 hB0)
          have HW1 := Lib.hid (HW.out.below b1 hB0)
          have HT1 := Lib.hid (HT.out.below b1)
          have HB1 := Lib.hid (HVB.out.trans (b1.mono HVB.out.size))
          have hs1 : w.heap.size + 3 ≤ w1.heap.size := Nat.le_trans hz0 b1.size
          have hB1 : B ≤ w1.heap.size := Nat.le_trans hB0 b1.size
          clear b1 ha0 ha1 ha2 haf0 haf1 haf2 has hb0 hb1 hb2 hbf0 hbf1 hbf2 hbs hp0
          obtain ⟨ha0, ha1, ha2, haf0, haf1, haf2, has⟩ := HA1.out.three
          obtain ⟨hb0, hb1, hb2, hbf0, hbf1, hbf2, hbs⟩ := HB1'.out.three
          have hp0 : w1.cell? ⟨w.heap.size, 0, none⟩ = some (.int .i64 p) := HP1.out.cell (i := 0) (by simp)
          go_wp2_with fail
          refine (implIsRelation_any w1 B _ p a b2' S HT1.out HW1.out hB1 HBL2.out).mono ?_
          rintro e w2 ⟨rfl, b2⟩
          rw [HOK2.out]
          have HP2 := Lib.hid (HP1.out.below b2 (by omega))
          have HA2 := Lib.hid (HA1.out.below b2 has)
          have HB2' := Lib.hid (HB1'.out.below b2 hbs)
          have HV2 := Lib.hid (HV1.out.below b2 hB1)
          have HW2 := Lib.hid (HW1.out.below b2 hB1)
          have HB2 := Lib.hid (HB1.out.trans (b2.mono HB1.out.size))
          have hs2 : w.heap.size + 3 ≤ w2.heap.size := Nat.le_trans hs1 b2.size
          have hB2 : B ≤ w2.heap.size := Nat.le_trans hB1 b2.size
          clear b2 ha0 ha1 ha2 haf0 haf1 haf2 has hb0 hb1 hb2 hbf0 hbf1 hbf2 hbs hp0
          obtain ⟨ha0, ha1, ha2, haf0, haf1, haf2, has⟩ := HA2.out.three
          obtain ⟨hb0, hb1, hb2, hbf0, hbf1, hbf2, hbs⟩ := HB2'.out.three
          have hp0 : w2.cell? ⟨w.heap.size, 0, none⟩ = some (.int .i64 p) := HP2.out.cell (i := 0) (by simp)
          go_wp2
          go_ret2
          rw [HOX.out.1, HOX.out.2]
          exact ⟨rfl, HB2.out⟩
      · have hq1 : ((a : Int) != (a2 : Int)) = true := by simp; omega
        have HOX := Lib.hid (inc_l (p := p) (r := b) (R := R) (r2 := b2') (S := S) (show ¬ (a : Int) = (a2 : Int) by omega))
        have HVB := Lib.hid (show Below w.heap.size w (((w.alloc (.cells #[.int .i64 p] 3)).alloc (.cells #[.int .i64 a, .int .i64 b, .slice A1 R.length c1] tRl)).alloc (.cells #[.int .i64 a2, .int .i64 b2', .slice A2 S.length c2] tRl)) by repeat' (first | exact Below.refl _ _ | apply Below.alloc | (simp; done) | (simp; omega)))
        have HV := Lib.hid (ha.below HVB.out hB)
        have HW := Lib.hid (hb.below HVB.out hB)
        have hB0 : B ≤ (((w.alloc (.cells #[.int .i64 p] 3)).alloc (.cells #[.int .i64 a, .int .i64 b, .slice A1 R.length c1] tRl)).alloc (.cells #[.int .i64 a2, .int .i64 b2', .slice A2 S.length c2] tRl)).heap.size := Nat.le_trans hB HVB.out.size
        have HP0 := Lib.hid (((cellsAt_new w #[.int .i64 p] 3).alloc (.cells #[.int .i64 a, .int .i64 b, .slice A1 R.length c1] tRl)).alloc (.cells #[.int .i64 a2, .int .i64 b2', .slice A2 S.length c2] tRl))
        have HA0 := Lib.hid ((cellsAt_new' (w.alloc (.cells #[.int .i64 p] 3)) #[.int .i64 a, .int .i64 b, .slice A1 R.length c1] tRl _ (w.heap.size + 1) (by simp) rfl).alloc (.cells #[.int .i64 a2, .int .i64 b2', .slice A2 S.length c2] tRl))
        have HB0 := Lib.hid (cellsAt_new' ((w.alloc (.cells #[.int .i64 p] 3)).alloc (.cells #[.int .i64 a, .int .i64 b, .slice A1 R.length c1] tRl)) #[.int .i64 a2, .int .i64 b2', .slice A2 S.length c2] tRl _ (w.heap.size + 1 + 1) (by simp) rfl)
        have hsz0 : (((w.alloc (.cells #[.int .i64 p] 3)).alloc (.cells #[.int .i64 a, .int .i64 b, .slice A1 R.length c1] tRl)).alloc (.cells #[.int .i64 a2, .int .i64 b2', .slice A2 S.length c2] tRl)).heap.size = w.heap.size + 3 := by simp
        have HT := Lib.hid (ht.below HVB.out)
        have HBL := Lib.hid hbl.2
        have HBL2 := Lib.hid hbl2.2
        clear ha hb hB hbl hbl2 ht
        go_enter Tryd.func46, Tryd.ntmps46
        go_upto_region 1 with fail
        generalize (((w.alloc (.cells #[.int .i64 p] 3)).alloc (.cells #[.int .i64 a, .int .i64 b, .slice A1 R.length c1] tRl)).alloc (.cells #[.int .i64 a2, .int .i64 b2', .slice A2 S.length c2] tRl)) = W0 at HVB HV HW hB0 HP0 HA0 HB0 HT hsz0 ⊢
        have hz0 : w.heap.size + 3 ≤ W0.heap.size := by omega
        clear hsz0
        obtain ⟨ha0, ha1, ha2, haf0, haf1, haf2, has⟩ := HA0.out.three
        obtain ⟨hb0, hb1, hb2, hbf0, hbf1, hbf2, hbs⟩ := HB0.out.three
        have hp0 : W0.cell? ⟨w.heap.size, 0, none⟩ = some (.int .i64 p) := HP0.out.cell (i := 0) (by simp)
        go_wp2_with fail
        refine (implIsRelation_any W0 B _ p a b R HT.out HV.out hB0 HBL.out).mono ?_
        rintro e w1 ⟨rfl, b1⟩
        rw [HOK.out]
        have HP1 := Lib.hid (HP0.out.below b1 (by omega))
        have HA1 := Lib.hid (HA0.out.below b1 has)
        have HB1' := Lib.hid (HB0.out.below b1 hbs)
        have HV1 := Lib.hid (HV.out.below b1 hB0)
        have HW1 := Lib.hid (HW.out.below b1 hB0)
        have HT1 := Lib.hid (HT.out.below b1)
        have HB1 := Lib.hid (HVB.out.trans (b1.mono HVB.out.size))
        have hs1 : w.heap.size + 3 ≤ w1.heap.size := Nat.le_trans hz0 b1.size
        have hB1 : B ≤ w1.heap.size := Nat.le_trans hB0 b1.size
        clear b1 ha0 ha1 ha2 haf0 haf1 haf2 has hb0 hb1 hb2 hbf0 hbf1 hbf2 hbs hp0
        obtain ⟨ha0, ha1, ha2, haf0, haf1, haf2, has⟩ := HA1.out.three
        obtain ⟨hb0, hb1, hb2, hbf0, hbf1, hbf2, hbs⟩ := HB1'.out.three
        have hp0 : w1.cell? ⟨w.heap.size, 0, none⟩ = some (.int .i64 p) := HP1.out.cell (i := 0) (by simp)
        go_wp2_with fail
        refine (implIsRelation_any w1 B _ p a2 b2' S HT1.out HW1.out hB1 HBL2.out).mono ?_
        rintro e w2 ⟨rfl, b2⟩
        rw [HOK2.out]
        have HP2 := Lib.hid (HP1.out.below b2 (by omega))
        have HA2 := Lib.hid (HA1.out.below b2 has)
        have HB2' := Lib.hid (HB1'.out.below b2 hbs)
        have HV2 := Lib.hid (HV1.out.below b2 hB1)
        have HW2 := Lib.hid (HW1.out.below b2 hB1)
        have HB2 := Lib.hid (HB1.out.trans (b2.mono HB1.out.size))
        have hs2 : w.heap.size + 3 ≤ w2.heap.size := Nat.le_trans hs1 b2.size
        have hB2 : B ≤ w2.heap.size := Nat.le_trans hB1 b2.size
        clear b2 ha0 ha1 ha2 haf0 haf1 haf2 has hb0 hb1 hb2 hbf0 hbf1 hbf2 hbs hp0
        obtain ⟨ha0, ha1, ha2, haf0, haf1, haf2, has⟩ := HA2.out.three
        obtain ⟨hb0, hb1, hb2, hbf0, hbf1, hbf2, hbs⟩ := HB2'.out.three
        have hp0 : w2.cell? ⟨w.heap.size, 0, none⟩ = some (.int .i64 p) := HP2.out.cell (i := 0) (by simp)
        go_wp2
        go_ret2
        rw [HOX.out.1, HOX.out.2]
        exact ⟨rfl, HB2.out⟩
set_option maxHeartbeats 3200000 in
theorem spec_IncludesRelation (w : World) (B : Nat) (va vb : Value) (p l r : Int) (l2 r2 : Int) (R S : List (List Int)) (hbl : Bi l) (_hbr : Bi r) (hbl2 : Bi l2) (_hbr2 : Bi r2) (ha : LfG w B va R) (hb : LfG w B vb S) (hB : B ≤ w.heap.size) (_hsa : szG R ≤ 1048576) (_hsb : szG S ≤ 1048576) :
    Calls Tryd.prog 45 #[.int .i64 p, .agg #[.int .i64 l, .int .i64 r, va], .agg #[.int .i64 l2, .int .i64 r2, vb]] w (SRetBB w (incV p l r R l2 r2 S) (incOk p l r R l2 r2 S)) := by
  obtain ⟨A1, c1, rfl⟩ := ha.len
  obtain ⟨A2, c2, rfl⟩ := hb.len
  cases hs : isRl p l r R with
  | false =>
    have HOK := Lib.hid hs
    have HOX := Lib.hid (inc_a (l2 := l2) (r2 := r2) (S := S) hs)
    clear hs
    have HVB := Lib.hid (show Below w.heap.size w ((w.alloc (.cells #[.int .i64 l, .int .i64 r, .slice A1 R.length c1] tRl)).alloc (.cells #[.int .i64 l2, .int .i64 r2, .slice A2 S.length c2] tRl)) by repeat' (first | exact Below.refl _ _ | apply Below.alloc | (simp; done) | (simp; omega)))
    have HV := Lib.hid (ha.below HVB.out hB)
    have HW := Lib.hid (hb.below HVB.out hB)
    have hB0 : B ≤ ((w.alloc (.cells #[.int .i64 l, .int .i64 r, .slice A1 R.length c1] tRl)).alloc (.cells #[.int .i64 l2, .int .i64 r2, .slice A2 S.length c2] tRl)).heap.size := Nat.le_trans hB HVB.out.size
    have HA0 := Lib.hid ((cellsAt_new' w #[.int .i64 l, .int .i64 r, .slice A1 R.length c1] tRl _ (w.heap.size) (by simp) rfl).alloc (.cells #[.int .i64 l2, .int .i64 r2, .slice A2 S.length c2] tRl))
    have HB0 := Lib.hid (cellsAt_new' (w.alloc (.cells #[.int .i64 l, .int .i64 r, .slice A1 R.length c1] tRl)) #[.int .i64 l2, .int .i64 r2, .slice A2 S.length c2] tRl _ (w.heap.size + 1) (by simp) rfl)
    have hsz0 : ((w.alloc (.cells #[.int .i64 l, .int .i64 r, .slice A1 R.length c1] tRl)).alloc (.cells #[.int .i64 l2, .int .i64 r2, .slice A2 S.length c2] tRl)).heap.size = w.heap.size + 2 := by simp
    have HBL := Lib.hid hbl.2
    have HBL2 := Lib.hid hbl2.2
    clear ha hb hB hbl hbl2
    go_enter Tryd.func45, Tryd.ntmps45
    go_upto_region 1 with fail
    generalize ((w.alloc (.cells #[.int .i64 l, .int .i64 r, .slice A1 R.length c1] tRl)).alloc (.cells #[.int .i64 l2, .int .i64 r2, .slice A2 S.length c2] tRl)) = W0 at HVB HV HW hB0 HA0 HB0 hsz0 ⊢
    have hz0 : w.heap.size + 2 ≤ W0.heap.size := by omega
    clear hsz0
    obtain ⟨ha0, ha1, ha2, haf0, haf1, haf2, has⟩ := HA0.out.three
    obtain ⟨hb0, hb1, hb2, hbf0, hbf1, hbf2, hbs⟩ := HB0.out.three
    go_wp2_with fail
    refine (rlGood_any W0 B _ p l r R HV.out hB0).mono ?_
    rintro e w1 ⟨rfl, b1⟩
    rw [HOK.out]
    have HA1 := Lib.hid (HA0.out.below b1 has)
    have HB1' := Lib.hid (HB0.out.below b1 hbs)
    have HV1 := Lib.hid (HV.out.below b1 hB0)
    have HW1 := Lib.hid (HW.out.below b1 hB0)
    have HB1 := Lib.hid (HVB.out.trans (b1.mono HVB.out.size))
    have hs1 : w.heap.size + 2 ≤ w1.heap.size := Nat.le_trans hz0 b1.size
    have hB1 : B ≤ w1.heap.size := Nat.le_trans hB0 b1.size
    clear b1 ha0 ha1 ha2 haf0 haf1 haf2 has hb0 hb1 hb2 hbf0 hbf1 hbf2 hbs
    go_wp2
    go_ret2
    rw [HOX.out.1, HOX.out.2]
    exact ⟨rfl, HB1.out⟩
  | true =>
    obtain ⟨hf, a, b, rfl, rfl, hab, hln, hred⟩ := isRl_parts hs
    have HOK := Lib.hid hs
    have HF := Lib.hid hf
    have HRD := Lib.hid hred
    clear hs hf hred
    cases hs2 : isRl p l2 r2 S with
    | false =>
      have HOK2 := Lib.hid hs2
      have HOX := Lib.hid (inc_b (l := a) (r := b) (R := R) hs2)
      clear hs2
      have HVB := Lib.hid (show Below w.heap.size w ((w.alloc (.cells #[.int .i64 a, .int .i64 b, .slice A1 R.length c1] tRl)).alloc (.cells #[.int .i64 l2, .int .i64 r2, .slice A2 S.length c2] tRl)) by repeat' (first | exact Below.refl _ _ | apply Below.alloc | (simp; done) | (simp; omega)))
      have HV := Lib.hid (ha.below HVB.out hB)
      have HW := Lib.hid (hb.below HVB.out hB)
      have hB0 : B ≤ ((w.alloc (.cells #[.int .i64 a, .int .i64 b, .slice A1 R.length c1] tRl)).alloc (.cells #[.int .i64 l2, .int .i64 r2, .slice A2 S.length c2] tRl)).heap.size := Nat.le_trans hB HVB.out.size
      have HA0 := Lib.hid ((cellsAt_new' w #[.int .i64 a, .int .i64 b, .slice A1 R.length c1] tRl _ (w.heap.size) (by simp) rfl).alloc (.cells #[.int .i64 l2, .int .i64 r2, .slice A2 S.length c2] tRl))
      have HB0 := Lib.hid (cellsAt_new' (w.alloc (.cells #[.int .i64 a, .int .i64 b, .slice A1 R.length c1] tRl)) #[.int .i64 l2, .int .i64 r2, .slice A2 S.length c2] tRl _ (w.heap.size + 1) (by simp) rfl)
      have hsz0 : ((w.alloc (.cells #[.int .i64 a, .int .i64 b, .slice A1 R.length c1] tRl)).alloc (.cells #[.int .i64 l2, .int .i64 r2, .slice A2 S.length c2] tRl)).heap.size = w.heap.size + 2 := by simp
      have HBL := Lib.hid hbl.2
      have HBL2 := Lib.hid hbl2.2
      clear ha hb hB hbl hbl2
      go_enter Tryd.func45, Tryd.ntmps45
      go_upto_region 1 with fail
      generalize ((w.alloc (.cells #[.int .i64 a, .int .i64 b, .slice A1 R.length c1] tRl)).alloc (.cells #[.int .i64 l2, .int .i64 r2, .slice A2 S.length c2] tRl)) = W0 at HVB HV HW hB0 HA0 HB0 hsz0 ⊢
      have hz0 : w.heap.size + 2 ≤ W0.heap.size := by omega
      clear hsz0
      obtain ⟨ha0, ha1, ha2, haf0, haf1, haf2, has⟩ := HA0.out.three
      obtain ⟨hb0, hb1, hb2, hbf0, hbf1, hbf2, hbs⟩ := HB0.out.three
      go_wp2_with fail
      refine (rlGood_any W0 B _ p a b R HV.out hB0).mono ?_
      rintro e w1 ⟨rfl, b1⟩
      rw [HOK.out]
      have HA1 := Lib.hid (HA0.out.below b1 has)
      have HB1' := Lib.hid (HB0.out.below b1 hbs)
      have HV1 := Lib.hid (HV.out.below b1 hB0)
      have HW1 := Lib.hid (HW.out.below b1 hB0)
      have HB1 := Lib.hid (HVB.out.trans (b1.mono HVB.out.size))
      have hs1 : w.heap.size + 2 ≤ w1.heap.size := Nat.le_trans hz0 b1.size
      have hB1 : B ≤ w1.heap.size := Nat.le_trans hB0 b1.size
      clear b1 ha0 ha1 ha2 haf0 haf1 haf2 has hb0 hb1 hb2 hbf0 hbf1 hbf2 hbs
      obtain ⟨ha0, ha1, ha2, haf0, haf1, haf2, has⟩ := HA1.out.three
      obtain ⟨hb0, hb1, hb2, hbf0, hbf1, hbf2, hbs⟩ := HB1'.out.three
      go_wp2_with fail
      refine (rlGood_any w1 B _ p l2 r2 S HW1.out hB1).mono ?_
      rintro e w2 ⟨rfl, b2⟩
      rw [HOK2.out]
      have HA2 := Lib.hid (HA1.out.below b2 has)
      have HB2' := Lib.hid (HB1'.out.below b2 hbs)
      have HV2 := Lib.hid (HV1.out.below b2 hB1)
      have HW2 := Lib.hid (HW1.out.below b2 hB1)
      have HB2 := Lib.hid (HB1.out.trans (b2.mono HB1.out.size))
      have hs2 : w.heap.size + 2 ≤ w2.heap.size := Nat.le_trans hs1 b2.size
      have hB2 : B ≤ w2.heap.size := Nat.le_trans hB1 b2.size
      clear b2 ha0 ha1 ha2 haf0 haf1 haf2 has hb0 hb1 hb2 hbf0 hbf1 hbf2 hbs
      obtain ⟨ha0, ha1, ha2, haf0, haf1, haf2, has⟩ := HA2.out.three
      obtain ⟨hb0, hb1, hb2, hbf0, hbf1, hbf2, hbs⟩ := HB2'.out.three
      go_wp2
      go_ret2
      rw [HOX.out.1, HOX.out.2]
      exact ⟨rfl, HB2.out⟩
    | true =>
      obtain ⟨-, a2, b2', rfl, rfl, hab2, hln2, hred2⟩ := isRl_parts hs2
      have HOK2 := Lib.hid hs2
      have HS2 := Lib.hid hred2.mat
      clear hs2 hred2
      by_cases hl : a = a2
      · by_cases hr : b = b2'
        · subst hl
          subst hr
          have HOX := Lib.hid (inc_ok HOK.out HOK2.out)
          have HVB := Lib.hid (show Below w.heap.size w ((w.alloc (.cells #[.int .i64 a, .int .i64 b, .slice A1 R.length c1] tRl)).alloc (.cells #[.int .i64 a, .int .i64 b, .slice A2 S.length c2] tRl)) by repeat' (first | exact Below.refl _ _ | apply Below.alloc | (simp; done) | (simp; omega)))
          have HV := Lib.hid (ha.below HVB.out hB)
          have HW := Lib.hid (hb.below HVB.out hB)
          have hB0 : B ≤ ((w.alloc (.cells #[.int .i64 a, .int .i64 b, .slice A1 R.length c1] tRl)).alloc (.cells #[.int .i64 a, .int .i64 b, .slice A2 S.length c2] tRl)).heap.size := Nat.le_trans hB HVB.out.size
          have HA0 := Lib.hid ((cellsAt_new' w #[.int .i64 a, .int .i64 b, .slice A1 R.length c1] tRl _ (w.heap.size) (by simp) rfl).alloc (.cells #[.int .i64 a, .int .i64 b, .slice A2 S.length c2] tRl))
          have HB0 := Lib.hid (cellsAt_new' (w.alloc (.cells #[.int .i64 a, .int .i64 b, .slice A1 R.length c1] tRl)) #[.int .i64 a, .int .i64 b, .slice A2 S.length c2] tRl _ (w.heap.size + 1) (by simp) rfl)
          have hsz0 : ((w.alloc (.cells #[.int .i64 a, .int .i64 b, .slice A1 R.length c1] tRl)).alloc (.cells #[.int .i64 a, .int .i64 b, .slice A2 S.length c2] tRl)).heap.size = w.heap.size + 2 := by simp
          have HBL := Lib.hid hbl.2
          have HBL2 := Lib.hid hbl2.2
          clear ha hb hB hbl hbl2
          go_enter Tryd.func45, Tryd.ntmps45
          go_upto_region 1 with fail
          generalize ((w.alloc (.cells #[.int .i64 a, .int .i64 b, .slice A1 R.length c1] tRl)).alloc (.cells #[.int .i64 a, .int .i64 b, .slice A2 S.length c2] tRl)) = W0 at HVB HV HW hB0 HA0 HB0 hsz0 ⊢
          have hz0 : w.heap.size + 2 ≤ W0.heap.size := by omega
          clear hsz0
          obtain ⟨ha0, ha1, ha2, haf0, haf1, haf2, has⟩ := HA0.out.three
          obtain ⟨hb0, hb1, hb2, hbf0, hbf1, hbf2, hbs⟩ := HB0.out.three
          go_wp2_with fail
          refine (rlGood_any W0 B _ p a b R HV.out hB0).mono ?_
          rintro e w1 ⟨rfl, b1⟩
          rw [HOK.out]
          have HA1 := Lib.hid (HA0.out.below b1 has)
          have HB1' := Lib.hid (HB0.out.below b1 hbs)
          have HV1 := Lib.hid (HV.out.below b1 hB0)
          have HW1 := Lib.hid (HW.out.below b1 hB0)
          have HB1 := Lib.hid (HVB.out.trans (b1.mono HVB.out.size))
          have hs1 : w.heap.size + 2 ≤ w1.heap.size := Nat.le_trans hz0 b1.size
          have hB1 : B ≤ w1.heap.size := Nat.le_trans hB0 b1.size
          clear b1 ha0 ha1 ha2 haf0 haf1 haf2 has hb0 hb1 hb2 hbf0 hbf1 hbf2 hbs
          obtain ⟨ha0, ha1, ha2, haf0, haf1, haf2, has⟩ := HA1.out.three
          obtain ⟨hb0, hb1, hb2, hbf0, hbf1, hbf2, hbs⟩ := HB1'.out.three
          go_wp2_with fail
          refine (rlGood_any w1 B _ p a b S HW1.out hB1).mono ?_
          rintro e w2 ⟨rfl, b2⟩
          rw [HOK2.out]
          have HA2 := Lib.hid (HA1.out.below b2 has)
          have HB2' := Lib.hid (HB1'.out.below b2 hbs)
          have HV2 := Lib.hid (HV1.out.below b2 hB1)
          have HW2 := Lib.hid (HW1.out.below b2 hB1)
          have HB2 := Lib.hid (HB1.out.trans (b2.mono HB1.out.size))
          have hs2 : w.heap.size + 2 ≤ w2.heap.size := Nat.le_trans hs1 b2.size
          have hB2 : B ≤ w2.heap.size := Nat.le_trans hB1 b2.size
          clear b2 ha0 ha1 ha2 haf0 haf1 haf2 has hb0 hb1 hb2 hbf0 hbf1 hbf2 hbs
          obtain ⟨ha0, ha1, ha2, haf0, haf1, haf2, has⟩ := HA2.out.three
          obtain ⟨hb0, hb1, hb2, hbf0, hbf1, hbf2, hbs⟩ := HB2'.out.three
          go_wp2_with fail
          refine (rlIncludes_any w2 B _ _ p a b a b R S HV2.out.1 HW2.out.1 hB2 HF.out HRD.out HS2.out hab (by omega)).mono ?_
          rintro e w3 ⟨rfl, b3⟩
          have HB3 := Lib.hid (HB2.out.trans (b3.mono HB2.out.size))
          clear b3
          rw [← HOX.out.1]
          go_wp2
          go_ret2
          rw [HOX.out.2]
          exact ⟨rfl, HB3.out⟩
        · subst hl
          have hq1 : ((a : Int) != (a : Int)) = false := by simp
          have hq2 : ((b : Int) != (b2' : Int)) = true := by simp; omega
          have HOX := Lib.hid (inc_r (p := p) (l := a) (R := R) (l2 := a) (S := S) (show ¬ (b : Int) = (b2' : Int) by omega))
          clear hr
          have HVB := Lib.hid (show Below w.heap.size w ((w.alloc (.cells #[.int .i64 a, .int .i64 b, .slice A1 R.length c1] tRl)).alloc (.cells #[.int .i64 a, .int .i64 b2', .slice A2 S.length c2] tRl)) by repeat' (first | exact Below.refl _ _ | apply Below.alloc | (simp; done) | (simp; omega)))
          have HV := Lib.hid (ha.below HVB.out hB)
          have HW := Lib.hid (hb.below HVB.out hB)
          have hB0 : B ≤ ((w.alloc (.cells #[.int .i64 a, .int .i64 b, .slice A1 R.length c1] tRl)).alloc (.cells #[.int .i64 a, .int .i64 b2', .slice A2 S.length c2] tRl)).heap.size := Nat.le_trans hB HVB.out.size
          have HA0 := Lib.hid ((cellsAt_new' w #[.int .i64 a, .int .i64 b, .slice A1 R.length c1] tRl _ (w.heap.size) (by simp) rfl).alloc (.cells #[.int .i64 a, .int .i64 b2', .slice A2 S.length c2] tRl))
          have HB0 := Lib.hid (cellsAt_new' (w.alloc (.cells #[.int .i64 a, .int .i64 b, .slice A1 R.length c1] tRl)) #[.int .i64 a, .int .i64 b2', .slice A2 S.length c2] tRl _ (w.heap.size + 1) (by simp) rfl)
          have hsz0 : ((w.alloc (.cells #[.int .i64 a, .int .i64 b, .slice A1 R.length c1] tRl)).alloc (.cells #[.int .i64 a, .int .i64 b2', .slice A2 S.length c2] tRl)).heap.size = w.heap.size + 2 := by simp
          have HBL := Lib.hid hbl.2
          have HBL2 := Lib.hid hbl2.2
          clear ha hb hB hbl hbl2
          go_enter Tryd.func45, Tryd.ntmps45
          go_upto_region 1 with fail
          generalize ((w.alloc (.cells #[.int .i64 a, .int .i64 b, .slice A1 R.length c1] tRl)).alloc (.cells #[.int .i64 a, .int .i64 b2', .slice A2 S.length c2] tRl)) = W0 at HVB HV HW hB0 HA0 HB0 hsz0 ⊢
          have hz0 : w.heap.size + 2 ≤ W0.heap.size := by omega
          clear hsz0
          obtain ⟨ha0, ha1, ha2, haf0, haf1, haf2, has⟩ := HA0.out.three
          obtain ⟨hb0, hb1, hb2, hbf0, hbf1, hbf2, hbs⟩ := HB0.out.three
          go_wp2_with fail
          refine (rlGood_any W0 B _ p a b R HV.out hB0).mono ?_
          rintro e w1 ⟨rfl, b1⟩
          rw [HOK.out]
          have HA1 := Lib.hid (HA0.out.below b1 has)
          have HB1' := Lib.hid (HB0.out.below b1 hbs)
          have HV1 := Lib.hid (HV.out.below b1 hB0)
          have HW1 := Lib.hid (HW.out.below b1 hB0)
          have HB1 := Lib.hid (HVB.out.trans (b1.mono HVB.out.size))
          have hs1 : w.heap.size + 2 ≤ w1.heap.size := Nat.le_trans hz0 b1.size
          have hB1 : B ≤ w1.heap.size := Nat.le_trans hB0 b1.size
          clear b1 ha0 ha1 ha2 haf0 haf1 haf2 has hb0 hb1 hb2 hbf0 hbf1 hbf2 hbs
          obtain ⟨ha0, ha1, ha2, haf0, haf1, haf2, has⟩ := HA1.out.three
          obtain ⟨hb0, hb1, hb2, hbf0, hbf1, hbf2, hbs⟩ := HB1'.out.three
          go_wp2_with fail
          refine (rlGood_any w1 B _ p a b2' S HW1.out hB1).mono ?_
          rintro e w2 ⟨rfl, b2⟩
          rw [HOK2.out]
          have HA2 := Lib.hid (HA1.out.below b2 has)
          have HB2' := Lib.hid (HB1'.out.below b2 hbs)
          have HV2 := Lib.hid (HV1.out.below b2 hB1)
          have HW2 := Lib.hid (HW1.out.below b2 hB1)
          have HB2 := Lib.hid (HB1.out.trans (b2.mono HB1.out.size))
          have hs2 : w.heap.size + 2 ≤ w2.heap.size := Nat.le_trans hs1 b2.size
          have hB2 : B ≤ w2.heap.size := Nat.le_trans hB1 b2.size
          clear b2 ha0 ha1 ha2 haf0 haf1 haf2 has hb0 hb1 hb2 hbf0 hbf1 hbf2 hbs
          obtain ⟨ha0, ha1, ha2, haf0, haf1, haf2, has⟩ := HA2.out.three
          obtain ⟨hb0, hb1, hb2, hbf0, hbf1, hbf2, hbs⟩ := HB2'.out.three
          go_wp2
          go_ret2
          rw [HOX.out.1, HOX.out.2]
          exact ⟨rfl, HB2.out⟩
      · have hq1 : ((a : Int) != (a2 : Int)) = true := by simp; omega
        have HOX := Lib.hid (inc_l (p := p) (r := b) (R := R) (r2 := b2') (S := S) (show ¬ (a : Int) = (a2 : Int) by omega))
        have HVB := Lib.hid (show Below w.heap.size w ((w.alloc (.cells #[.int .i64 a, .int .i64 b, .slice A1 R.length c1] tRl)).alloc (.cells #[.int .i64 a2, .int .i64 b2', .slice A2 S.length c2] tRl)) by repeat' (first | exact Below.refl _ _ | apply Below.alloc | (simp; done) | (simp; omega)))
        have HV := Lib.hid (ha.below HVB.out hB)
        have HW := Lib.hid (hb.below HVB.out hB)
        have hB0 : B ≤ ((w.alloc (.cells #[.int .i64 a, .int .i64 b, .slice A1 R.length c1] tRl)).alloc (.cells #[.int .i64 a2, .int .i64 b2', .slice A2 S.length c2] tRl)).heap.size := Nat.le_trans hB HVB.out.size
        have HA0 := Lib.hid ((cellsAt_new' w #[.int .i64 a, .int .i64 b, .slice A1 R.length c1] tRl _ (w.heap.size) (by simp) rfl).alloc (.cells #[.int .i64 a2, .int .i64 b2', .slice A2 S.length c2] tRl))
        have HB0 := Lib.hid (cellsAt_new' (w.alloc (.cells #[.int .i64 a, .int .i64 b, .slice A1 R.length c1] tRl)) #[.int .i64 a2, .int .i64 b2', .slice A2 S.length c2] tRl _ (w.heap.size + 1) (by simp) rfl)
        have hsz0 : ((w.alloc (.cells #[.int .i64 a, .int .i64 b, .slice A1 R.length c1] tRl)).alloc (.cells #[.int .i64 a2, .int .i64 b2', .slice A2 S.length c2] tRl)).heap.size = w.heap.size + 2 := by simp
        have HBL := Lib.hid hbl.2
        have HBL2 := Lib.hid hbl2.2
        clear ha hb hB hbl hbl2
        go_enter Tryd.func45, Tryd.ntmps45
        go_upto_region 1 with fail
        generalize ((w.alloc (.cells #[.int .i64 a, .int .i64 b, .slice A1 R.length c1] tRl)).alloc (.cells #[.int .i64 a2, .int .i64 b2', .slice A2 S.length c2] tRl)) = W0 at HVB HV HW hB0 HA0 HB0 hsz0 ⊢
        have hz0 : w.heap.size + 2 ≤ W0.heap.size := by omega
        clear hsz0
        obtain ⟨ha0, ha1, ha2, haf0, haf1, haf2, has⟩ := HA0.out.three
        obtain ⟨hb0, hb1, hb2, hbf0, hbf1, hbf2, hbs⟩ := HB0.out.three
        go_wp2_with fail
        refine (rlGood_any W0 B _ p a b R HV.out hB0).mono ?_
        rintro e w1 ⟨rfl, b1⟩
        rw [HOK.out]
        have HA1 := Lib.hid (HA0.out.below b1 has)
        have HB1' := Lib.hid (HB0.out.below b1 hbs)
        have HV1 := Lib.hid (HV.out.below b1 hB0)
        have HW1 := Lib.hid (HW.out.below b1 hB0)
        have HB1 := Lib.hid (HVB.out.trans (b1.mono HVB.out.size))
        have hs1 : w.heap.size + 2 ≤ w1.heap.size := Nat.le_trans hz0 b1.size
        have hB1 : B ≤ w1.heap.size := Nat.le_trans hB0 b1.size
        clear b1 ha0 ha1 ha2 haf0 haf1 haf2 has hb0 hb1 hb2 hbf0 hbf1 hbf2 hbs
        obtain ⟨ha0, ha1, ha2, haf0, haf1, haf2, has⟩ := HA1.out.three
        obtain ⟨hb0, hb1, hb2, hbf0, hbf1, hbf2, hbs⟩ := HB1'.out.three
        go_wp2_with fail
        refine (rlGood_any w1 B _ p a2 b2' S HW1.out hB1).mono ?_
        rintro e w2 ⟨rfl, b2⟩
        rw [HOK2.out]
        have HA2 := Lib.hid (HA1.out.below b2 has)
        have HB2' := Lib.hid (HB1'.out.below b2 hbs)
        have HV2 := Lib.hid (HV1.out.below b2 hB1)
        have HW2 := Lib.hid (HW1.out.below b2 hB1)
        have HB2 := Lib.hid (HB1.out.trans (b2.mono HB1.out.size))
        have hs2 : w.heap.size + 2 ≤ w2.heap.size := Nat.le_trans hs1 b2.size
        have hB2 : B ≤ w2.heap.size := Nat.le_trans hB1 b2.size
        clear b2 ha0 ha1 ha2 haf0 haf1 haf2 has hb0 hb1 hb2 hbf0 hbf1 hbf2 hbs
        obtain ⟨ha0, ha1, ha2, haf0, haf1, haf2, has⟩ := HA2.out.three
        obtain ⟨hb0, hb1, hb2, hbf0, hbf1, hbf2, hbs⟩ := HB2'.out.three
        go_wp2
        go_ret2
        rw [HOX.out.1, HOX.out.2]
        exact ⟨rfl, HB2.out⟩
end Go.Proofs.YtpoghbdomknfcaaDoor
