/- MeetOf: both sides. -/
import Derived.Test.YtahlicbjbbpihaaDoorMeetI
import Derived.Test.YtahlicbjbbpihaaDoorTwoSp
import Derived.Test.YtahlicbjbbpihaaDoorRetSpaceB
namespace Go.Proofs.YtahlicbjbbpihaaDoor
set_option maxRecDepth 100000
open Go Go.RowKit Go.Deep

def meetC (p c d : Int) (R S : List (List Int)) : Int := if twoOk p c d R S then c else 0
def meetR (p c d : Int) (R S : List (List Int)) : List (List Int) := if twoOk p c d R S then meetB p R S c.toNat else []
theorem meet_no {p c d : Int} {R S : List (List Int)} (h : twoOk p c d R S = false) : meetC p c d R S = 0 ∧ meetR p c d R S = [] := by simp [meetC, meetR, h]
theorem meet_yes {p d : Int} {c : Nat} {R S : List (List Int)} (h : twoOk p c d R S = true) : meetC p c d R S = c ∧ meetR p c d R S = meetB p R S c := by simp [meetC, meetR, h]
set_option maxHeartbeats 3200000 in
theorem spec_MeetOf (w : World) (B : Nat) (v vs : Value) (p c d : Int) (R S : List (List Int)) (hv : LfG w B v R) (hm : LfG w B vs S) (hB : B ≤ w.heap.size) (_hs : szG R ≤ 1048576) (_hsm : szG S ≤ 1048576) :
    Calls Tryd.prog 22 #[.int .i64 p, .agg #[.int .i64 c, v], .agg #[.int .i64 d, vs]] w (SRetSpaceB w (meetC p c d R S) (meetR p c d R S) (twoOk p c d R S)) := by
  obtain ⟨A, cp, rfl⟩ := hv.len
  obtain ⟨As, cs, rfl⟩ := hm.len
  have HVB := Lib.hid (show Below w.heap.size w (((w.alloc (.cells #[.int .i64 c, .slice A R.length cp] tSp)).alloc (.cells #[.int .i64 d, .slice As S.length cs] tSp)).alloc (.cells #[.int .i64 0, .slice none 0 0] tSp)) by repeat' (first | exact Below.refl _ _ | apply Below.alloc | (simp; done) | (simp; omega)))
  have HV := Lib.hid (hv.below HVB.out hB)
  have HW := Lib.hid (hm.below HVB.out hB)
  have hB0 : B ≤ (((w.alloc (.cells #[.int .i64 c, .slice A R.length cp] tSp)).alloc (.cells #[.int .i64 d, .slice As S.length cs] tSp)).alloc (.cells #[.int .i64 0, .slice none 0 0] tSp)).heap.size := Nat.le_trans hB HVB.out.size
  have HX0 := Lib.hid (((cellsAt_new w #[.int .i64 c, .slice A R.length cp] tSp).alloc (.cells #[.int .i64 d, .slice As S.length cs] tSp)).alloc (.cells #[.int .i64 0, .slice none 0 0] tSp))
  have HM0 := Lib.hid ((cellsAt_new' (w.alloc (.cells #[.int .i64 c, .slice A R.length cp] tSp)) #[.int .i64 d, .slice As S.length cs] tSp _ (w.heap.size + 1) (by simp) rfl).alloc (.cells #[.int .i64 0, .slice none 0 0] tSp))
  have HY0 := Lib.hid (cellsAt_new' ((w.alloc (.cells #[.int .i64 c, .slice A R.length cp] tSp)).alloc (.cells #[.int .i64 d, .slice As S.length cs] tSp)) #[.int .i64 0, .slice none 0 0] tSp _ (w.heap.size + 2) (by simp) rfl)
  have hsz0 : (((w.alloc (.cells #[.int .i64 c, .slice A R.length cp] tSp)).alloc (.cells #[.int .i64 d, .slice As S.length cs] tSp)).alloc (.cells #[.int .i64 0, .slice none 0 0] tSp)).heap.size = w.heap.size + 3 := by simp
  clear hv hm
  cases hs : twoOk p c d R S with
  | false =>
    have HOK := Lib.hid hs
    clear hs
    go_enter Tryd.func22, Tryd.ntmps22
    go_upto_region 1 with fail
    generalize (((w.alloc (.cells #[.int .i64 c, .slice A R.length cp] tSp)).alloc (.cells #[.int .i64 d, .slice As S.length cs] tSp)).alloc (.cells #[.int .i64 0, .slice none 0 0] tSp)) = W0 at HVB HV HW hB0 HX0 HM0 HY0 hsz0 ⊢
    have hz0' : w.heap.size + 3 ≤ W0.heap.size := by omega
    clear hsz0
    obtain ⟨hx0, hx1, hxf0, hxf1, hxs⟩ := HX0.out.two
    obtain ⟨hm0, hm1, hmf0, hmf1, hms⟩ := HM0.out.two
    go_wp2_with fail
    refine (spTwo_any W0 B _ _ p c d R S HV.out HW.out hB0).mono ?_
    rintro e w1 ⟨rfl, b1⟩
    rw [HOK.out]
    have HX1 := Lib.hid (HX0.out.below b1 hxs)
    have HM1 := Lib.hid (HM0.out.below b1 hms)
    have HY1 := Lib.hid (HY0.out.below b1 (by omega))
    have HV1 := Lib.hid (HV.out.below b1 hB0)
    have HW1 := Lib.hid (HW.out.below b1 hB0)
    have HB1 := Lib.hid (HVB.out.trans (b1.mono HVB.out.size))
    have hs1 : W0.heap.size ≤ w1.heap.size := b1.size
    have hB1 : B ≤ w1.heap.size := Nat.le_trans hB0 hs1
    clear b1 hx0 hx1 hxf0 hxf1 hxs hm0 hm1 hmf0 hmf1 hms
    obtain ⟨hy0, hy1, hyf0, hyf1, hys⟩ := HY1.out.two
    go_wp2
    refine bodyPost_ret (v := .tuple #[.agg #[.int .i64 0, .slice none 0 0], .bool false]) (by simp [results, Tryd.results22, go_sem, hy0, hy1]) rfl ?_
    rw [(meet_no HOK.out).1, (meet_no HOK.out).2]
    exact ⟨_, rfl, (by refine Below.trans HB1.out ?_; repeat' (first | exact Below.refl _ _ | apply Below.drew | apply Below.setCell | apply Below.alloc | (simp; done) | omega | (simp; omega))), ⟨none, 0, rfl, Or.inl rfl⟩, by simp [szG, tot]⟩
  | true =>
    obtain ⟨hs1', hs2', rfl⟩ := twoOk_parts hs
    obtain ⟨hf, n, rfl, hn24, hln, hred, -⟩ := isSp_parts hs1'
    obtain ⟨-, n2, hn2, -, hln2, hred2, -⟩ := isSp_parts hs2'
    obtain rfl : n = n2 := by omega
    clear hn2
    have HOK := Lib.hid hs
    have HF := Lib.hid hf
    have HRM := Lib.hid hred.mat
    have HSM := Lib.hid hred2.mat
    have HRE := Lib.hid hred
    have HSE := Lib.hid hred2
    have HSZ := Lib.hid (show szG (meetB p R S n) ≤ 1099511627776 from nullB_sz hf (c := n) (nullB p R n ++ nullB p S n) hn24)
    clear hs hs1' hs2' hf hred hred2
    go_enter Tryd.func22, Tryd.ntmps22
    go_upto_region 1 with fail
    generalize (((w.alloc (.cells #[.int .i64 n, .slice A R.length cp] tSp)).alloc (.cells #[.int .i64 n, .slice As S.length cs] tSp)).alloc (.cells #[.int .i64 0, .slice none 0 0] tSp)) = W0 at HVB HV HW hB0 HX0 HM0 HY0 hsz0 ⊢
    have hz0' : w.heap.size + 3 ≤ W0.heap.size := by omega
    clear hsz0
    obtain ⟨hx0, hx1, hxf0, hxf1, hxs⟩ := HX0.out.two
    obtain ⟨hm0, hm1, hmf0, hmf1, hms⟩ := HM0.out.two
    go_wp2_with fail
    refine (spTwo_any W0 B _ _ p n n R S HV.out HW.out hB0).mono ?_
    rintro e w1 ⟨rfl, b1⟩
    rw [HOK.out]
    have HX1 := Lib.hid (HX0.out.below b1 hxs)
    have HM1 := Lib.hid (HM0.out.below b1 hms)
    have HY1 := Lib.hid (HY0.out.below b1 (by omega))
    have HV1 := Lib.hid (HV.out.below b1 hB0)
    have HW1 := Lib.hid (HW.out.below b1 hB0)
    have HB1 := Lib.hid (HVB.out.trans (b1.mono HVB.out.size))
    have hs1 : W0.heap.size ≤ w1.heap.size := b1.size
    have hB1 : B ≤ w1.heap.size := Nat.le_trans hB0 hs1
    clear b1 hx0 hx1 hxf0 hxf1 hxs hm0 hm1 hmf0 hmf1 hms
    obtain ⟨hx0, hx1, hxf0, hxf1, hxs⟩ := HX1.out.two
    obtain ⟨hm0, hm1, hmf0, hmf1, hms⟩ := HM1.out.two
    have HELD : Hid (∀ w' : World, w'.heap[w.heap.size]? = w1.heap[w.heap.size]? → w'.heap[w.heap.size + 1]? = w1.heap[w.heap.size + 1]? → w'.cell? ⟨w.heap.size, 0, none⟩ = some (.int .i64 n) ∧ w'.cell? ⟨w.heap.size, 1, none⟩ = some (.slice A R.length cp) ∧ w'.cell? ⟨w.heap.size + 1, 1, none⟩ = some (.slice As S.length cs)) := Lib.hid (fun w' H K => ⟨(World.cell?_of_block (w := w1) H).trans hx0, (World.cell?_of_block (w := w1) H).trans hx1, (World.cell?_of_block (w := w1) K).trans hm1⟩)
    have HQ0 : Hid (w1.drew.heap[w.heap.size]? = w1.heap[w.heap.size]?) := Lib.hid rfl
    have HK0 : Hid (w1.drew.heap[w.heap.size + 1]? = w1.heap[w.heap.size + 1]?) := Lib.hid rfl
    have HVD := Lib.hid (show LfG w1.drew B (.slice A R.length cp) R from HV1.out)
    have HWD := Lib.hid (show LfG w1.drew B (.slice As S.length cs) S from HW1.out)
    have hBD : B ≤ w1.drew.heap.size := hB1
    go_wp2
    clear hx0 hx1 hxf0 hxf1 hxs hm0 hm1 hmf0 hmf1 hms
    go_region_held3 (fun w' => w'.cell? ⟨w.heap.size, 0, none⟩ = some (.int .i64 n) ∧ w'.cell? ⟨w.heap.size, 1, none⟩ = some (.slice A R.length cp) ∧ w'.cell? ⟨w.heap.size + 1, 1, none⟩ = some (.slice As S.length cs))
      (first | with_reducible exact HELD.out _ HQ0.out HK0.out | with_reducible exact HELD.out _ HQ4.out HK4.out | exact HELD.out _ (((blk_setCell_other _ _ _ _ (by dsimp only; omega)).trans (blk_setCell_other _ _ _ _ (by dsimp only; omega))).trans HQ4.out) (((blk_setCell_other _ _ _ _ (by dsimp only; omega)).trans (blk_setCell_other _ _ _ _ (by dsimp only; omega))).trans HK4.out))
      (first
        | (go_at_call 66; go_split_ands; refine (spMeet_any w1.drew B _ _ p n R S HVD.out.1 HWD.out.1 hBD HF.out HRM.out HSM.out (by omega) (by omega) (by omega)).mono ?_; rintro e w4 ⟨v4, rfl, b4, o4⟩; obtain ⟨A4, c4, rfl⟩ := OwG.len o4; have HB4 : Hid (Below w1.heap.size w1 w4) := Lib.hid ((Below.refl _ _).drew.trans b4); have HQ4 : Hid (w4.heap[w.heap.size]? = w1.heap[w.heap.size]?) := Lib.hid (HB4.out.block _ (by omega)); have HK4 : Hid (w4.heap[w.heap.size + 1]? = w1.heap[w.heap.size + 1]?) := Lib.hid (HB4.out.block _ (by omega)); have HO4 := Lib.hid (OwG.mono (T := fun q => w1.heap.size ≤ q) o4 (fun q hq _ => hq)); have HY4 := Lib.hid (HY1.out.below HB4.out (by omega)); obtain ⟨hy0, hy1, hyf0, hyf1, hys⟩ := HY4.out.two; clear b4 o4))
    have HBE := Lib.hid (HB1.out.trans (HB4.out.mono HB1.out.size))
    go_wp2
    refine bodyPost_ret (v := .tuple #[.agg #[.int .i64 n, .slice A4 (meetB p R S n).length c4], .bool true]) (by simp [results, Tryd.results22, go_sem, hy0, hy1]) rfl ?_
    rw [(meet_yes HOK.out).1, (meet_yes HOK.out).2]
    refine ⟨_, rfl, (by refine Below.trans HBE.out ?_; repeat' (first | exact Below.refl _ _ | apply Below.drew | apply Below.setCell | apply Below.alloc | (simp; done) | omega | (simp; omega))), (HO4.out.blocks (fun k hk _ => ?_)).mono (fun k hk _ => by omega), HSZ.out⟩
    repeat rw [blk_setCell_other _ _ _ _ (by dsimp only; omega)]
set_option maxHeartbeats 3200000 in
theorem impl_MeetOf (w : World) (B : Nat) (v vs : Value) (p c d : Int) (R S : List (List Int)) (ht : Tab w) (hv : LfG w B v R) (hm : LfG w B vs S) (hB : B ≤ w.heap.size) (_hs : szG R ≤ 1048576) (_hsm : szG S ≤ 1048576) :
    Calls Tryd.prog 23 #[.int .i64 p, .agg #[.int .i64 c, v], .agg #[.int .i64 d, vs]] w (IRetSpaceB w (meetC p c d R S) (meetR p c d R S) (twoOk p c d R S)) := by
  obtain ⟨A, cp, rfl⟩ := hv.len
  obtain ⟨As, cs, rfl⟩ := hm.len
  have HVB := Lib.hid (show Below w.heap.size w (((w.alloc (.cells #[.int .i64 c, .slice A R.length cp] tSp)).alloc (.cells #[.int .i64 d, .slice As S.length cs] tSp)).alloc (.cells #[.int .i64 0, .slice none 0 0] tSp)) by repeat' (first | exact Below.refl _ _ | apply Below.alloc | (simp; done) | (simp; omega)))
  have HV := Lib.hid (hv.below HVB.out hB)
  have HW := Lib.hid (hm.below HVB.out hB)
  have hB0 : B ≤ (((w.alloc (.cells #[.int .i64 c, .slice A R.length cp] tSp)).alloc (.cells #[.int .i64 d, .slice As S.length cs] tSp)).alloc (.cells #[.int .i64 0, .slice none 0 0] tSp)).heap.size := Nat.le_trans hB HVB.out.size
  have HX0 := Lib.hid (((cellsAt_new w #[.int .i64 c, .slice A R.length cp] tSp).alloc (.cells #[.int .i64 d, .slice As S.length cs] tSp)).alloc (.cells #[.int .i64 0, .slice none 0 0] tSp))
  have HM0 := Lib.hid ((cellsAt_new' (w.alloc (.cells #[.int .i64 c, .slice A R.length cp] tSp)) #[.int .i64 d, .slice As S.length cs] tSp _ (w.heap.size + 1) (by simp) rfl).alloc (.cells #[.int .i64 0, .slice none 0 0] tSp))
  have HY0 := Lib.hid (cellsAt_new' ((w.alloc (.cells #[.int .i64 c, .slice A R.length cp] tSp)).alloc (.cells #[.int .i64 d, .slice As S.length cs] tSp)) #[.int .i64 0, .slice none 0 0] tSp _ (w.heap.size + 2) (by simp) rfl)
  have hsz0 : (((w.alloc (.cells #[.int .i64 c, .slice A R.length cp] tSp)).alloc (.cells #[.int .i64 d, .slice As S.length cs] tSp)).alloc (.cells #[.int .i64 0, .slice none 0 0] tSp)).heap.size = w.heap.size + 3 := by simp
  have HT := Lib.hid (ht.below HVB.out)
  clear hv hm ht
  cases hs : twoOk p c d R S with
  | false =>
    have HOK := Lib.hid hs
    clear hs
    go_enter Tryd.func23, Tryd.ntmps23
    go_upto_region 1 with fail
    generalize (((w.alloc (.cells #[.int .i64 c, .slice A R.length cp] tSp)).alloc (.cells #[.int .i64 d, .slice As S.length cs] tSp)).alloc (.cells #[.int .i64 0, .slice none 0 0] tSp)) = W0 at HVB HV HW hB0 HX0 HM0 HY0 HT hsz0 ⊢
    have hz0' : w.heap.size + 3 ≤ W0.heap.size := by omega
    clear hsz0
    obtain ⟨hx0, hx1, hxf0, hxf1, hxs⟩ := HX0.out.two
    obtain ⟨hm0, hm1, hmf0, hmf1, hms⟩ := HM0.out.two
    go_wp2_with fail
    refine (areTwo_any W0 B _ _ p c d R S HT.out HV.out HW.out hB0).mono ?_
    rintro e w1 ⟨rfl, b1⟩
    rw [HOK.out]
    have HX1 := Lib.hid (HX0.out.below b1 hxs)
    have HM1 := Lib.hid (HM0.out.below b1 hms)
    have HY1 := Lib.hid (HY0.out.below b1 (by omega))
    have HV1 := Lib.hid (HV.out.below b1 hB0)
    have HW1 := Lib.hid (HW.out.below b1 hB0)
    have HB1 := Lib.hid (HVB.out.trans (b1.mono HVB.out.size))
    have hs1 : W0.heap.size ≤ w1.heap.size := b1.size
    have hB1 : B ≤ w1.heap.size := Nat.le_trans hB0 hs1
    clear b1 hx0 hx1 hxf0 hxf1 hxs hm0 hm1 hmf0 hmf1 hms
    obtain ⟨hy0, hy1, hyf0, hyf1, hys⟩ := HY1.out.two
    go_wp2
    refine bodyPost_ret (v := .tuple #[.agg #[.int .i64 0, .slice none 0 0], .bool false]) (by simp [results, Tryd.results23, go_sem, hy0, hy1]) rfl ?_
    rw [(meet_no HOK.out).1, (meet_no HOK.out).2]
    exact ⟨_, rfl, (by refine Below.trans HB1.out ?_; repeat' (first | exact Below.refl _ _ | apply Below.drew | apply Below.setCell | apply Below.alloc | (simp; done) | omega | (simp; omega))), ⟨none, 0, rfl, Or.inl rfl⟩, by simp [szG, tot]⟩
  | true =>
    obtain ⟨hs1', hs2', rfl⟩ := twoOk_parts hs
    obtain ⟨hf, n, rfl, hn24, hln, hred, -⟩ := isSp_parts hs1'
    obtain ⟨-, n2, hn2, -, hln2, hred2, -⟩ := isSp_parts hs2'
    obtain rfl : n = n2 := by omega
    clear hn2
    have HOK := Lib.hid hs
    have HF := Lib.hid hf
    have HRM := Lib.hid hred.mat
    have HSM := Lib.hid hred2.mat
    have HRE := Lib.hid hred
    have HSE := Lib.hid hred2
    have HSZ := Lib.hid (show szG (meetB p R S n) ≤ 1099511627776 from nullB_sz hf (c := n) (nullB p R n ++ nullB p S n) hn24)
    clear hs hs1' hs2' hf hred hred2
    go_enter Tryd.func23, Tryd.ntmps23
    go_upto_region 1 with fail
    generalize (((w.alloc (.cells #[.int .i64 n, .slice A R.length cp] tSp)).alloc (.cells #[.int .i64 n, .slice As S.length cs] tSp)).alloc (.cells #[.int .i64 0, .slice none 0 0] tSp)) = W0 at HVB HV HW hB0 HX0 HM0 HY0 HT hsz0 ⊢
    have hz0' : w.heap.size + 3 ≤ W0.heap.size := by omega
    clear hsz0
    obtain ⟨hx0, hx1, hxf0, hxf1, hxs⟩ := HX0.out.two
    obtain ⟨hm0, hm1, hmf0, hmf1, hms⟩ := HM0.out.two
    go_wp2_with fail
    refine (areTwo_any W0 B _ _ p n n R S HT.out HV.out HW.out hB0).mono ?_
    rintro e w1 ⟨rfl, b1⟩
    rw [HOK.out]
    have HX1 := Lib.hid (HX0.out.below b1 hxs)
    have HM1 := Lib.hid (HM0.out.below b1 hms)
    have HY1 := Lib.hid (HY0.out.below b1 (by omega))
    have HV1 := Lib.hid (HV.out.below b1 hB0)
    have HW1 := Lib.hid (HW.out.below b1 hB0)
    have HB1 := Lib.hid (HVB.out.trans (b1.mono HVB.out.size))
    have hs1 : W0.heap.size ≤ w1.heap.size := b1.size
    have hB1 : B ≤ w1.heap.size := Nat.le_trans hB0 hs1
    clear b1 hx0 hx1 hxf0 hxf1 hxs hm0 hm1 hmf0 hmf1 hms
    obtain ⟨hx0, hx1, hxf0, hxf1, hxs⟩ := HX1.out.two
    obtain ⟨hm0, hm1, hmf0, hmf1, hms⟩ := HM1.out.two
    go_wp2_with fail
    refine (meetOf_any w1 B _ _ p n R S HV1.out.1 HW1.out.1 hB1 HF.out HRE.out HSE.out (by omega)).mono ?_
    rintro e w4 ⟨v4, rfl, b4, o4⟩
    obtain ⟨A4, c4, rfl⟩ := OwG.len o4
    have HB4 := Lib.hid b4
    have HO4 := Lib.hid (OwG.mono (T := fun q => w1.heap.size ≤ q) o4 (fun q hq _ => hq))
    have HY4 := Lib.hid (HY1.out.below HB4.out (by omega))
    clear b4 o4 hx0 hx1 hxf0 hxf1 hxs hm0 hm1 hmf0 hmf1 hms
    obtain ⟨hy0, hy1, hyf0, hyf1, hys⟩ := HY4.out.two
    have HBE := Lib.hid (HB1.out.trans (HB4.out.mono HB1.out.size))
    go_wp2
    refine bodyPost_ret (v := .tuple #[.agg #[.int .i64 n, .slice A4 (meetB p R S n).length c4], .bool true]) (by simp [results, Tryd.results23, go_sem, hy0, hy1]) rfl ?_
    rw [(meet_yes HOK.out).1, (meet_yes HOK.out).2]
    refine ⟨_, rfl, (by refine Below.trans HBE.out ?_; repeat' (first | exact Below.refl _ _ | apply Below.drew | apply Below.setCell | apply Below.alloc | (simp; done) | omega | (simp; omega))), (HO4.out.blocks (fun k hk _ => ?_)).mono (fun k hk _ => by omega), HSZ.out⟩
    repeat rw [blk_setCell_other _ _ _ _ (by dsimp only; omega)]
end Go.Proofs.YtahlicbjbbpihaaDoor
