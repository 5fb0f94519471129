/- ConverseRelation: both sides. -/
import Derived.Test.YtpoghbdomknfcaaDoorCnvI
import Derived.Test.YtpoghbdomknfcaaDoorCnvS
import Derived.Test.YtpoghbdomknfcaaDoorIsRl
import Derived.Test.YtpoghbdomknfcaaDoorLawGB
namespace Go.Proofs.YtpoghbdomknfcaaDoor
set_option maxRecDepth 100000
open Go Go.RowKit Go.Deep

def cnvL (p l r : Int) (R : List (List Int)) : Int := if isRl p l r R then r else 0
def cnvG (p l r : Int) (R : List (List Int)) : Int := if isRl p l r R then l else 0
def cnvR (p l r : Int) (R : List (List Int)) : List (List Int) := if isRl p l r R then rref p (pexs l.toNat R) (r.toNat + l.toNat) else []
theorem cnv_no {p l r : Int} {R : List (List Int)} (h : isRl p l r R = false) : cnvL p l r R = 0 ∧ cnvG p l r R = 0 ∧ cnvR p l r R = [] := by simp [cnvL, cnvG, cnvR, h]
theorem cnv_yes {p : Int} {a b : Nat} {R : List (List Int)} (h : isRl p a b R = true) : cnvL p a b R = b ∧ cnvG p a b R = a ∧ cnvR p a b R = rref p (pexs a R) (b + a) := by simp [cnvL, cnvG, cnvR, h]
set_option maxRecDepth 100000 in
set_option maxHeartbeats 3200000 in
theorem impl_ConverseRelation (w : World) (B : Nat) (v : Value) (p l r : Int) (R : List (List Int)) (hbl : Bi l) (_hbr : Bi r) (ht : Tab w) (hv : LfG w B v R) (hB : B ≤ w.heap.size) (_hs : szG R ≤ 1048576) :
    Calls Tryd.prog 50 #[.int .i64 p, .agg #[.int .i64 l, .int .i64 r, v]] w (IRetRelationB w (cnvL p l r R) (cnvG p l r R) (cnvR p l r R) (isRl p l r R)) := by
  obtain ⟨A, cp, rfl⟩ := hv.len
  cases hs : isRl p l r R with
  | false =>
    have HOK := Lib.hid hs
    clear hs
    have HVB := Lib.hid (show Below w.heap.size w ((w.alloc (.cells #[.int .i64 l, .int .i64 r, .slice A R.length cp] tRl)).alloc (.cells #[.int .i64 0, .int .i64 0, .slice none 0 0] tRl)) by repeat' (first | exact Below.refl _ _ | apply Below.alloc | (simp; done) | (simp; omega)))
    have HV := Lib.hid (hv.below HVB.out hB)
    have hB0 : B ≤ ((w.alloc (.cells #[.int .i64 l, .int .i64 r, .slice A R.length cp] tRl)).alloc (.cells #[.int .i64 0, .int .i64 0, .slice none 0 0] tRl)).heap.size := Nat.le_trans hB HVB.out.size
    have HX0 := Lib.hid ((cellsAt_new w #[.int .i64 l, .int .i64 r, .slice A R.length cp] tRl).alloc (.cells #[.int .i64 0, .int .i64 0, .slice none 0 0] tRl))
    have HY0 := Lib.hid (cellsAt_new' (w.alloc (.cells #[.int .i64 l, .int .i64 r, .slice A R.length cp] tRl)) #[.int .i64 0, .int .i64 0, .slice none 0 0] tRl _ (w.heap.size + 1) (by simp) rfl)
    have hsz0 : ((w.alloc (.cells #[.int .i64 l, .int .i64 r, .slice A R.length cp] tRl)).alloc (.cells #[.int .i64 0, .int .i64 0, .slice none 0 0] tRl)).heap.size = w.heap.size + 2 := by simp
    have HT := Lib.hid (ht.below HVB.out)
    have HBL := Lib.hid hbl.2
    clear hv hB hbl ht
    go_enter Tryd.func50, Tryd.ntmps50
    go_upto_region 1 with fail
    generalize ((w.alloc (.cells #[.int .i64 l, .int .i64 r, .slice A R.length cp] tRl)).alloc (.cells #[.int .i64 0, .int .i64 0, .slice none 0 0] tRl)) = W0 at HVB HV hB0 HX0 HY0 HT hsz0 ⊢
    have hz0 : w.heap.size + 2 ≤ W0.heap.size := by omega
    clear hsz0
    obtain ⟨hx0, hx1, hx2, hxf0, hxf1, hxf2, hxs⟩ := HX0.out.three
    go_wp2_with fail
    refine (implIsRelation_any W0 B _ p l r R HT.out HV.out hB0 HBL.out).mono ?_
    rintro e w1 ⟨rfl, b1⟩
    rw [HOK.out]
    have HX1 := Lib.hid (HX0.out.below b1 hxs)
    have HY1 := Lib.hid (HY0.out.below b1 (by omega))
    have HV1 := Lib.hid (HV.out.below b1 hB0)
    have HB1 := Lib.hid (HVB.out.trans (b1.mono HVB.out.size))
    have hs1 : W0.heap.size ≤ w1.heap.size := b1.size
    have hB1 : B ≤ w1.heap.size := Nat.le_trans hB0 hs1
    clear b1 hx0 hx1 hx2 hxf0 hxf1 hxf2 hxs
    obtain ⟨hy0, hy1, hy2, hyf0, hyf1, hyf2, hys⟩ := HY1.out.three
    go_wp2
    refine bodyPost_ret (v := .tuple #[.agg #[.int .i64 0, .int .i64 0, .slice none 0 0], .bool false]) (by simp [results, Tryd.results50, go_sem, hy0, hy1, hy2]) rfl ?_
    rw [(cnv_no HOK.out).1, (cnv_no HOK.out).2.1, (cnv_no HOK.out).2.2]
    exact ⟨_, rfl, (by refine Below.trans HB1.out ?_; repeat' (first | exact Below.refl _ _ | apply Below.drew | apply Below.setCell | apply Below.alloc | (simp; done) | omega | (simp; omega))), ⟨none, 0, rfl, Nat.le_refl 0, Or.inl rfl⟩, by simp [szG, tot]⟩
  | true =>
    obtain ⟨hf, a, b, rfl, rfl, hab, hln, hred⟩ := isRl_parts hs
    have HOK := Lib.hid hs
    have HF := Lib.hid hf
    have HRM := Lib.hid hred.mat
    have HSZ := Lib.hid (rref_sz hf (show b + a ≤ 24 by omega) (pexs_mat hred.mat))
    clear hs hf hred
    have HVB := Lib.hid (show Below w.heap.size w ((w.alloc (.cells #[.int .i64 a, .int .i64 b, .slice A R.length cp] tRl)).alloc (.cells #[.int .i64 0, .int .i64 0, .slice none 0 0] tRl)) by repeat' (first | exact Below.refl _ _ | apply Below.alloc | (simp; done) | (simp; omega)))
    have HV := Lib.hid (hv.below HVB.out hB)
    have hB0 : B ≤ ((w.alloc (.cells #[.int .i64 a, .int .i64 b, .slice A R.length cp] tRl)).alloc (.cells #[.int .i64 0, .int .i64 0, .slice none 0 0] tRl)).heap.size := Nat.le_trans hB HVB.out.size
    have HX0 := Lib.hid ((cellsAt_new w #[.int .i64 a, .int .i64 b, .slice A R.length cp] tRl).alloc (.cells #[.int .i64 0, .int .i64 0, .slice none 0 0] tRl))
    have HY0 := Lib.hid (cellsAt_new' (w.alloc (.cells #[.int .i64 a, .int .i64 b, .slice A R.length cp] tRl)) #[.int .i64 0, .int .i64 0, .slice none 0 0] tRl _ (w.heap.size + 1) (by simp) rfl)
    have hsz0 : ((w.alloc (.cells #[.int .i64 a, .int .i64 b, .slice A R.length cp] tRl)).alloc (.cells #[.int .i64 0, .int .i64 0, .slice none 0 0] tRl)).heap.size = w.heap.size + 2 := by simp
    have HT := Lib.hid (ht.below HVB.out)
    have HBL := Lib.hid hbl.2
    clear hv hB hbl ht
    go_enter Tryd.func50, Tryd.ntmps50
    go_upto_region 1 with fail
    generalize ((w.alloc (.cells #[.int .i64 a, .int .i64 b, .slice A R.length cp] tRl)).alloc (.cells #[.int .i64 0, .int .i64 0, .slice none 0 0] tRl)) = W0 at HVB HV hB0 HX0 HY0 HT hsz0 ⊢
    have hz0 : w.heap.size + 2 ≤ W0.heap.size := by omega
    clear hsz0
    obtain ⟨hx0, hx1, hx2, hxf0, hxf1, hxf2, hxs⟩ := HX0.out.three
    go_wp2_with fail
    refine (implIsRelation_any W0 B _ p a b R HT.out HV.out hB0 HBL.out).mono ?_
    rintro e w1 ⟨rfl, b1⟩
    rw [HOK.out]
    have HX1 := Lib.hid (HX0.out.below b1 hxs)
    have HY1 := Lib.hid (HY0.out.below b1 (by omega))
    have HV1 := Lib.hid (HV.out.below b1 hB0)
    have HB1 := Lib.hid (HVB.out.trans (b1.mono HVB.out.size))
    have hs1 : W0.heap.size ≤ w1.heap.size := b1.size
    have hB1 : B ≤ w1.heap.size := Nat.le_trans hB0 hs1
    clear b1 hx0 hx1 hx2 hxf0 hxf1 hxf2 hxs
    obtain ⟨hx0, hx1, hx2, hxf0, hxf1, hxf2, hxs⟩ := HX1.out.three
    have hx := HX1.out.three
    have HELD : Hid (∀ w' : World, w'.heap[w.heap.size]? = w1.heap[w.heap.size]? → w'.cell? ⟨w.heap.size, 0, none⟩ = some (.int .i64 a) ∧ w'.cell? ⟨w.heap.size, 1, none⟩ = some (.int .i64 b) ∧ w'.cell? ⟨w.heap.size, 2, none⟩ = some (.slice A R.length cp)) := Lib.hid (fun w' H => ⟨(World.cell?_of_block (w := w1) H).trans hx.1, (World.cell?_of_block (w := w1) H).trans hx.2.1, (World.cell?_of_block (w := w1) H).trans hx.2.2.1⟩)
    have HQ0 : Hid (w1.drew.heap[w.heap.size]? = w1.heap[w.heap.size]?) := Lib.hid rfl
    have HVD := Lib.hid (show RdG w1.drew B (.slice A R.length cp) R from HV1.out.1)
    have hBD : B ≤ w1.drew.heap.size := hB1
    have HL := Lib.hid (fun j (hj : j < R.length) => (show a ≤ (R.getD j []).length ∧ (R.getD j []).length ≤ 1000 by have := (HRM.out.row hj).1; omega))
    clear hx
    go_wp2
    clear hx0 hx1 hx2 hxf0 hxf1 hxf2 hxs
    go_region_held3 (fun w' => w'.cell? ⟨w.heap.size, 0, none⟩ = some (.int .i64 a) ∧ w'.cell? ⟨w.heap.size, 1, none⟩ = some (.int .i64 b) ∧ w'.cell? ⟨w.heap.size, 2, none⟩ = some (.slice A R.length cp))
      (first | with_reducible exact HELD.out _ HQ0.out | with_reducible exact HELD.out _ HQ3.out | with_reducible exact HELD.out _ HQ4.out | exact HELD.out _ (((blk_setCell_other _ _ _ _ (by dsimp only; omega)).trans ((blk_setCell_other _ _ _ _ (by dsimp only; omega)).trans (blk_setCell_other _ _ _ _ (by dsimp only; omega)))).trans HQ4.out))
      (first
        | (go_at_call 77; go_split_ands; refine (mapExch_any w1.drew B _ A R.length cp a b R HVD.out hBD (by omega) HL.out).mono ?_; rintro e w3 ⟨v3, rfl, b3, o3⟩; have HB3 : Hid (Below w1.heap.size w1 w3) := Lib.hid ((Below.refl _ _).drew.trans b3); have HQ3 : Hid (w3.heap[w.heap.size]? = w1.heap[w.heap.size]?) := Lib.hid (HB3.out.block _ (by omega)); have HO3 := Lib.hid o3; have hs3 : w1.heap.size ≤ w3.heap.size := HB3.out.size; clear b3 o3)
        | (go_at_call 95; go_split_ands; refine (relationOf_any w3 w3.heap.size _ p R.length b a (pexs a R) HO3.out (Nat.le_refl _) HF.out (pexs_mat HRM.out) (by omega) (by omega)).mono ?_; rintro e w4 ⟨v4, rfl, b4, o4⟩; obtain ⟨A4, c4, rfl⟩ := OwG.len o4; have HB4 : Hid (Below w1.heap.size w1 w4) := Lib.hid (HB3.out.trans (b4.mono hs3)); have HQ4 : Hid (w4.heap[w.heap.size]? = w1.heap[w.heap.size]?) := Lib.hid (HB4.out.block _ (by omega)); have HO4 := Lib.hid (OwG.mono (T := fun q => w1.heap.size ≤ q) o4 (fun q hq _ => Nat.le_trans hs3 hq)); have HY4 := Lib.hid (HY1.out.below HB4.out (by omega)); obtain ⟨hy0, hy1, hy2, hyf0, hyf1, hyf2, hys⟩ := HY4.out.three; clear b4 o4))
    have HBE := Lib.hid (HB1.out.trans (HB4.out.mono HB1.out.size))
    go_wp2
    refine bodyPost_ret (v := .tuple #[.agg #[.int .i64 b, .int .i64 a, .slice A4 (rref p (pexs a R) (b + a)).length c4], .bool true]) (by simp [results, Tryd.results50, go_sem, hy0, hy1, hy2]) rfl ?_
    rw [(cnv_yes HOK.out).1, (cnv_yes HOK.out).2.1, (cnv_yes HOK.out).2.2]
    refine ⟨_, rfl, (by refine Below.trans HBE.out ?_; repeat' (first | exact Below.refl _ _ | apply Below.drew | apply Below.setCell | apply Below.alloc | (simp; done) | omega | (simp; omega))), (HO4.out.blocks (fun q hq _ => ?_)).mono (fun q hq _ => by omega), HSZ.out⟩
    repeat rw [blk_setCell_other _ _ _ _ (by dsimp only; omega)]
set_option maxRecDepth 100000 in
set_option maxHeartbeats 3200000 in
theorem spec_ConverseRelation (w : World) (B : Nat) (v : Value) (p l r : Int) (R : List (List Int)) (hbl : Bi l) (_hbr : Bi r) (hv : LfG w B v R) (hB : B ≤ w.heap.size) (_hs : szG R ≤ 1048576) :
    Calls Tryd.prog 49 #[.int .i64 p, .agg #[.int .i64 l, .int .i64 r, v]] w (SRetRelationB w (cnvL p l r R) (cnvG p l r R) (cnvR p l r R) (isRl p l r R)) := by
  obtain ⟨A, cp, rfl⟩ := hv.len
  cases hs : isRl p l r R with
  | false =>
    have HOK := Lib.hid hs
    clear hs
    have HVB := Lib.hid (show Below w.heap.size w ((w.alloc (.cells #[.int .i64 l, .int .i64 r, .slice A R.length cp] tRl)).alloc (.cells #[.int .i64 0, .int .i64 0, .slice none 0 0] tRl)) by repeat' (first | exact Below.refl _ _ | apply Below.alloc | (simp; done) | (simp; omega)))
    have HV := Lib.hid (hv.below HVB.out hB)
    have hB0 : B ≤ ((w.alloc (.cells #[.int .i64 l, .int .i64 r, .slice A R.length cp] tRl)).alloc (.cells #[.int .i64 0, .int .i64 0, .slice none 0 0] tRl)).heap.size := Nat.le_trans hB HVB.out.size
    have HX0 := Lib.hid ((cellsAt_new w #[.int .i64 l, .int .i64 r, .slice A R.length cp] tRl).alloc (.cells #[.int .i64 0, .int .i64 0, .slice none 0 0] tRl))
    have HY0 := Lib.hid (cellsAt_new' (w.alloc (.cells #[.int .i64 l, .int .i64 r, .slice A R.length cp] tRl)) #[.int .i64 0, .int .i64 0, .slice none 0 0] tRl _ (w.heap.size + 1) (by simp) rfl)
    have hsz0 : ((w.alloc (.cells #[.int .i64 l, .int .i64 r, .slice A R.length cp] tRl)).alloc (.cells #[.int .i64 0, .int .i64 0, .slice none 0 0] tRl)).heap.size = w.heap.size + 2 := by simp
    clear hv hB hbl
    go_enter Tryd.func49, Tryd.ntmps49
    go_upto_region 1 with fail
    generalize ((w.alloc (.cells #[.int .i64 l, .int .i64 r, .slice A R.length cp] tRl)).alloc (.cells #[.int .i64 0, .int .i64 0, .slice none 0 0] tRl)) = W0 at HVB HV hB0 HX0 HY0 hsz0 ⊢
    have hz0 : w.heap.size + 2 ≤ W0.heap.size := by omega
    clear hsz0
    obtain ⟨hx0, hx1, hx2, hxf0, hxf1, hxf2, hxs⟩ := HX0.out.three
    go_wp2_with fail
    refine (rlGood_any W0 B _ p l r R HV.out hB0).mono ?_
    rintro e w1 ⟨rfl, b1⟩
    rw [HOK.out]
    have HX1 := Lib.hid (HX0.out.below b1 hxs)
    have HY1 := Lib.hid (HY0.out.below b1 (by omega))
    have HV1 := Lib.hid (HV.out.below b1 hB0)
    have HB1 := Lib.hid (HVB.out.trans (b1.mono HVB.out.size))
    have hs1 : W0.heap.size ≤ w1.heap.size := b1.size
    have hB1 : B ≤ w1.heap.size := Nat.le_trans hB0 hs1
    clear b1 hx0 hx1 hx2 hxf0 hxf1 hxf2 hxs
    obtain ⟨hy0, hy1, hy2, hyf0, hyf1, hyf2, hys⟩ := HY1.out.three
    go_wp2
    refine bodyPost_ret (v := .tuple #[.agg #[.int .i64 0, .int .i64 0, .slice none 0 0], .bool false]) (by simp [results, Tryd.results49, go_sem, hy0, hy1, hy2]) rfl ?_
    rw [(cnv_no HOK.out).1, (cnv_no HOK.out).2.1, (cnv_no HOK.out).2.2]
    exact ⟨_, rfl, (by refine Below.trans HB1.out ?_; repeat' (first | exact Below.refl _ _ | apply Below.drew | apply Below.setCell | apply Below.alloc | (simp; done) | omega | (simp; omega))), ⟨none, 0, rfl, Nat.le_refl 0, Or.inl rfl⟩, by simp [szG, tot]⟩
  | true =>
    obtain ⟨hf, a, b, rfl, rfl, hab, hln, hred⟩ := isRl_parts hs
    have HOK := Lib.hid hs
    have HF := Lib.hid hf
    have HRM := Lib.hid hred.mat
    have HSZ := Lib.hid (rref_sz hf (show b + a ≤ 24 by omega) (pexs_mat hred.mat))
    clear hs hf hred
    have HVB := Lib.hid (show Below w.heap.size w ((w.alloc (.cells #[.int .i64 a, .int .i64 b, .slice A R.length cp] tRl)).alloc (.cells #[.int .i64 0, .int .i64 0, .slice none 0 0] tRl)) by repeat' (first | exact Below.refl _ _ | apply Below.alloc | (simp; done) | (simp; omega)))
    have HV := Lib.hid (hv.below HVB.out hB)
    have hB0 : B ≤ ((w.alloc (.cells #[.int .i64 a, .int .i64 b, .slice A R.length cp] tRl)).alloc (.cells #[.int .i64 0, .int .i64 0, .slice none 0 0] tRl)).heap.size := Nat.le_trans hB HVB.out.size
    have HX0 := Lib.hid ((cellsAt_new w #[.int .i64 a, .int .i64 b, .slice A R.length cp] tRl).alloc (.cells #[.int .i64 0, .int .i64 0, .slice none 0 0] tRl))
    have HY0 := Lib.hid (cellsAt_new' (w.alloc (.cells #[.int .i64 a, .int .i64 b, .slice A R.length cp] tRl)) #[.int .i64 0, .int .i64 0, .slice none 0 0] tRl _ (w.heap.size + 1) (by simp) rfl)
    have hsz0 : ((w.alloc (.cells #[.int .i64 a, .int .i64 b, .slice A R.length cp] tRl)).alloc (.cells #[.int .i64 0, .int .i64 0, .slice none 0 0] tRl)).heap.size = w.heap.size + 2 := by simp
    clear hv hB hbl
    go_enter Tryd.func49, Tryd.ntmps49
    go_upto_region 1 with fail
    generalize ((w.alloc (.cells #[.int .i64 a, .int .i64 b, .slice A R.length cp] tRl)).alloc (.cells #[.int .i64 0, .int .i64 0, .slice none 0 0] tRl)) = W0 at HVB HV hB0 HX0 HY0 hsz0 ⊢
    have hz0 : w.heap.size + 2 ≤ W0.heap.size := by omega
    clear hsz0
    obtain ⟨hx0, hx1, hx2, hxf0, hxf1, hxf2, hxs⟩ := HX0.out.three
    go_wp2_with fail
    refine (rlGood_any W0 B _ p a b R HV.out hB0).mono ?_
    rintro e w1 ⟨rfl, b1⟩
    rw [HOK.out]
    have HX1 := Lib.hid (HX0.out.below b1 hxs)
    have HY1 := Lib.hid (HY0.out.below b1 (by omega))
    have HV1 := Lib.hid (HV.out.below b1 hB0)
    have HB1 := Lib.hid (HVB.out.trans (b1.mono HVB.out.size))
    have hs1 : W0.heap.size ≤ w1.heap.size := b1.size
    have hB1 : B ≤ w1.heap.size := Nat.le_trans hB0 hs1
    clear b1 hx0 hx1 hx2 hxf0 hxf1 hxf2 hxs
    obtain ⟨hx0, hx1, hx2, hxf0, hxf1, hxf2, hxs⟩ := HX1.out.three
    go_wp2_with fail
    refine (rlConverse_any w1 B _ p a b R HV1.out.1 hB1 HF.out HRM.out (by omega) (by omega)).mono ?_
    rintro e w4 ⟨v4, rfl, b4, o4⟩
    obtain ⟨A4, c4, rfl⟩ := OwG.len o4
    have HB4 := Lib.hid b4
    have HO4 := Lib.hid (OwG.mono (T := fun q => w1.heap.size ≤ q) o4 (fun q hq _ => hq))
    have HY4 := Lib.hid (HY1.out.below HB4.out (by omega))
    clear b4 o4 hx0 hx1 hx2 hxf0 hxf1 hxf2 hxs
    obtain ⟨hy0, hy1, hy2, hyf0, hyf1, hyf2, hys⟩ := HY4.out.three
    have HBE := Lib.hid (HB1.out.trans (HB4.out.mono HB1.out.size))
    go_wp2
    refine bodyPost_ret (v := .tuple #[.agg #[.int .i64 b, .int .i64 a, .slice A4 (rref p (pexs a R) (b + a)).length c4], .bool true]) (by simp [results, Tryd.results49, go_sem, hy0, hy1, hy2]) rfl ?_
    rw [(cnv_yes HOK.out).1, (cnv_yes HOK.out).2.1, (cnv_yes HOK.out).2.2]
    refine ⟨_, rfl, (by refine Below.trans HBE.out ?_; repeat' (first | exact Below.refl _ _ | apply Below.drew | apply Below.setCell | apply Below.alloc | (simp; done) | omega | (simp; omega))), (HO4.out.blocks (fun q hq _ => ?_)).mono (fun q hq _ => by omega), HSZ.out⟩
    repeat rw [blk_setCell_other _ _ _ _ (by dsimp only; omega)]
end Go.Proofs.YtpoghbdomknfcaaDoor
