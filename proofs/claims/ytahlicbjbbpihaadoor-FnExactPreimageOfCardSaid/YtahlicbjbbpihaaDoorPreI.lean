/- PreimageOf: the program's side. -/
import Derived.Test.YtahlicbjbbpihaaDoorPreF
import Derived.Test.YtahlicbjbbpihaaDoorMxTurn
namespace Go.Proofs.YtahlicbjbbpihaaDoor
set_option maxRecDepth 100000
open Go Go.RowKit Go.Deep

set_option maxHeartbeats 3200000 in
set_option maxRecDepth 100000 in
theorem impl_PreimageOf (w : World) (B : Nat) (v vm : Value) (p c d : Int) (R M : List (List Int)) (ht : Tab w) (hv : LfG w B v R) (hm : LfG w B vm M) (hB : B ≤ w.heap.size) (_hs : szG R ≤ 1048576) (_hsm : szG M ≤ 1048576) :
    Calls Tryd.prog 41 #[.int .i64 p, .agg #[.int .i64 c, v], .agg #[.int .i64 d, vm]] w (IRetSpaceB w (preC p c d R M) (preR p c d R M) (preOk p c d R M)) := by
  obtain ⟨i0, hi0, hz0, hz1, hz2⟩ := info_parts infoR
  obtain ⟨A, cp, rfl⟩ := hv.len
  obtain ⟨Am, cm, rfl⟩ := hm.len
  have HVB := Lib.hid (show Below w.heap.size w (((w.alloc (.cells #[.int .i64 c, .slice A R.length cp] tSp)).alloc (.cells #[.int .i64 d, .slice Am M.length cm] tM)).alloc (.cells #[.int .i64 0, .slice none 0 0] tSp)) by repeat' (first | exact Below.refl _ _ | apply Below.alloc | (simp; done) | (simp; omega)))
  have HV := Lib.hid (hv.below HVB.out hB)
  have HW := Lib.hid (hm.below HVB.out hB)
  have hB0 : B ≤ (((w.alloc (.cells #[.int .i64 c, .slice A R.length cp] tSp)).alloc (.cells #[.int .i64 d, .slice Am M.length cm] tM)).alloc (.cells #[.int .i64 0, .slice none 0 0] tSp)).heap.size := Nat.le_trans hB HVB.out.size
  have HX0 := Lib.hid (((cellsAt_new w #[.int .i64 c, .slice A R.length cp] tSp).alloc (.cells #[.int .i64 d, .slice Am M.length cm] tM)).alloc (.cells #[.int .i64 0, .slice none 0 0] tSp))
  have HM0 := Lib.hid ((cellsAt_new' (w.alloc (.cells #[.int .i64 c, .slice A R.length cp] tSp)) #[.int .i64 d, .slice Am M.length cm] tM _ (w.heap.size + 1) (by simp) rfl).alloc (.cells #[.int .i64 0, .slice none 0 0] tSp))
  have HY0 := Lib.hid (cellsAt_new' ((w.alloc (.cells #[.int .i64 c, .slice A R.length cp] tSp)).alloc (.cells #[.int .i64 d, .slice Am M.length cm] tM)) #[.int .i64 0, .slice none 0 0] tSp _ (w.heap.size + 2) (by simp) rfl)
  have hsz0 : (((w.alloc (.cells #[.int .i64 c, .slice A R.length cp] tSp)).alloc (.cells #[.int .i64 d, .slice Am M.length cm] tM)).alloc (.cells #[.int .i64 0, .slice none 0 0] tSp)).heap.size = w.heap.size + 3 := by simp
  have HT := Lib.hid (ht.below HVB.out)
  clear hv hm ht
  cases hs : isSp p c R with
  | false =>
    have HS := Lib.hid hs
    have HOK := Lib.hid (show preOk p c d R M = false by simp [preOk, hs])
    clear hs
    go_enter Tryd.func41, Tryd.ntmps41
    go_upto_region 1 with fail
    generalize (((w.alloc (.cells #[.int .i64 c, .slice A R.length cp] tSp)).alloc (.cells #[.int .i64 d, .slice Am M.length cm] tM)).alloc (.cells #[.int .i64 0, .slice none 0 0] tSp)) = W0 at HVB HV HW hB0 HX0 HM0 HY0 HT hsz0 ⊢
    have hz0' : w.heap.size + 3 ≤ W0.heap.size := by omega
    clear hsz0
    obtain ⟨hx0, hx1, hxf0, hxf1, hxs⟩ := HX0.out.two
    go_wp2_with fail
    refine (implIsSpace_any W0 B _ p c R HT.out HV.out hB0).mono ?_
    rintro e w1 ⟨rfl, b1⟩
    rw [HS.out]
    have HX1 := Lib.hid (HX0.out.below b1 hxs)
    have HM1 := Lib.hid (HM0.out.below b1 (by omega))
    have HY1 := Lib.hid (HY0.out.below b1 (by omega))
    have HV1 := Lib.hid (HV.out.below b1 hB0)
    have HW1 := Lib.hid (HW.out.below b1 hB0)
    have HT1 := Lib.hid (HT.out.below b1)
    have HB1 := Lib.hid (HVB.out.trans (b1.mono HVB.out.size))
    have hs1 : W0.heap.size ≤ w1.heap.size := b1.size
    have hB1 : B ≤ w1.heap.size := Nat.le_trans hB0 hs1
    clear b1 hx0 hx1 hxf0 hxf1 hxs
    obtain ⟨hy0, hy1, hyf0, hyf1, hys⟩ := HY1.out.two
    go_wp2
    refine bodyPost_ret (v := .tuple #[.agg #[.int .i64 0, .slice none 0 0], .bool false]) (by simp [results, Tryd.results41, go_sem, hy0, hy1]) rfl ?_
    rw [HOK.out, (pre_no HOK.out).1, (pre_no HOK.out).2]
    exact ⟨_, rfl, (by refine Below.trans HB1.out ?_; repeat' (first | exact Below.refl _ _ | apply Below.drew | apply Below.setCell | apply Below.alloc | (simp; done) | omega | (simp; omega))), ⟨none, 0, rfl, Or.inl rfl⟩, by simp [szG, tot]⟩
  | true =>
    cases hmm : isMat p d M with
    | false =>
      have HS := Lib.hid hs
      have HMM := Lib.hid hmm
      have HOK := Lib.hid (show preOk p c d R M = false by simp [preOk, hmm])
      clear hs hmm
      go_enter Tryd.func41, Tryd.ntmps41
      go_upto_region 1 with fail
      generalize (((w.alloc (.cells #[.int .i64 c, .slice A R.length cp] tSp)).alloc (.cells #[.int .i64 d, .slice Am M.length cm] tM)).alloc (.cells #[.int .i64 0, .slice none 0 0] tSp)) = W0 at HVB HV HW hB0 HX0 HM0 HY0 HT hsz0 ⊢
      have hz0' : w.heap.size + 3 ≤ W0.heap.size := by omega
      clear hsz0
      obtain ⟨hx0, hx1, hxf0, hxf1, hxs⟩ := HX0.out.two
      go_wp2_with fail
      refine (implIsSpace_any W0 B _ p c R HT.out HV.out hB0).mono ?_
      rintro e w1 ⟨rfl, b1⟩
      rw [HS.out]
      have HX1 := Lib.hid (HX0.out.below b1 hxs)
      have HM1 := Lib.hid (HM0.out.below b1 (by omega))
      have HY1 := Lib.hid (HY0.out.below b1 (by omega))
      have HV1 := Lib.hid (HV.out.below b1 hB0)
      have HW1 := Lib.hid (HW.out.below b1 hB0)
      have HT1 := Lib.hid (HT.out.below b1)
      have HB1 := Lib.hid (HVB.out.trans (b1.mono HVB.out.size))
      have hs1 : W0.heap.size ≤ w1.heap.size := b1.size
      have hB1 : B ≤ w1.heap.size := Nat.le_trans hB0 hs1
      clear b1 hx0 hx1 hxf0 hxf1 hxs
      obtain ⟨hm0, hm1, hmf0, hmf1, hms⟩ := HM1.out.two
      go_wp2_with fail
      refine (implIsMatrix_any w1 B _ p d M HT1.out HW1.out.1 hB1 HW1.out.2.1 HW1.out.2.2).mono ?_
      rintro e w2 ⟨rfl, b2⟩
      rw [HMM.out]
      have HX2 := Lib.hid (HX1.out.below b2 (by omega))
      have HM2 := Lib.hid (HM1.out.below b2 (by omega))
      have HY2 := Lib.hid (HY1.out.below b2 (by omega))
      have HV2 := Lib.hid (HV1.out.below b2 hB1)
      have HW2 := Lib.hid (HW1.out.below b2 hB1)
      have HB2 := Lib.hid (HB1.out.trans (b2.mono HB1.out.size))
      have hs2 : w1.heap.size ≤ w2.heap.size := b2.size
      have hB2 : B ≤ w2.heap.size := Nat.le_trans hB1 hs2
      clear b2 hm0 hm1 hmf0 hmf1 hms
      obtain ⟨hy0, hy1, hyf0, hyf1, hys⟩ := HY2.out.two
      go_wp2
      refine bodyPost_ret (v := .tuple #[.agg #[.int .i64 0, .slice none 0 0], .bool false]) (by simp [results, Tryd.results41, go_sem, hy0, hy1]) rfl ?_
      rw [HOK.out, (pre_no HOK.out).1, (pre_no HOK.out).2]
      exact ⟨_, rfl, (by refine Below.trans HB2.out ?_; repeat' (first | exact Below.refl _ _ | apply Below.drew | apply Below.setCell | apply Below.alloc | (simp; done) | omega | (simp; omega))), ⟨none, 0, rfl, Or.inl rfl⟩, by simp [szG, tot]⟩
    | true =>
      by_cases hl : d = c
      · obtain ⟨hf, n, rfl, hn24, hln, hred, -⟩ := isSp_parts hs
        subst hl
        obtain ⟨-, hm24, d', hd', hd24, hmat⟩ := (isMat_iff _ _ _).1 hmm
        obtain rfl : n = d' := by omega
        clear hd'
        obtain ⟨h1, h2⟩ := fld_bd hf
        have hmk := make_ints M.length (by omega)
        have HS := Lib.hid hs
        have HMM := Lib.hid hmm
        have HOK := Lib.hid (show preOk p n n R M = true by simp [preOk, hs, hmm])
        have hq : ((n : Int) != (n : Int)) = false := by simp
        have HF := Lib.hid hf
        have HRE := Lib.hid hred
        have HMT := Lib.hid hmat
        have HNM := Lib.hid (nullB_mat hf (c := n) R)
        have HNL := Lib.hid (nullB_le hf (c := n) R)
        have HCE := Lib.hid (conds_eq (p := p) hmat (N := nullB p R n) (fun r hr => ((nullB_mat hf (c := n) R).vec hr).1))
        have HCM := Lib.hid (show Mat p (nullB p R n).length M.length (conds p (nullB p R n) M) by rw [← conds_eq (p := p) hmat (N := nullB p R n) (fun r hr => ((nullB_mat hf (c := n) R).vec hr).1)]; exact mmul_mat h1 _ _ _)
        have HSZ := Lib.hid (nullB_sz hf (c := M.length) (conds p (nullB p R n) M) hm24)
        clear hs hmm hf hred hmat
        go_enter Tryd.func41, Tryd.ntmps41
        go_upto_region 1 with fail
        generalize (((w.alloc (.cells #[.int .i64 n, .slice A R.length cp] tSp)).alloc (.cells #[.int .i64 n, .slice Am M.length cm] tM)).alloc (.cells #[.int .i64 0, .slice none 0 0] tSp)) = W0 at HVB HV HW hB0 HX0 HM0 HY0 HT hsz0 ⊢
        have hz0' : w.heap.size + 3 ≤ W0.heap.size := by omega
        clear hsz0
        obtain ⟨hx0, hx1, hxf0, hxf1, hxs⟩ := HX0.out.two
        go_wp2_with fail
        refine (implIsSpace_any W0 B _ p n R HT.out HV.out hB0).mono ?_
        rintro e w1 ⟨rfl, b1⟩
        rw [HS.out]
        have HX1 := Lib.hid (HX0.out.below b1 hxs)
        have HM1 := Lib.hid (HM0.out.below b1 (by omega))
        have HY1 := Lib.hid (HY0.out.below b1 (by omega))
        have HV1 := Lib.hid (HV.out.below b1 hB0)
        have HW1 := Lib.hid (HW.out.below b1 hB0)
        have HT1 := Lib.hid (HT.out.below b1)
        have HB1 := Lib.hid (HVB.out.trans (b1.mono HVB.out.size))
        have hs1 : W0.heap.size ≤ w1.heap.size := b1.size
        have hB1 : B ≤ w1.heap.size := Nat.le_trans hB0 hs1
        clear b1 hx0 hx1 hxf0 hxf1 hxs
        obtain ⟨hm0, hm1, hmf0, hmf1, hms⟩ := HM1.out.two
        go_wp2_with fail
        refine (implIsMatrix_any w1 B _ p n M HT1.out HW1.out.1 hB1 HW1.out.2.1 HW1.out.2.2).mono ?_
        rintro e w2 ⟨rfl, b2⟩
        rw [HMM.out]
        have HX2 := Lib.hid (HX1.out.below b2 (by omega))
        have HM2 := Lib.hid (HM1.out.below b2 (by omega))
        have HY2 := Lib.hid (HY1.out.below b2 (by omega))
        have HV2 := Lib.hid (HV1.out.below b2 hB1)
        have HW2 := Lib.hid (HW1.out.below b2 hB1)
        have HB2 := Lib.hid (HB1.out.trans (b2.mono HB1.out.size))
        have hs2 : w1.heap.size ≤ w2.heap.size := b2.size
        have hB2 : B ≤ w2.heap.size := Nat.le_trans hB1 hs2
        clear b2 hm0 hm1 hmf0 hmf1 hms
        obtain ⟨hx0, hx1, hxf0, hxf1, hxs⟩ := HX2.out.two
        obtain ⟨hm0, hm1, hmf0, hmf1, hms⟩ := HM2.out.two
        have HELD : Hid (∀ w' : World, w'.heap[w.heap.size]? = w2.heap[w.heap.size]? → w'.heap[w.heap.size + 1]? = w2.heap[w.heap.size + 1]? → w'.cell? ⟨w.heap.size, 0, none⟩ = some (.int .i64 n) ∧ w'.cell? ⟨w.heap.size, 1, none⟩ = some (.slice A R.length cp) ∧ w'.cell? ⟨w.heap.size + 1, 0, none⟩ = some (.int .i64 n) ∧ w'.cell? ⟨w.heap.size + 1, 1, none⟩ = some (.slice Am M.length cm)) := Lib.hid (fun w' H K => ⟨(World.cell?_of_block (w := w2) H).trans hx0, (World.cell?_of_block (w := w2) H).trans hx1, (World.cell?_of_block (w := w2) K).trans hm0, (World.cell?_of_block (w := w2) K).trans hm1⟩)
        have HQ0 : Hid (w2.drew.heap[w.heap.size]? = w2.heap[w.heap.size]?) := Lib.hid rfl
        have HK0 : Hid (w2.drew.heap[w.heap.size + 1]? = w2.heap[w.heap.size + 1]?) := Lib.hid rfl
        have HVD := Lib.hid (show LfG w2.drew B (.slice A R.length cp) R from HV2.out)
        have hBD : B ≤ w2.drew.heap.size := hB2
        have hxz : w.heap.size + 2 < w2.heap.size := HY2.out.lt
        have HTM := Lib.hid (turn_mat HMT.out)
        go_wp2
        clear hx0 hx1 hxf0 hxf1 hxs hm0 hm1 hmf0 hmf1 hms
        go_region_held3 (fun w' => w'.cell? ⟨w.heap.size, 0, none⟩ = some (.int .i64 n) ∧ w'.cell? ⟨w.heap.size, 1, none⟩ = some (.slice A R.length cp) ∧ w'.cell? ⟨w.heap.size + 1, 0, none⟩ = some (.int .i64 n) ∧ w'.cell? ⟨w.heap.size + 1, 1, none⟩ = some (.slice Am M.length cm))
          (first | with_reducible exact HELD.out _ HQ0.out HK0.out | with_reducible exact HELD.out _ HQ3.out HK3.out | with_reducible exact HELD.out _ HQ4.out HK4.out | with_reducible exact HELD.out _ HQ5.out HK5.out | with_reducible exact HELD.out _ HQ6.out HK6.out | exact HELD.out _ (((blk_setCell_other _ _ _ _ (by dsimp only; omega)).trans (blk_setCell_other _ _ _ _ (by dsimp only; omega))).trans HQ6.out) (((blk_setCell_other _ _ _ _ (by dsimp only; omega)).trans (blk_setCell_other _ _ _ _ (by dsimp only; omega))).trans HK6.out))
          (first
            | (have HO5' := HO5; go_at_call 79; go_split_ands; refine (orthogonalOf_any w5 w5.heap.size _ p M.length (rref p (conds p (nullB p R n) M) M.length) HO5.out (Nat.le_refl _) HF.out (rref_isRed HF.out HCM.out) (by omega)).mono ?_; rw [nullB_rref HF.out HCM.out]; rintro e w6 ⟨v6, rfl, b6, o6⟩; obtain ⟨A6, c6, rfl⟩ := OwG.len o6; have HB6 : Hid (Below w2.heap.size w2 w6) := Lib.hid (HB5.out.trans (b6.mono hs5)); have HQ6 : Hid (w6.heap[w.heap.size]? = w2.heap[w.heap.size]?) := Lib.hid (HB6.out.block _ (by omega)); have HK6 : Hid (w6.heap[w.heap.size + 1]? = w2.heap[w.heap.size + 1]?) := Lib.hid (HB6.out.block _ (by omega)); have HO6 := Lib.hid (OwG.mono (T := fun q => w2.heap.size ≤ q) o6 (fun q hq _ => Nat.le_trans hs5 hq)); have HY6 := Lib.hid (HY2.out.below HB6.out (by omega)); obtain ⟨hy0, hy1, hyf0, hyf1, hys⟩ := HY6.out.two; clear b6 o6)
            | (go_at_call 79; go_split_ands; refine (orthogonalOf_any w2.drew B _ p n R HVD.out.1 hBD HF.out HRE.out (by omega)).mono ?_; rintro e w3 ⟨v3, rfl, b3, o3⟩; obtain ⟨A3, c3, rfl⟩ := OwG.len o3; have HB3 : Hid (Below w2.heap.size w2 w3) := Lib.hid ((Below.refl _ _).drew.trans b3); have HQ3 : Hid (w3.heap[w.heap.size]? = w2.heap[w.heap.size]?) := Lib.hid (HB3.out.block _ (by omega)); have HK3 : Hid (w3.heap[w.heap.size + 1]? = w2.heap[w.heap.size + 1]?) := Lib.hid (HB3.out.block _ (by omega)); have HO3 := Lib.hid (OwG.readB o3); have HW3 := Lib.hid (HW2.out.below HB3.out hB2); have hs3 : w2.heap.size ≤ w3.heap.size := HB3.out.size; have hB3 : B ≤ w3.heap.size := Nat.le_trans hB2 hs3; clear b3 o3)
            | (go_at_call 89; go_split_ands; refine (transposeOf_any w3 B _ n M HW3.out.1 hB3 (by omega) (by omega) (fun r hr => (HMT.out.row (by rw [← HMT.out.1]; exact hr)).1)).mono ?_; rintro e w4 ⟨v4, rfl, b4, o4⟩; obtain ⟨A4, c4, rfl⟩ := OwG.len o4; have HB4 : Hid (Below w2.heap.size w2 w4) := Lib.hid (HB3.out.trans (b4.mono hs3)); have HQ4 : Hid (w4.heap[w.heap.size]? = w2.heap[w.heap.size]?) := Lib.hid (HB4.out.block _ (by omega)); have HK4 : Hid (w4.heap[w.heap.size + 1]? = w2.heap[w.heap.size + 1]?) := Lib.hid (HB4.out.block _ (by omega)); have HO4 := Lib.hid (OwG.readB o4); have HG4 := Lib.hid ((HO3.out.below b4 (Nat.le_refl _)).mono (B' := w4.heap.size) b4.size); have hs4 : w2.heap.size ≤ w4.heap.size := HB4.out.size; clear b4 o4)
            | (go_at_call 88; go_split_ands; refine (imageOf_any w4 w4.heap.size _ _ p (nullB p R n).length n M.length (nullB p R n) (turn M n) HG4.out HO4.out (Nat.le_refl _) HF.out HNM.out HTM.out (by have := HNL.out; omega) (by omega) (by omega)).mono ?_; rw [HCE.out]; rintro e w5 ⟨v5, rfl, b5, o5⟩; obtain ⟨A5, c5, rfl⟩ := OwG.len o5; have HB5 : Hid (Below w2.heap.size w2 w5) := Lib.hid (HB4.out.trans (b5.mono hs4)); have HQ5 : Hid (w5.heap[w.heap.size]? = w2.heap[w.heap.size]?) := Lib.hid (HB5.out.block _ (by omega)); have HK5 : Hid (w5.heap[w.heap.size + 1]? = w2.heap[w.heap.size + 1]?) := Lib.hid (HB5.out.block _ (by omega)); have HO5 := Lib.hid (OwG.readB o5); have hs5 : w2.heap.size ≤ w5.heap.size := HB5.out.size; clear b5 o5))
        have HBE := Lib.hid (HB2.out.trans (HB6.out.mono HB2.out.size))
        go_wp2
        refine bodyPost_ret (v := .tuple #[.agg #[.int .i64 M.length, .slice A6 (nullB p (conds p (nullB p R n) M) M.length).length c6], .bool true]) (by simp [results, Tryd.results41, go_sem, hy0, hy1]) rfl ?_
        rw [HOK.out, (pre_yes HOK.out).1, (pre_yes HOK.out).2]
        refine ⟨_, rfl, (by refine Below.trans HBE.out ?_; repeat' (first | exact Below.refl _ _ | apply Below.drew | apply Below.setCell | apply Below.alloc | (simp; done) | omega | (simp; omega))), (HO6.out.blocks (fun k hk _ => ?_)).mono (fun k hk _ => by omega), HSZ.out⟩
        repeat rw [blk_setCell_other _ _ _ _ (by dsimp only; omega)]
      · have HS := Lib.hid hs
        have HMM := Lib.hid hmm
        have hq : (d != c) = true := by simp [hl]
        have HOK := Lib.hid (show preOk p c d R M = false by simp [preOk, hl])
        clear hs hmm hl
        go_enter Tryd.func41, Tryd.ntmps41
        go_upto_region 1 with fail
        generalize (((w.alloc (.cells #[.int .i64 c, .slice A R.length cp] tSp)).alloc (.cells #[.int .i64 d, .slice Am M.length cm] tM)).alloc (.cells #[.int .i64 0, .slice none 0 0] tSp)) = W0 at HVB HV HW hB0 HX0 HM0 HY0 HT hsz0 ⊢
        have hz0' : w.heap.size + 3 ≤ W0.heap.size := by omega
        clear hsz0
        obtain ⟨hx0, hx1, hxf0, hxf1, hxs⟩ := HX0.out.two
        go_wp2_with fail
        refine (implIsSpace_any W0 B _ p c R HT.out HV.out hB0).mono ?_
        rintro e w1 ⟨rfl, b1⟩
        rw [HS.out]
        have HX1 := Lib.hid (HX0.out.below b1 hxs)
        have HM1 := Lib.hid (HM0.out.below b1 (by omega))
        have HY1 := Lib.hid (HY0.out.below b1 (by omega))
        have HV1 := Lib.hid (HV.out.below b1 hB0)
        have HW1 := Lib.hid (HW.out.below b1 hB0)
        have HT1 := Lib.hid (HT.out.below b1)
        have HB1 := Lib.hid (HVB.out.trans (b1.mono HVB.out.size))
        have hs1 : W0.heap.size ≤ w1.heap.size := b1.size
        have hB1 : B ≤ w1.heap.size := Nat.le_trans hB0 hs1
        clear b1 hx0 hx1 hxf0 hxf1 hxs
        obtain ⟨hm0, hm1, hmf0, hmf1, hms⟩ := HM1.out.two
        go_wp2_with fail
        refine (implIsMatrix_any w1 B _ p d M HT1.out HW1.out.1 hB1 HW1.out.2.1 HW1.out.2.2).mono ?_
        rintro e w2 ⟨rfl, b2⟩
        rw [HMM.out]
        have HX2 := Lib.hid (HX1.out.below b2 (by omega))
        have HM2 := Lib.hid (HM1.out.below b2 (by omega))
        have HY2 := Lib.hid (HY1.out.below b2 (by omega))
        have HV2 := Lib.hid (HV1.out.below b2 hB1)
        have HW2 := Lib.hid (HW1.out.below b2 hB1)
        have HB2 := Lib.hid (HB1.out.trans (b2.mono HB1.out.size))
        have hs2 : w1.heap.size ≤ w2.heap.size := b2.size
        have hB2 : B ≤ w2.heap.size := Nat.le_trans hB1 hs2
        clear b2 hm0 hm1 hmf0 hmf1 hms
        obtain ⟨hx0, hx1, hxf0, hxf1, hxs⟩ := HX2.out.two
        obtain ⟨hm0, hm1, hmf0, hmf1, hms⟩ := HM2.out.two
        obtain ⟨hy0, hy1, hyf0, hyf1, hys⟩ := HY2.out.two
        go_wp2
        refine bodyPost_ret (v := .tuple #[.agg #[.int .i64 0, .slice none 0 0], .bool false]) (by simp [results, Tryd.results41, go_sem, hy0, hy1]) rfl ?_
        rw [HOK.out, (pre_no HOK.out).1, (pre_no HOK.out).2]
        exact ⟨_, rfl, (by refine Below.trans HB2.out ?_; repeat' (first | exact Below.refl _ _ | apply Below.drew | apply Below.setCell | apply Below.alloc | (simp; done) | omega | (simp; omega))), ⟨none, 0, rfl, Or.inl rfl⟩, by simp [szG, tot]⟩
end Go.Proofs.YtahlicbjbbpihaaDoor
