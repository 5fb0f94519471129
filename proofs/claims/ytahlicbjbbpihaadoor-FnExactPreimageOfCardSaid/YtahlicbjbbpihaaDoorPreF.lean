/- PreimageOf: both sides. -/
import Derived.Test.YtahlicbjbbpihaaDoorPreM
import Derived.Test.YtahlicbjbbpihaaDoorSpOrth
import Derived.Test.YtahlicbjbbpihaaDoorImgI
import Derived.Test.YtahlicbjbbpihaaDoorNullB
import Derived.Test.YtahlicbjbbpihaaDoorRetSpaceB
import Derived.Deep.RegionHeld3
namespace Go.Proofs.YtahlicbjbbpihaaDoor
set_option maxRecDepth 100000
open Go Go.RowKit Go.Deep

def preOk (p c d : Int) (R M : List (List Int)) : Bool := isSp p c R && isMat p d M && decide (d = c)
def preC (p c d : Int) (R M : List (List Int)) : Int := if preOk p c d R M then M.length else 0
def preR (p c d : Int) (R M : List (List Int)) : List (List Int) := if preOk p c d R M then nullB p (conds p (nullB p R c.toNat) M) M.length else []
theorem pre_no {p c d : Int} {R M : List (List Int)} (h : preOk p c d R M = false) : preC p c d R M = 0 ∧ preR p c d R M = [] := by simp [preC, preR, h]
theorem pre_yes {p d : Int} {c : Nat} {R M : List (List Int)} (h : preOk p c d R M = true) : preC p c d R M = M.length ∧ preR p c d R M = nullB p (conds p (nullB p R c) M) M.length := by simp [preC, preR, h]
set_option maxHeartbeats 3200000 in
set_option maxRecDepth 100000 in
theorem spec_PreimageOf (w : World) (B : Nat) (v vm : Value) (p c d : Int) (R M : List (List Int)) (hv : LfG w B v R) (hm : LfG w B vm M) (hB : B ≤ w.heap.size) (_hs : szG R ≤ 1048576) (_hsm : szG M ≤ 1048576) :
    Calls Tryd.prog 40 #[.int .i64 p, .agg #[.int .i64 c, v], .agg #[.int .i64 d, vm]] w (SRetSpaceB w (preC p c d R M) (preR p c d R M) (preOk p c d R M)) := by
  obtain ⟨i0, hi0, hz0, hz1, hz2⟩ := info_parts infoR
  obtain ⟨A, cp, rfl⟩ := hv.len
  obtain ⟨Am, cm, rfl⟩ := hm.len
  have HVB := Lib.hid (show Below w.heap.size w (((w.alloc (.cells #[.int .i64 c, .slice A R.length cp] tSp)).alloc (.cells #[.int .i64 d, .slice Am M.length cm] tM)).alloc (.cells #[.int .i64 0, .slice none 0 0] tSp)) by repeat' (first | exact Below.refl _ _ | apply Below.alloc | (simp; done) | (simp; omega)))
  have HV := Lib.hid (hv.below HVB.out hB)
  have HW := Lib.hid (hm.below HVB.out hB)
  have hB0 : B ≤ (((w.alloc (.cells #[.int .i64 c, .slice A R.length cp] tSp)).alloc (.cells #[.int .i64 d, .slice Am M.length cm] tM)).alloc (.cells #[.int .i64 0, .slice none 0 0] tSp)).heap.size := Nat.le_trans hB HVB.out.size
  have HX0 := Lib.hid (((cellsAt_new w #[.int .i64 c, .slice A R.length cp] tSp).alloc (.cells #[.int .i64 d, .slice Am M.length cm] tM)).alloc (.cells #[.int .i64 0, .slice none 0 0] tSp))
  have HM0 := Lib.hid ((cellsAt_new' (w.alloc (.cells #[.int .i64 c, .slice A R.length cp] tSp)) #[.int .i64 d, .slice Am M.length cm] tM _ (w.heap.size + 1) (by simp) rfl).alloc (.cells #[.int .i64 0, .slice none 0 0] tSp))
  have HY0 := Lib.hid (cellsAt_new' ((w.alloc (.cells #[.int .i64 c, .slice A R.length cp] tSp)).alloc (.cells #[.int .i64 d, .slice Am M.length cm] tM)) #[.int .i64 0, .slice none 0 0] tSp _ (w.heap.size + 2) (by simp) rfl)
  have hsz0 : (((w.alloc (.cells #[.int .i64 c, .slice A R.length cp] tSp)).alloc (.cells #[.int .i64 d, .slice Am M.length cm] tM)).alloc (.cells #[.int .i64 0, .slice none 0 0] tSp)).heap.size = w.heap.size + 3 := by simp
  clear hv hm
  cases hs : isSp p c R with
  | false =>
    have HS := Lib.hid hs
    have HOK := Lib.hid (show preOk p c d R M = false by simp [preOk, hs])
    clear hs
    go_enter Tryd.func40, Tryd.ntmps40
    go_upto_region 1 with fail
    generalize (((w.alloc (.cells #[.int .i64 c, .slice A R.length cp] tSp)).alloc (.cells #[.int .i64 d, .slice Am M.length cm] tM)).alloc (.cells #[.int .i64 0, .slice none 0 0] tSp)) = W0 at HVB HV HW hB0 HX0 HM0 HY0 hsz0 ⊢
    have hz0' : w.heap.size + 3 ≤ W0.heap.size := by omega
    clear hsz0
    obtain ⟨hx0, hx1, hxf0, hxf1, hxs⟩ := HX0.out.two
    go_wp2_with fail
    refine (spGood_any W0 B _ p c R HV.out hB0).mono ?_
    rintro e w1 ⟨rfl, b1⟩
    rw [HS.out]
    have HX1 := Lib.hid (HX0.out.below b1 hxs)
    have HM1 := Lib.hid (HM0.out.below b1 (by omega))
    have HY1 := Lib.hid (HY0.out.below b1 (by omega))
    have HV1 := Lib.hid (HV.out.below b1 hB0)
    have HW1 := Lib.hid (HW.out.below b1 hB0)
    have HB1 := Lib.hid (HVB.out.trans (b1.mono HVB.out.size))
    have hs1 : W0.heap.size ≤ w1.heap.size := b1.size
    have hB1 : B ≤ w1.heap.size := Nat.le_trans hB0 hs1
    clear b1 hx0 hx1 hxf0 hxf1 hxs
    obtain ⟨hy0, hy1, hyf0, hyf1, hys⟩ := HY1.out.two
    go_wp2
    refine bodyPost_ret (v := .tuple #[.agg #[.int .i64 0, .slice none 0 0], .bool false]) (by simp [results, Tryd.results40, go_sem, hy0, hy1]) rfl ?_
    rw [HOK.out, (pre_no HOK.out).1, (pre_no HOK.out).2]
    exact ⟨_, rfl, (by refine Below.trans HB1.out ?_; repeat' (first | exact Below.refl _ _ | apply Below.drew | apply Below.setCell | apply Below.alloc | (simp; done) | omega | (simp; omega))), ⟨none, 0, rfl, Or.inl rfl⟩, by simp [szG, tot]⟩
  | true =>
    cases hmm : isMat p d M with
    | false =>
      have HS := Lib.hid hs
      have HMM := Lib.hid hmm
      have HOK := Lib.hid (show preOk p c d R M = false by simp [preOk, hmm])
      clear hs hmm
      go_enter Tryd.func40, Tryd.ntmps40
      go_upto_region 1 with fail
      generalize (((w.alloc (.cells #[.int .i64 c, .slice A R.length cp] tSp)).alloc (.cells #[.int .i64 d, .slice Am M.length cm] tM)).alloc (.cells #[.int .i64 0, .slice none 0 0] tSp)) = W0 at HVB HV HW hB0 HX0 HM0 HY0 hsz0 ⊢
      have hz0' : w.heap.size + 3 ≤ W0.heap.size := by omega
      clear hsz0
      obtain ⟨hx0, hx1, hxf0, hxf1, hxs⟩ := HX0.out.two
      go_wp2_with fail
      refine (spGood_any W0 B _ p c R HV.out hB0).mono ?_
      rintro e w1 ⟨rfl, b1⟩
      rw [HS.out]
      have HX1 := Lib.hid (HX0.out.below b1 hxs)
      have HM1 := Lib.hid (HM0.out.below b1 (by omega))
      have HY1 := Lib.hid (HY0.out.below b1 (by omega))
      have HV1 := Lib.hid (HV.out.below b1 hB0)
      have HW1 := Lib.hid (HW.out.below b1 hB0)
      have HB1 := Lib.hid (HVB.out.trans (b1.mono HVB.out.size))
      have hs1 : W0.heap.size ≤ w1.heap.size := b1.size
      have hB1 : B ≤ w1.heap.size := Nat.le_trans hB0 hs1
      clear b1 hx0 hx1 hxf0 hxf1 hxs
      obtain ⟨hm0, hm1, hmf0, hmf1, hms⟩ := HM1.out.two
      go_wp2_with fail
      refine (mxGood_any w1 B _ p d M HW1.out.1 hB1 HW1.out.2.1 HW1.out.2.2).mono ?_
      rintro e w2 ⟨rfl, b2⟩
      rw [HMM.out]
      have HX2 := Lib.hid (HX1.out.below b2 (by omega))
      have HM2 := Lib.hid (HM1.out.below b2 (by omega))
      have HY2 := Lib.hid (HY1.out.below b2 (by omega))
      have HV2 := Lib.hid (HV1.out.below b2 hB1)
      have HW2 := Lib.hid (HW1.out.below b2 hB1)
      have HB2 := Lib.hid (HB1.out.trans (b2.mono HB1.out.size))
      have hs2 : w1.heap.size ≤ w2.heap.size := b2.size
      have hB2 : B ≤ w2.heap.size := Nat.le_trans hB1 hs2
      clear b2 hm0 hm1 hmf0 hmf1 hms
      obtain ⟨hy0, hy1, hyf0, hyf1, hys⟩ := HY2.out.two
      go_wp2
      refine bodyPost_ret (v := .tuple #[.agg #[.int .i64 0, .slice none 0 0], .bool false]) (by simp [results, Tryd.results40, go_sem, hy0, hy1]) rfl ?_
      rw [HOK.out, (pre_no HOK.out).1, (pre_no HOK.out).2]
      exact ⟨_, rfl, (by refine Below.trans HB2.out ?_; repeat' (first | exact Below.refl _ _ | apply Below.drew | apply Below.setCell | apply Below.alloc | (simp; done) | omega | (simp; omega))), ⟨none, 0, rfl, Or.inl rfl⟩, by simp [szG, tot]⟩
    | true =>
      by_cases hl : d = c
      · obtain ⟨hf, n, rfl, hn24, hln, hred, -⟩ := isSp_parts hs
        subst hl
        obtain ⟨-, hm24, d', hd', hd24, hmat⟩ := (isMat_iff _ _ _).1 hmm
        obtain rfl : n = d' := by omega
        clear hd'
        obtain ⟨h1, h2⟩ := fld_bd hf
        have hmk := make_ints M.length (by omega)
        have HS := Lib.hid hs
        have HMM := Lib.hid hmm
        have HOK := Lib.hid (show preOk p n n R M = true by simp [preOk, hs, hmm])
        have hq : ((n : Int) != (n : Int)) = false := by simp
        have HF := Lib.hid hf
        have HRE := Lib.hid hred
        have HMT := Lib.hid hmat
        have HNM := Lib.hid (nullB_mat hf (c := n) R)
        have HNL := Lib.hid (nullB_le hf (c := n) R)
        have HCE := Lib.hid (conds_eq (p := p) hmat (N := nullB p R n) (fun r hr => ((nullB_mat hf (c := n) R).vec hr).1))
        have HCM := Lib.hid (show Mat p (nullB p R n).length M.length (conds p (nullB p R n) M) by rw [← conds_eq (p := p) hmat (N := nullB p R n) (fun r hr => ((nullB_mat hf (c := n) R).vec hr).1)]; exact mmul_mat h1 _ _ _)
        have HSZ := Lib.hid (nullB_sz hf (c := M.length) (conds p (nullB p R n) M) hm24)
        clear hs hmm hf hred hmat
        go_enter Tryd.func40, Tryd.ntmps40
        go_upto_region 1 with fail
        generalize (((w.alloc (.cells #[.int .i64 n, .slice A R.length cp] tSp)).alloc (.cells #[.int .i64 n, .slice Am M.length cm] tM)).alloc (.cells #[.int .i64 0, .slice none 0 0] tSp)) = W0 at HVB HV HW hB0 HX0 HM0 HY0 hsz0 ⊢
        have hz0' : w.heap.size + 3 ≤ W0.heap.size := by omega
        clear hsz0
        obtain ⟨hx0, hx1, hxf0, hxf1, hxs⟩ := HX0.out.two
        go_wp2_with fail
        refine (spGood_any W0 B _ p n R HV.out hB0).mono ?_
        rintro e w1 ⟨rfl, b1⟩
        rw [HS.out]
        have HX1 := Lib.hid (HX0.out.below b1 hxs)
        have HM1 := Lib.hid (HM0.out.below b1 (by omega))
        have HY1 := Lib.hid (HY0.out.below b1 (by omega))
        have HV1 := Lib.hid (HV.out.below b1 hB0)
        have HW1 := Lib.hid (HW.out.below b1 hB0)
        have HB1 := Lib.hid (HVB.out.trans (b1.mono HVB.out.size))
        have hs1 : W0.heap.size ≤ w1.heap.size := b1.size
        have hB1 : B ≤ w1.heap.size := Nat.le_trans hB0 hs1
        clear b1 hx0 hx1 hxf0 hxf1 hxs
        obtain ⟨hm0, hm1, hmf0, hmf1, hms⟩ := HM1.out.two
        go_wp2_with fail
        refine (mxGood_any w1 B _ p n M HW1.out.1 hB1 HW1.out.2.1 HW1.out.2.2).mono ?_
        rintro e w2 ⟨rfl, b2⟩
        rw [HMM.out]
        have HX2 := Lib.hid (HX1.out.below b2 (by omega))
        have HM2 := Lib.hid (HM1.out.below b2 (by omega))
        have HY2 := Lib.hid (HY1.out.below b2 (by omega))
        have HV2 := Lib.hid (HV1.out.below b2 hB1)
        have HW2 := Lib.hid (HW1.out.below b2 hB1)
        have HB2 := Lib.hid (HB1.out.trans (b2.mono HB1.out.size))
        have hs2 : w1.heap.size ≤ w2.heap.size := b2.size
        have hB2 : B ≤ w2.heap.size := Nat.le_trans hB1 hs2
        clear b2 hm0 hm1 hmf0 hmf1 hms
        obtain ⟨hx0, hx1, hxf0, hxf1, hxs⟩ := HX2.out.two
        obtain ⟨hm0, hm1, hmf0, hmf1, hms⟩ := HM2.out.two
        go_wp2_with fail
        refine (spNull_any w2 B _ p R.length n R HV2.out.1 hB2 HF.out HRE.out.mat (by omega) (by omega)).mono ?_
        rintro e w3 ⟨v3, rfl, b3, o3⟩
        obtain ⟨A3, c3, rfl⟩ := OwG.len o3
        have HR3 := Lib.hid (OwG.readB o3)
        have HW3 := Lib.hid (HW2.out.below b3 hB2)
        have HM3 := Lib.hid (HM2.out.below b3 (by omega))
        have HY3 := Lib.hid (HY2.out.below b3 HY2.out.lt)
        have HB3 := Lib.hid (HB2.out.trans (b3.mono HB2.out.size))
        have hs3 : w2.heap.size ≤ w3.heap.size := b3.size
        have hB3 : B ≤ w3.heap.size := Nat.le_trans hB2 hs3
        have hsw : w.heap.size + 2 < w3.heap.size := HY3.out.lt
        clear b3 o3 hx0 hx1 hxf0 hxf1 hxs hm0 hm1 hmf0 hmf1 hms
        generalize hN : nullB p R n = N at HNM HNL HCE HCM HSZ HR3 ⊢
        have HNE := Lib.hid hN
        clear hN
        have hNl : N.length ≤ n := HNL.out
        have HCX : Hid (∀ w' : World, Below w3.heap.size w3 w' → w'.cell? ⟨w.heap.size + 1, 1, none⟩ = some (.slice Am M.length cm)) := Lib.hid (fun w' hb => (HM3.out.below hb (by omega)).two.2.1)
        go_wp2
        go_loopw [42, 9, 11, 12, 13, 48, 49, 50] (fun i o _ _ _ _ _ _ wr => ∃ (q : Nat) (vs : List Value), q ≤ N.length ∧ i = .int .i64 q ∧ Hid (Below w3.heap.size w3 wr) ∧ Hid (GridA wr tI tR (fun b => w3.heap.size ≤ b) o vs (conds p (N.take q) M))) (fun i _ _ _ _ _ _ _ _ => N.length - (intOf i).toNat)
        case atStart => exact ⟨0, [], Nat.zero_le _, rfl, Lib.hid (Below.refl _ _), Lib.hid (GridA.nil _ _ _ _)⟩
        case round =>
          obtain ⟨q, vs, hq1, rfl, HB4, HGA⟩ := hrel
          by_cases hlt : q < N.length
          · obtain ⟨b1, o1, A4, c4, rfl, hb1, hc1, hrd⟩ := (HR3.out.below HB4.out (Nat.le_refl _)).at hlt
            have HRD := Lib.hid hrd
            have HXV := Lib.hid (HNM.out.vec (getD_mem' hlt []))
            have HNX := Lib.hid (conds_take (p := p) (M := M) hlt)
            have HLV := Lib.hid (show vs.length = q by have := HGA.out.len; rw [conds_len, List.length_take] at this; omega)
            have hqI : (q : Int) < (N.length : Int) := by omega
            clear hrd hb1
            generalize N.getD q [] = xr at hc1 HRD HXV HNX
            generalize wr = W5 at *
            have hs5 : w3.heap.size ≤ W5.heap.size := HB4.out.size
            go_wp2
            go_loopw [50, 13] (fun i _ w4 => ∃ j : Nat, j ≤ M.length ∧ i = .int .i64 j ∧ Hid (Below W5.heap.size W5 w4) ∧ Hid (OwR w4 tI (fun b => b = W5.heap.size) (.slice (some ⟨W5.heap.size, 0, none⟩) M.length M.length) (upd (fun j _ => dotQ p (M.getD j []) xr (M.getD j []).length) j (List.replicate M.length 0)))) (fun i _ _ => M.length - (intOf i).toNat)
            case atStart => exact ⟨0, Nat.zero_le _, rfl, Lib.hid ((Below.refl _ _).alloc (Nat.le_refl _) _), Lib.hid (by rw [upd_zero]; exact owR_at (S := fun b => b = W5.heap.size) rfl (made_ints W5 M.length) (by rw [List.length_replicate]))⟩
            case round =>
              obtain ⟨j, hj, rfl, HB5, HO⟩ := hrel
              have HBT := Lib.hid (HB4.out.trans (HB5.out.mono hs5))
              by_cases hltj : j < M.length
              · have hcm := HCX.out _ HBT.out
                obtain ⟨b4, o4, A6, c6, rfl, hb4, hc4, hrd4⟩ := (HW3.out.1.below HBT.out hB3).at hltj
                have HRM := Lib.hid (hrd4.mono (T := fun q => q < w3.heap.size) (fun q hq => Nat.lt_of_lt_of_le hq hB3))
                have HMV := Lib.hid (HMT.out.vec (getD_mem' hltj []))
                have HST := Lib.hid (upd_step (fun j _ => dotQ p (M.getD j []) xr (M.getD j []).length) (xs := List.replicate M.length 0) (k := j) (by rw [List.length_replicate]; exact hltj) 0)
                have hjI : (j : Int) < (M.length : Int) := by omega
                clear hb4 hrd4
                generalize M.getD j [] = mr at hc4 HRM HMV HST
                go_wp2_with fail
                refine (spDotQ_any wr w3.heap.size _ _ p mr xr HRM.out (HRD.out.blocks (fun q hq => HB5.out.block q (Nat.lt_of_lt_of_le hq hs5))) h1 h2 (by rw [HMV.out.1, HXV.out.1]) (by rw [HMV.out.1]; omega) HMV.out.2 HXV.out.2).mono ?_
                rintro e w4 ⟨rfl, n4, rfl⟩
                have HO5 := Lib.hid (OwR.blocks (w := wr) (w' := wr.drewN n4) HO.out (fun q _ hl _ _ => rfl))
                have HB6 := Lib.hid (below_drewN (n := n4) HB5.out)
                clear hc4 hcm
                generalize wr.drewN n4 = W6 at HO5 HB6 ⊢
                obtain ⟨b6, c7, e6, hb6, hs6, hc6, hf6, hset⟩ := HO5.out.at (j := j) (by rw [upd_len, List.length_replicate]; exact hltj)
                rw [upd_len, List.length_replicate] at e6
                obtain ⟨e7, -, -⟩ := sliceEq e6
                obtain rfl : W5.heap.size = b6 := by injection e7 with e7; injection e7
                have HSET := Lib.hid (hset (dotQ p mr xr mr.length))
                clear e6 e7 hb6 hset
                generalize (upd (fun j _ => dotQ p (M.getD j []) xr (M.getD j []).length) j (List.replicate M.length (0 : Int))).getD j 0 = u6 at hc6
                generalize dotQ p mr xr mr.length = L at HSET HST
                go_wp2
                go_roundw
                case rel => exact ⟨j + 1, by omega, by go_num, Lib.hid (HB6.out.setCell (Nat.le_refl _) _), Lib.hid (by rw [← HST.out]; exact HSET.out)⟩
                case measure => simp [intOf]; omega
              · have HE := Lib.hid (cond_end (p := p) (M := M) (w := xr) (k := j) (by omega))
                have HOW := Lib.hid (show OwR wr tI (fun b => b = W5.heap.size) (.slice (some ⟨W5.heap.size, 0, none⟩) M.length M.length) (cond p M xr) by rw [← HE.out]; exact HO.out)
                have hs6 : W5.heap.size ≤ wr.heap.size := HB5.out.size
                have HG2 := Lib.hid ((HGA.out.mono (T := fun q => w3.heap.size ≤ q ∧ q < W5.heap.size) (fun q h1 h2 => ⟨h1, h2⟩)).blocks (w' := wr) (fun q hq _ => HB5.out.block q hq.2))
                clear HO HE
                generalize cond p M xr = pv at HNX HOW
                go_wp2_with (at_builtin; refine wpList_append_lies _ (by rfl) (.tmp 65) (.tmp 67) 22 (by rfl) 0 33 i0 _ 1 24 Tryd.underlying22 hi0 hz0 hz1 hz2 rfl (by omega) u9 vs.length vs (by rfl) ((HG2.out.blocks (w' := wr.alloc _) (fun k hk hl => blk_alloc_lt _ _ _ hl)).outer) ⟨wr.heap.size, 0, none⟩ 1 1 [.slice (some ⟨W5.heap.size, 0, none⟩) M.length M.length] (by rfl) (by rfl) (World.news_of_block (cs := #[.slice (some ⟨W5.heap.size, 0, none⟩) M.length M.length]) (t := 33) (fr := (0, 0)) (heap_alloc_new wr _)) (by simp [Value.oneCell']) (by omega) (by rw [HLV.out]; unfold maxLen; omega) (by rw [HLV.out]; omega) (Nat.zero_le _) (wr.heap.size + 1) (by simp) ?_; intro gg cap w4 hown1 hgrow hat hlt3)
                have HBL := Lib.hid ((HBT.out.alloc (Nat.le_trans hs5 hs6) (.cells #[.slice (some ⟨W5.heap.size, 0, none⟩) M.length M.length] 33)).grown hgrow (by simp; omega) (fun q hq => HGA.out.inS q hq))
                have HP := Lib.hid (((HG2.out.blocks (w' := wr.alloc (.cells #[.slice (some ⟨W5.heap.size, 0, none⟩) M.length M.length] 33)) (fun q hq hl => blk_alloc_lt _ _ _ hl))).push (xs := pv) ((HOW.out.blocks (w' := wr.alloc (.cells #[.slice (some ⟨W5.heap.size, 0, none⟩) M.length M.length] 33)) (fun q hq hl _ _ => blk_alloc_lt _ _ _ hl)).mono (T := fun q => W5.heap.size ≤ q ∧ q < wr.heap.size + 1) (fun q hq hl => ⟨by omega, by simpa using hl⟩)) (fun q h1 h2 => by omega) hown1 hgrow (by simpa using hat))
                clear hown1 hgrow hat hlt3
                go_wp2
                go_roundw
                case rel => exact ⟨q + 1, _, by omega, by go_num, HBL, Lib.hid (by
                  rw [HNX.out]
                  refine HP.out.mono (T := fun b => w3.heap.size ≤ b) (fun b hb _ => ?_)
                  simp at hb
                  omega)⟩
                case measure => simp [intOf]; omega
          · have HE := Lib.hid (show N.take q = N from List.take_of_length_le (by omega))
            have HGE := HGA.out
            rw [HE.out] at HGE
            obtain ⟨Av, cpv, rfl, -, -⟩ := HGE.room
            have HRG := Lib.hid (OwG.readB HGE.toOwG)
            have hs5 : w3.heap.size ≤ wr.heap.size := HB4.out.size
            have HY4 := Lib.hid (HY3.out.below HB4.out (by omega))
            clear HGE HGA
            go_wp2_with fail
            refine (spNull_any wr wr.heap.size _ p N.length M.length (conds p N M) HRG.out (Nat.le_refl _) HF.out HCM.out (by omega) (by omega)).mono ?_
            rintro e w6 ⟨v6, rfl, b6, o6⟩
            obtain ⟨A6, c6, rfl⟩ := OwG.len o6
            have HB6 := Lib.hid b6
            have HO6 := Lib.hid (OwG.mono (T := fun q => w3.heap.size ≤ q) o6 (fun q hq _ => Nat.le_trans hs5 hq))
            have HY6 := Lib.hid (HY4.out.below b6 HY4.out.lt)
            clear b6 o6
            obtain ⟨hy0, hy1, hyf0, hyf1, hys⟩ := HY6.out.two
            have HBE := Lib.hid (HB3.out.trans ((HB4.out.trans (HB6.out.mono hs5)).mono HB3.out.size))
            go_wp2
            refine bodyPost_ret (v := .tuple #[.agg #[.int .i64 M.length, .slice A6 (nullB p (conds p N M) M.length).length c6], .bool true]) (by simp [results, Tryd.results40, go_sem, hy0, hy1]) rfl ?_
            rw [HOK.out, (pre_yes HOK.out).1, (pre_yes HOK.out).2, HNE.out]
            refine ⟨_, rfl, (by refine Below.trans HBE.out ?_; repeat' (first | exact Below.refl _ _ | apply Below.drew | apply Below.setCell | apply Below.alloc | (simp; done) | omega | (simp; omega))), (HO6.out.blocks (fun k hk _ => ?_)).mono (fun k hk _ => by omega), HSZ.out⟩
            repeat rw [blk_setCell_other _ _ _ _ (by dsimp only; omega)]
      · have HS := Lib.hid hs
        have HMM := Lib.hid hmm
        have hq : (d != c) = true := by simp [hl]
        have HOK := Lib.hid (show preOk p c d R M = false by simp [preOk, hl])
        clear hs hmm hl
        go_enter Tryd.func40, Tryd.ntmps40
        go_upto_region 1 with fail
        generalize (((w.alloc (.cells #[.int .i64 c, .slice A R.length cp] tSp)).alloc (.cells #[.int .i64 d, .slice Am M.length cm] tM)).alloc (.cells #[.int .i64 0, .slice none 0 0] tSp)) = W0 at HVB HV HW hB0 HX0 HM0 HY0 hsz0 ⊢
        have hz0' : w.heap.size + 3 ≤ W0.heap.size := by omega
        clear hsz0
        obtain ⟨hx0, hx1, hxf0, hxf1, hxs⟩ := HX0.out.two
        go_wp2_with fail
        refine (spGood_any W0 B _ p c R HV.out hB0).mono ?_
        rintro e w1 ⟨rfl, b1⟩
        rw [HS.out]
        have HX1 := Lib.hid (HX0.out.below b1 hxs)
        have HM1 := Lib.hid (HM0.out.below b1 (by omega))
        have HY1 := Lib.hid (HY0.out.below b1 (by omega))
        have HV1 := Lib.hid (HV.out.below b1 hB0)
        have HW1 := Lib.hid (HW.out.below b1 hB0)
        have HB1 := Lib.hid (HVB.out.trans (b1.mono HVB.out.size))
        have hs1 : W0.heap.size ≤ w1.heap.size := b1.size
        have hB1 : B ≤ w1.heap.size := Nat.le_trans hB0 hs1
        clear b1 hx0 hx1 hxf0 hxf1 hxs
        obtain ⟨hm0, hm1, hmf0, hmf1, hms⟩ := HM1.out.two
        go_wp2_with fail
        refine (mxGood_any w1 B _ p d M HW1.out.1 hB1 HW1.out.2.1 HW1.out.2.2).mono ?_
        rintro e w2 ⟨rfl, b2⟩
        rw [HMM.out]
        have HX2 := Lib.hid (HX1.out.below b2 (by omega))
        have HM2 := Lib.hid (HM1.out.below b2 (by omega))
        have HY2 := Lib.hid (HY1.out.below b2 (by omega))
        have HV2 := Lib.hid (HV1.out.below b2 hB1)
        have HW2 := Lib.hid (HW1.out.below b2 hB1)
        have HB2 := Lib.hid (HB1.out.trans (b2.mono HB1.out.size))
        have hs2 : w1.heap.size ≤ w2.heap.size := b2.size
        have hB2 : B ≤ w2.heap.size := Nat.le_trans hB1 hs2
        clear b2 hm0 hm1 hmf0 hmf1 hms
        obtain ⟨hx0, hx1, hxf0, hxf1, hxs⟩ := HX2.out.two
        obtain ⟨hm0, hm1, hmf0, hmf1, hms⟩ := HM2.out.two
        obtain ⟨hy0, hy1, hyf0, hyf1, hys⟩ := HY2.out.two
        go_wp2
        refine bodyPost_ret (v := .tuple #[.agg #[.int .i64 0, .slice none 0 0], .bool false]) (by simp [results, Tryd.results40, go_sem, hy0, hy1]) rfl ?_
        rw [HOK.out, (pre_no HOK.out).1, (pre_no HOK.out).2]
        exact ⟨_, rfl, (by refine Below.trans HB2.out ?_; repeat' (first | exact Below.refl _ _ | apply Below.drew | apply Below.setCell | apply Below.alloc | (simp; done) | omega | (simp; omega))), ⟨none, 0, rfl, Or.inl rfl⟩, by simp [szG, tot]⟩
end Go.Proofs.YtahlicbjbbpihaaDoor
