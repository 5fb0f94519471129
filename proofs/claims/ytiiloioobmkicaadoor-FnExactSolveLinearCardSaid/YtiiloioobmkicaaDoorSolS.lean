/- SolveLinear: the model's helper. -/
import Derived.Test.YtiiloioobmkicaaDoorSolM
import Derived.Test.YtiiloioobmkicaaDoorMxRed
import Derived.Test.YtiiloioobmkicaaDoorStp
import Derived.Deep.Cut
import Derived.Test.YtiiloioobmkicaaDoorStp
import Derived.Deep.RegionHeld3
namespace Go.Proofs.YtiiloioobmkicaaDoor
set_option maxRecDepth 100000
open Go Go.RowKit Go.Deep

theorem less_eq' {p k x y : Int} : (x + p - k * y % p) % p = (x + (p - k) % p * y) % p := by
  obtain ⟨q, hq⟩ := div_mod p (k * y)
  obtain ⟨q2, hq2⟩ := div_mod p (p - k)
  rw [hq, hq2]
  rw [show x + p - (k * y + p * q) = (x + (p - k + p * q2) * y) + p * (1 - q - y - q2 * y) by grind, Int.add_mul_emod_self_left]
theorem less_eq2' {p k x y : Int} : (x + p - k * y) % p = (x + (p - k) % p * y) % p := by
  obtain ⟨q2, hq2⟩ := div_mod p (p - k)
  rw [hq2]
  rw [show x + p - k * y = (x + (p - k + p * q2) * y) + p * (1 - y - q2 * y) by grind, Int.add_mul_emod_self_left]
set_option maxHeartbeats 1600000 in
set_option maxRecDepth 100000 in
theorem mxLess2_any (w : World) (T : Nat → Prop) (v u : Value) (p k : Int) (xs ys : List Int) (h1 : 2 ≤ p) (h2 : p ≤ 97) (ho : OwR w tI T v xs) (hs : RdS w (fun b => ¬ T b) u ys) (hl : ys.length = xs.length) (hn : xs.length ≤ 1000000) (hb : ∀ x, x ∈ xs → 0 ≤ x ∧ x < p) (hb2 : ∀ x, x ∈ ys → 0 ≤ x ∧ x < p) (hk0 : 0 ≤ k) (hk1 : k < p) :
    Calls Tryd.prog 92 #[.int .i64 p, v, u, .int .i64 k] w (Wrote w T v (axpy p xs ((p - k) % p) ys)) := by
  obtain ⟨A, c, rfl⟩ := ho.len
  obtain ⟨A2, c2, rfl, kc_c2, hsc⟩ := hs
  have HS := Lib.hid (show RdS w (fun b => ¬ T b) (.slice A2 ys.length c2) ys from ⟨A2, c2, rfl, kc_c2, hsc⟩)
  have HO := Lib.hid ho
  have HB := Lib.hid hb
  have HB2 := Lib.hid hb2
  have HL := Lib.hid hl
  clear ho hb hb2 hsc hl
  go_enter Tryd.func92, Tryd.ntmps92
  go_wp2
  go_loopw [11, 8] (fun i _ wr => ∃ j : Nat, j ≤ xs.length ∧ i = .int .i64 j ∧ Hid (Touch T w wr) ∧ Hid (OwR wr tI T (.slice A xs.length c) (upd (fun j x => (x + (p - k) % p * ys.getD j 0) % p) j xs))) (fun i _ _ => xs.length - (intOf i).toNat)
  case atStart => exact ⟨0, Nat.zero_le _, rfl, Lib.hid (Touch.refl _ _), Lib.hid (by rw [upd_zero]; exact HO.out)⟩
  case round =>
    obtain ⟨j, hj, rfl, HT, HR⟩ := hrel
    by_cases hlt : j < xs.length
    · have HLT2 := Lib.hid (show j < ys.length by rw [HL.out]; exact hlt)
      obtain ⟨b0, o0, rfl, hb0, hc0⟩ := (HS.out.touch HT.out (fun _ h => h)).at HLT2.out
      obtain ⟨b1, c1, e1, hb1, hs1, hc1, hf1, hset⟩ := HR.out.at (j := j) (by rw [upd_len]; exact hlt)
      rw [upd_len] at e1
      obtain ⟨rfl, rfl⟩ : A = some ⟨b1, 0, none⟩ ∧ c = c1 := by simpa using e1
      have HSET := Lib.hid hset
      have HT1 := Lib.hid hb1
      have HXV := Lib.hid (upd_getD (fun j x => (x + (p - k) % p * ys.getD j 0) % p) (Nat.le_refl j) xs 0)
      rw [HXV.out] at hc1
      have hx := HB.out _ (getD_mem' hlt 0)
      have hy := HB2.out _ (getD_mem' HLT2.out 0)
      have HNX := Lib.hid (upd_put (fun j x => (x + (p - k) % p * ys.getD j 0) % p) hlt 0)
      rw [HXV.out] at HNX
      clear hset hb1 hb0 e1
      generalize ys.getD j 0 = y at hc0 hy HNX
      generalize xs.getD j 0 = x at hc1 hx HXV HNX
      obtain ⟨hx0, hx1⟩ := hx
      obtain ⟨hy0, hy1⟩ := hy
      have hjI : (j : Int) < (xs.length : Int) := by omega
      have hjI2 : (j : Int) < (ys.length : Int) := by have := HLT2.out; omega
      have hmb := emod_bd h1 (k * y)
      go_wp2
      go_still_tail 16, (by kernel_rfl)
      still_call ((fdMul_any p k y _ h1 h2 (by omega) hk1 hy0 hy1).mono fun _ _ h => ⟨h.1, h.2.symm⟩)
      still_call ((fdSub_any p x (k * y % p) _ h1 h2 hx0 hx1 hmb.1 hmb.2).mono fun _ _ h => ⟨h.1, h.2.symm⟩)
      repeat still_step
      refine wpStill_nil ?_
      change wpList _ _ _ _ _ wr.drew
      go_wp2
      go_roundw
      case rel => exact ⟨j + 1, by omega, by go_num, Lib.hid ((HT.out.setCell (Or.inl HT1.out) _).drew), Lib.hid (by
        rw [← HNX.out]
        have h := HSET.out ((x + p - k * y % p) % p)
        rw [less_eq'] at h
        rw [less_eq2']
        exact OwR.blocks h (fun _ _ _ _ _ => rfl))⟩
      case measure => simp [intOf]; omega
    · go_wp2
      go_end0
      refine ⟨rfl, HT.out, ?_⟩
      have := HR.out
      rw [upd_all _ (by omega)] at this
      exact this
/-- The model's answer: the list and whether nothing is left. -/
def MadeSol (w : World) (xs : List Int) (ok : Bool) (e : Ending) (w' : World) : Prop := ∃ v, e = .returned (.tuple #[v, .bool ok]) ∧ Below w.heap.size w w' ∧ OwR w' tI (fun b => w.heap.size ≤ b) v xs
/-- Behind the lists' making. -/
structure SoSt (W wc : World) (n : Nat) (b : List Int) (bo : Nat) (s13 : Value) : Prop where
  bel : Stp W wc
  hbo : W.heap.size ≤ bo
  out : OwR wc tI (fun q => q = bo) (.slice (some ⟨bo, 0, none⟩) n n) (List.replicate n 0)
  rest : OwR wc tI (fun q => W.heap.size ≤ q ∧ q ≠ bo) s13 b
theorem soSt_a {W U w3 : World} {n : Nat} {b : List Int} {v3 : Value} (hU : Stp W U) (b3 : Stp (U.alloc (.cells (madeCells #[.int .i64 0] n) 3)) w3) (o3 : OwR w3 tI (fun q => (U.alloc (.cells (madeCells #[.int .i64 0] n) 3)).heap.size ≤ q) v3 b) : SoSt W w3 n b U.heap.size v3 := by
  have hz : (U.alloc (.cells (madeCells #[.int .i64 0] n) 3)).heap.size = U.heap.size + 1 := by simp
  have hs := hU.size
  refine ⟨(hU.alloc _).trans b3, hs, owR_at (S := fun q => q = U.heap.size) (n := n) (c := n) rfl ((made_ints U n).below b3 (by rw [hz]; omega)) (by simp), o3.mono fun q hq _ => ?_⟩
  have hq2 : (U.alloc (.cells (madeCells #[.int .i64 0] n) 3)).heap.size ≤ q := hq
  omega
theorem soSt_b {W U w3 : World} {n : Nat} {b : List Int} {v3 : Value} (hU : Stp W U) (b3 : Stp U w3) (o3 : OwR w3 tI (fun q => U.heap.size ≤ q) v3 b) : SoSt W (w3.alloc (.cells (madeCells #[.int .i64 0] n) 3)) n b w3.heap.size v3 := by
  have hs := hU.size
  have hs3 := b3.size
  refine ⟨(hU.trans b3).alloc _, by omega, owR_at (S := fun q => q = w3.heap.size) (n := n) (c := n) rfl (made_ints w3 n) (by simp), ?_⟩
  refine OwR.mono (T := fun q => W.heap.size ≤ q ∧ q ≠ w3.heap.size) (OwR.blocks (o3.mono (T := fun q => U.heap.size ≤ q ∧ q < w3.heap.size) fun q hq hl => ⟨hq, hl⟩) fun q hq hl _ _ => blk_alloc_lt _ _ _ hl) fun q hq _ => ⟨by omega, by omega⟩
set_option maxRecDepth 100000 in
set_option maxHeartbeats 12800000 in
theorem mxSolve_any (w : World) (B : Nat) (v vb : Value) (p : Int) (c : Nat) (M : List (List Int)) (b : List Int) (hv : RdG w B v M) (hb : RdS w (fun q => q < B) vb b) (hB : B ≤ w.heap.size) (hf : fld p = true) (hm : Mat p M.length c M) (hb2 : Vec p c b) (hn : M.length ≤ 1000) (hc : c ≤ 1000) :
    Calls Tryd.prog 57 #[.int .i64 p, .agg #[.int .i64 c, v], vb] w (MadeSol w (vmul p M.length (coords (rref p M c) b) (red p M (idRows M.length) c).t) (hasV p c (rref p M c) b)) := by
  obtain ⟨A, cp, rfl⟩ := hv.len
  obtain ⟨Ab, cb, rfl⟩ : ∃ A' c', vb = .slice A' b.length c' := by obtain ⟨A', c', e, _⟩ := hb; exact ⟨A', c', e⟩
  have HVB := Lib.hid (show Below w.heap.size w (w.alloc (.cells #[.int .i64 c, .slice A M.length cp] tM)) from (Below.refl _ _).alloc (Nat.le_refl _) _)
  have HV := Lib.hid (hv.below HVB.out hB)
  have HX := Lib.hid (hb.below HVB.out hB)
  have hB0 : B ≤ (w.alloc (.cells #[.int .i64 c, .slice A M.length cp] tM)).heap.size := Nat.le_trans hB HVB.out.size
  have HM0 := Lib.hid (cellsAt_new w #[.int .i64 c, .slice A M.length cp] tM)
  have hmk := make_ints M.length (by omega)
  have hp1 := (fld_bd hf).1
  have hp2 := (fld_bd hf).2
  have HF := Lib.hid hf
  have HMT := Lib.hid hm
  have HBV := Lib.hid hb2
  have HIN := Lib.hid (red_inv hf hm (idRows_mat hp1 M.length) c (Nat.le_refl c))
  have HRL := Lib.hid (red_lead hf hm (idRows M.length))
  have HRK := Lib.hid (show (red p M (idRows M.length) c).lead.length = (rref p M c).length by rw [rref_len hf hm, (red_rr p M (idRows M.length) c).2])
  have HRD := Lib.hid (show IsRed p (rref p M c).length c (rref p M c) from by have h := rref_red hf hm; rw [← rref_len hf hm] at h; exact h)
  have hrm : (rref p M c).length ≤ M.length := by rw [rref_len hf hm]; exact (rr_inv hf hm (Nat.le_refl c)).rank
  have HHV := Lib.hid (hasV_rest hp1 HRD.out hb2)
  clear hv hb hB hf hm hb2
  go_enter Tryd.func57, Tryd.ntmps57
  go_upto_region 1 with fail
  generalize (w.alloc (.cells #[.int .i64 c, .slice A M.length cp] tM)) = W0 at HVB HV HX hB0 HM0 ⊢
  obtain ⟨hm0, hm1, hmf0, hmf1, hms⟩ := HM0.out.two
  go_wp2_with fail
  refine (mxReduce_any W0 B _ p M.length c M HV.out hB0 HF.out HMT.out (by omega) (by omega)).mono ?_
  rintro e w1 ⟨v1, v2, S1, S2, rfl, b1, oa, ot, hS1, hS2⟩
  have HM1 := Lib.hid (HM0.out.below b1 hms)
  have HX1 := Lib.hid (HX.out.below b1 hB0)
  have HB1 := Lib.hid (HVB.out.trans (b1.mono HVB.out.size))
  have hB1 : B ≤ w1.heap.size := Nat.le_trans hB0 b1.size
  have HRA := Lib.hid (OwG.readB oa)
  have HRT := Lib.hid (OwG.readB ot)
  obtain ⟨Aa, ca, rfl⟩ := OwG.len oa
  obtain ⟨At, ct, rfl⟩ := OwG.len ot
  have HLA := Lib.hid HIN.out.a.1
  have HLT := Lib.hid HIN.out.t.1
  rw [HLA.out] at HRA
  rw [HLT.out] at HRT
  rw [HLA.out, HLT.out, HRK.out]
  generalize hsr : red p M (idRows M.length) c = s at HIN HRL HRK HLA HLT HRA HRT ⊢
  have HSR := Lib.hid hsr
  clear hsr
  clear b1 oa ot hS1 hS2 hm0 hm1 hmf0 hmf1 hms
  go_upto_region 2 with fail
  have HA2 := Lib.hid (show Stp w1 ((w1.alloc (.cells #[.int .i64 c, .slice Aa M.length ca] tM)).alloc (.cells #[.int .i64 M.length, .slice At M.length ct] tM)) from ((Stp.refl w1).alloc _).alloc _)
  have HX8 := Lib.hid ((cellsAt_new w1 #[.int .i64 c, .slice Aa M.length ca] tM).alloc (.cells #[.int .i64 M.length, .slice At M.length ct] tM))
  have HX9 := Lib.hid (cellsAt_new' (w1.alloc (.cells #[.int .i64 c, .slice Aa M.length ca] tM)) #[.int .i64 M.length, .slice At M.length ct] tM _ (w1.heap.size + 1) (by simp) rfl)
  have hzW : ((w1.alloc (.cells #[.int .i64 c, .slice Aa M.length ca] tM)).alloc (.cells #[.int .i64 M.length, .slice At M.length ct] tM)).heap.size = w1.heap.size + 2 := by simp
  have HM2 := Lib.hid (HM1.out.below HA2.out HM1.out.lt)
  have HX2 := Lib.hid (HX1.out.below HA2.out hB1)
  have HRA2 := Lib.hid (HRA.out.below HA2.out (Nat.le_refl _))
  have HRT2 := Lib.hid (HRT.out.below HA2.out (Nat.le_refl _))
  have HB2 := Lib.hid (HB1.out.trans (Below.mono HA2.out HB1.out.size))
  clear HM1 HX1 HRA HRT
  change Code.wp _ _ _ _ ((w1.alloc (.cells #[.int .i64 c, .slice Aa M.length ca] tM)).alloc (.cells #[.int .i64 M.length, .slice At M.length ct] tM))
  generalize ((w1.alloc (.cells #[.int .i64 c, .slice Aa M.length ca] tM)).alloc (.cells #[.int .i64 M.length, .slice At M.length ct] tM)) = W at HA2 HX8 HX9 hzW HM2 HX2 HRA2 HRT2 HB2 ⊢
  have hzW1 : w1.heap.size + 2 ≤ W.heap.size := by omega
  clear hzW
  have hBW : B ≤ W.heap.size := by omega
  obtain ⟨hm0, hm1, -, -, -⟩ := HM2.out.two
  have hwm := HM2.out.lt
  have HELD : Hid (∀ w' : World, Hid (Stp W w') → w'.cell? ⟨w.heap.size, 1, none⟩ = some (.slice A M.length cp) ∧ Hid (Stp W w')) := Lib.hid (fun w' H => ⟨(Below.cell H.out (p := ⟨w.heap.size, 1, none⟩) hwm).trans hm1, H⟩)
  have hbl6 : b.length ≤ 1000000 := by have := HBV.out.1; omega
  clear hm0
  go_cut [12, 13] from 16 (fun s12 s13 wc => ∃ (bo : Nat) (Ar : Option Addr) (cr : Nat), s12 = .slice (some ⟨bo, 0, none⟩) M.length M.length ∧ s13 = .slice Ar b.length cr ∧ Hid (SoSt W wc M.length b bo (.slice Ar b.length cr)))
  case first =>
    go_region_held3 (fun w' => w'.cell? ⟨w.heap.size, 1, none⟩ = some (.slice A M.length cp) ∧ Hid (Stp W w'))
      (exact HELD.out _ (by first | assumption | (refine Lib.hid ?_; repeat' (first | exact Stp.refl _ | exact Hid.out (by assumption) | apply Stp.drew | apply Stp.alloc))))
      (first
        | (go_at_call 34; go_split_ands; refine (l1Own_app _ B _ b (HX2.out.below (Hid.out (by assumption : Hid (Stp W _))) hBW) (Nat.le_trans hBW (Stp.size (Hid.out (by assumption : Hid (Stp W _))))) hbl6).mono ?_; rintro e w3 ⟨v3, rfl, b3, o3⟩; have o4 := RowA.own o3; obtain ⟨Ar, cr, rfl⟩ := OwR.len o4; have HS3 : Hid (Stp W w3) := Lib.hid (Stp.trans (Hid.out (by assumption : Hid (Stp W _))) b3))
        | fail)
    all_goals go_wp2_with fail
    all_goals go_meet
    all_goals first
      | exact ⟨_, Ar, cr, rfl, rfl, Lib.hid (soSt_a (Stp.refl _) ⟨b3.os, b3.tape, b3.output, b3.size, b3.block⟩ o4)⟩
      | exact ⟨_, Ar, cr, rfl, rfl, Lib.hid (soSt_a (Stp.drew (Stp.refl _)) b3 o4)⟩
      | exact ⟨_, Ar, cr, rfl, rfl, Lib.hid (soSt_b (Stp.drew (Stp.refl _)) b3 o4)⟩
      | fail
  case rest =>
    obtain ⟨bo, Ar, cr, rfl, rfl, H⟩ := hcut
    have HS := Lib.hid H.out.bel
    have hbo := H.out.hbo
    have HO := Lib.hid H.out.out
    have HR := Lib.hid H.out.rest
    clear H HELD hm1 hwm
    have HSW := Lib.hid (HS.out.size)
    generalize hR : rref p M c = R at HRL HRK HRD hrm HHV ⊢
    have HRE := Lib.hid hR
    clear hR
    go_wp2
    go_loopw [14, 15] (fun i _ wr => ∃ k : Nat, k ≤ R.length ∧ i = .int .i64 k ∧ Hid (Stp W wr) ∧ Hid (OwR wr tI (fun q => q = bo) (.slice (some ⟨bo, 0, none⟩) M.length M.length) (accT p M.length R s.t b k)) ∧ Hid (OwR wr tI (fun q => W.heap.size ≤ q ∧ q ≠ bo) (.slice Ar b.length cr) (restV p R b k))) (fun i _ _ => R.length - (intOf i).toNat)
    case atStart => exact ⟨0, Nat.zero_le _, rfl, HS, HO, HR⟩
    case round =>
      obtain ⟨k, hk, rfl, HSk, HOk, HRk⟩ := hrel
      have hszk : W.heap.size ≤ wr.heap.size := HSk.out.size
      have HVk := Lib.hid (restV_vec (R := R) hp1 HBV.out k)
      by_cases hlt : k < R.length
      · have hkI : (k : Int) < (R.length : Int) := by omega
        have HRLk := Lib.hid ((HRL.out k (by rw [HRK.out]; exact hlt)).2)
        have hka : k < s.a.length := by rw [HLA.out]; omega
        have hkt : k < s.t.length := by rw [HLT.out]; omega
        have hkm : (k : Int) < (M.length : Int) := by omega
        have HXA := Lib.hid (HIN.out.a.row (r := k) (by omega))
        have HXT := Lib.hid (HIN.out.t.row (r := k) (by omega))
        obtain ⟨ba, oa, A3, c3, rfl, hba, hca, hra⟩ := (HRA2.out.below HSk.out (by omega)).at hka
        obtain ⟨bt, ot, A4, c4, rfl, hbt, hct, hrt⟩ := (HRT2.out.below HSk.out (by omega)).at hkt
        have HRAk := Lib.hid hra
        have HRTk := Lib.hid hrt
        have hll := HRD.out.lt k hlt
        have HRS := Lib.hid (rest_step (p := p) R b k)
        have HAS := Lib.hid (acc_step (n := M.length) (T := s.t) hp1 HRD.out HBV.out hlt)
        rw [HRLk.out] at HRS HAS hll
        clear hra hrt
        generalize s.a.getD k [] = xa at HXA HRAk HRS HAS hll hca
        generalize s.t.getD k [] = xt at HXT HRTk HAS hct
        have hxal : xa.length = c := HXA.out.1
        have hxtl : xt.length = M.length := HXT.out.1
        have hxa6 : xa.length ≤ 1000000 := by omega
        generalize hj0 : lead0 xa = j0 at HRS HAS hll
        have HJ0 := Lib.hid hj0
        clear hj0
        have hjb : j0 < (restV p R b k).length := by rw [HVk.out.1]; exact hll
        have hjI : (j0 : Int) < (b.length : Int) := by have := HBV.out.1; omega
        obtain ⟨br, cr', er, hbr, hbrl, hcr, hfr, -⟩ := HRk.out.at hjb
        obtain ⟨rfl, -, rfl⟩ := sliceEq er
        have hK := HVk.out.el hll
        have HOL := Lib.hid (show (accT p M.length R s.t b k).length = M.length from (accT_vec hp1 k).1)
        have HOB := Lib.hid (accT_vec (p := p) (n := M.length) (R := R) (T := s.t) (v := b) hp1 k).2
        have HX8k := Lib.hid ((HX8.out.below HSk.out (by omega)).two)
        have HX9k := Lib.hid ((HX9.out.below HSk.out (by omega)).two)
        have hx8 := HX8k.out.2.1
        have hx9 := HX9k.out.2.1
        clear er hxal hxtl
        generalize (restV p R b k).getD j0 0 = K at hcr hK HRS HAS
        obtain ⟨hk0, hk1⟩ := hK
        go_wp2_with fail
        refine (spLead_any wr w1.heap.size _ xa HRAk.out hxa6).mono ?_
        rintro e w' ⟨rfl, rfl⟩
        rw [HJ0.out]
        go_wp2_with fail
        refine (mxLess2_any wr (fun q => W.heap.size ≤ q ∧ q ≠ bo) _ _ p K (restV p R b k) xa hp1 hp2 HRk.out (HRAk.out.mono fun q hq h => by omega) (by rw [HVk.out.1]; exact HXA.out.1) (by rw [HVk.out.1]; omega) HVk.out.2 HXA.out.2 hk0 hk1).mono ?_
        rintro e w2 ⟨rfl, t2, o2⟩
        rw [HRS.out] at o2
        have HR2 := Lib.hid o2
        have HO2 := Lib.hid (show OwR w2 tI (fun q => q = bo) (.slice (some ⟨bo, 0, none⟩) M.length M.length) (accT p M.length R s.t b k) from HOk.out.blocks fun q hq hl _ _ => t2.block q hl fun h => h.2 hq)
        have HS2 : Hid (Stp W w2) := Lib.hid (Below.trans HSk.out (t2.below hszk (fun q hq => hq.1)))
        have hsz2 : W.heap.size ≤ w2.heap.size := HS2.out.size
        have hca2 : w2.cell? ⟨bt, ot + k, none⟩ = some (.slice A4 xt.length c4) := (t2.cellAt (p := ⟨bt, ot + k, none⟩) (by dsimp only; omega) (fun h => by dsimp only at h; omega)).trans hct
        have hx92 := (HX9.out.below HS2.out (by omega)).two.2.1
        have HRT3 := Lib.hid (HRTk.out.touch t2 fun q hq h => by omega)
        have hnk := emod_bd hp1 (p - K)
        have hqbt : bt ≠ bo := by omega
        have HNG := Lib.hid (show -K % p = (p - K) % p by rw [show p - K = -K + p by omega, Int.add_emod_right])
        have hq9 : w1.heap.size + 1 ≠ bo := by omega
        have hbt2 : bt < w2.heap.size := by omega
        have hx9b : w1.heap.size + 1 < w2.heap.size := by omega
        have HD0 := Lib.hid (show w2.drew.cell? ⟨w1.heap.size + 1, 1, none⟩ = some (.slice (some ⟨bt, ot, none⟩) M.length ct) ∧ w2.drew.cell? ⟨bt, ot + k, none⟩ = some (.slice A4 xt.length c4) from ⟨hx92, hca2⟩)
        have HOD := Lib.hid (show OwR w2.drew tI (fun q => q = bo) (.slice (some ⟨bo, 0, none⟩) M.length M.length) (accT p M.length R s.t b k) from HO2.out)
        have HTD := Lib.hid (show RdS w2.drew (fun q => ¬ q = bo) (.slice A4 xt.length c4) xt from HRT3.out.mono fun q hq h => by omega)
        have HLS := Lib.hid (mxLess2_any w2.drew (fun q => q = bo) _ _ p ((p - K) % p) (accT p M.length R s.t b k) xt hp1 hp2 HOD.out HTD.out (by rw [HOL.out]; exact HXT.out.1) (by rw [HOL.out]; omega) HOB.out HXT.out.2 hnk.1 hnk.2)
        clear t2 o2 hca hct hcr hfr hx8 hx9
        go_wp2
        go_region_held3 (fun w' => w'.cell? ⟨w1.heap.size + 1, 1, none⟩ = some (.slice (some ⟨bt, ot, none⟩) M.length ct) ∧ w'.cell? ⟨bt, ot + k, none⟩ = some (.slice A4 xt.length c4))
          (first | with_reducible exact HD0.out | with_reducible exact HD1.out | fail)
          (first
            | (go_at_call 35; go_split_ands; refine (fdNeg_any p K _ hp1 hp2 hk0 hk1).mono ?_; rintro e w' ⟨rfl, rfl⟩)
            | (go_at_call 92; go_split_ands; rw [HNG.out]; refine HLS.out.mono ?_; rintro e w3 ⟨rfl, t3, o3⟩; rw [HAS.out] at o3; have HO3 := Lib.hid o3; have HR3 := Lib.hid (show OwR w3 tI (fun q => W.heap.size ≤ q ∧ q ≠ bo) (.slice (some ⟨br, 0, none⟩) b.length cr) (restV p R b (k + 1)) from HR2.out.blocks fun q hq hl _ _ => t3.block q hl fun h => hq.2 h); have HS3 : Hid (Stp W w3) := Lib.hid (Below.trans (Stp.drew HS2.out) (t3.below hsz2 (fun q hq => by have h2 : q = bo := hq; omega))); have HD1 := Lib.hid (show w3.cell? ⟨w1.heap.size + 1, 1, none⟩ = some (.slice (some ⟨bt, ot, none⟩) M.length ct) ∧ w3.cell? ⟨bt, ot + k, none⟩ = some (.slice A4 xt.length c4) from ⟨(t3.cellAt (p := ⟨w1.heap.size + 1, 1, none⟩) hx9b hq9).trans HD0.out.1, (t3.cellAt (p := ⟨bt, ot + k, none⟩) hbt2 hqbt).trans HD0.out.2⟩); clear t3 o3)
            | fail)
        go_wp2
        go_roundw
        case rel => exact ⟨k + 1, by omega, by go_num, HS3, HO3, HR3⟩
        case measure => simp [intOf]; omega
      · have hk2 : k = R.length := by omega
        subst hk2
        have HAZ := Lib.hid (all_zero (c := c) HVk.out.1)
        have hrl6 : (restV p R b R.length).length ≤ 9223372036854775807 := by rw [HVk.out.1]; omega
        have HE := Lib.hid (accT_end (p := p) (n := M.length) (R := R) (T := s.t) (v := b) (by rw [HLT.out]; exact hrm))
        rw [HE.out] at HOk
        go_wp2_with fail
        refine (l1All_any wr wr.heap.size _ (restV p R b R.length) 0 0 (by have h := HRk.out.readB; exact h) hrl6).mono ?_
        rintro e w' ⟨rfl, rfl⟩
        rw [HAZ.out, ← HHV.out]
        have HBE := Lib.hid (HB2.out.trans (Below.mono HSk.out HB2.out.size))
        have hzz := HB2.out.size
        go_wp2
        go_ret2
        rw [HSR.out, HRE.out]
        exact ⟨_, rfl, HBE.out, HOk.out.mono fun q hq _ => by have h2 : q = bo := hq; omega⟩
end Go.Proofs.YtiiloioobmkicaaDoor
