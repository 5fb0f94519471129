/- SeparatorOf: both sides. -/
import Derived.Test.YtahlicbjbbpihaaDoorVecA
import Derived.Test.YtahlicbjbbpihaaDoorSpOrth
import Derived.Test.YtahlicbjbbpihaaDoorMxFuncs
import Derived.Test.YtahlicbjbbpihaaDoorNullB
namespace Go.Proofs.YtahlicbjbbpihaaDoor
set_option maxRecDepth 100000
open Go Go.RowKit Go.Deep

def dotP (p : Int) (a b : List Int) : Nat → Int
  | 0 => 0
  | k + 1 => (dotP p a b k + a.getD k 0 * b.getD k 0) % p
theorem dotP_bd {p : Int} (hp : 2 ≤ p) (a b : List Int) : ∀ k, 0 ≤ dotP p a b k ∧ dotP p a b k < p
  | 0 => ⟨Int.le_refl _, by show (0 : Int) < p; omega⟩
  | k + 1 => ⟨Int.emod_nonneg _ (by omega), Int.emod_lt_of_pos _ (by omega)⟩
/-- A vector, its product with another made 1. -/
def sepW (p : Int) (v w : List Int) : List Int := w.map fun x => x * inv p (dotP p w v w.length) % p
def sepF (p : Int) (v : List Int) : List (List Int) → Option (List Int)
  | [] => none
  | w :: N => if dotP p w v w.length = 0 then sepF p v N else some (sepW p v w)
theorem sepF_drop {p : Int} {v : List Int} {N : List (List Int)} {k : Nat} (h : k < N.length) : sepF p v (N.drop k) = if dotP p (N.getD k []) v (N.getD k []).length = 0 then sepF p v (N.drop (k + 1)) else some (sepW p v (N.getD k [])) := by
  rw [List.drop_eq_getElem_cons h, show N.getD k [] = N[k] by rw [List.getD_eq_getElem?_getD, List.getElem?_eq_getElem h]; rfl]
  rfl
theorem sepF_end {p : Int} {v : List Int} {N : List (List Int)} {k : Nat} (h : N.length ≤ k) : sepF p v (N.drop k) = none := by
  rw [List.drop_of_length_le h]
  rfl
theorem sepF_len {p : Int} {v : List Int} {N : List (List Int)} {n c : Nat} (h : Mat p n c N) (hc : c ≤ 24) : ∀ s, sepF p v N = some s → s.length ≤ 24 := by
  intro s hs
  suffices h2 : ∀ M : List (List Int), (∀ r, r ∈ M → r ∈ N) → sepF p v M = some s → s.length ≤ 24 from h2 N (fun r hr => hr) hs
  intro M
  induction M with
  | nil => intro _ h; cases h
  | cons w M ih =>
    intro hM h2
    unfold sepF at h2
    by_cases h0 : dotP p w v w.length = 0
    · rw [if_pos h0] at h2
      exact ih (fun r hr => hM r (List.mem_cons_of_mem _ hr)) h2
    · rw [if_neg h0] at h2
      obtain rfl := Option.some.inj h2
      have := (h.vec (hM w List.mem_cons_self)).1
      simp [sepW]
      omega
set_option maxHeartbeats 800000 in
theorem spDot_any (w : World) (B : Nat) (va vb : Value) (p : Int) (xs ys : List Int) (ha : RdS w (fun b => b < B) va xs) (hb : RdS w (fun b => b < B) vb ys) (h1 : 2 ≤ p) (h2 : p ≤ 97) (hl : xs.length = ys.length) (hn : xs.length ≤ 1000000) (hx : ∀ x, x ∈ xs → 0 ≤ x ∧ x < p) (hy : ∀ x, x ∈ ys → 0 ≤ x ∧ x < p) :
    Calls Tryd.prog 76 #[.int .i64 p, va, vb] w fun e w' => e = .returned (.int .i64 (dotP p xs ys xs.length)) ∧ ∃ n, w' = w.drewN n := by
  obtain ⟨A, cv, rfl, ha'⟩ := ha
  obtain ⟨A2, c2, rfl, hb'⟩ := hb
  have HA := Lib.hid (show RdS w (fun b => b < B) (.slice A xs.length cv) xs from ⟨A, cv, rfl, ha'⟩)
  have HB := Lib.hid (show RdS w (fun b => b < B) (.slice A2 ys.length c2) ys from ⟨A2, c2, rfl, hb'⟩)
  have HL := Lib.hid hl
  have HX := Lib.hid hx
  have HY := Lib.hid hy
  clear ha' hb' hl hx hy
  go_enter Tryd.func76, Tryd.ntmps76
  go_wp2
  go_loopw [11, 7, 8] (fun i a _ wr => ∃ k n : Nat, k ≤ xs.length ∧ i = .int .i64 k ∧ a = .int .i64 (dotP p xs ys k) ∧ wr = w.drewN n) (fun i _ _ _ => xs.length - (intOf i).toNat)
  case atStart => exact ⟨0, 0, Nat.zero_le _, rfl, rfl, rfl⟩
  case round =>
    obtain ⟨k, n, hk, rfl, rfl, rfl⟩ := hrel
    by_cases hlt : k < xs.length
    · have hlt2 : k < ys.length := by have := HL.out; omega
      obtain ⟨b, o, rfl, hb3, hc⟩ := HA.out.at hlt
      obtain ⟨b', o', rfl, hb4, hc'⟩ := HB.out.at hlt2
      obtain ⟨hx0, hx1⟩ := HX.out _ (getD_mem' hlt 0)
      obtain ⟨hy0, hy1⟩ := HY.out _ (getD_mem' hlt2 0)
      obtain ⟨ha0, ha1⟩ := dotP_bd h1 xs ys k
      have HS := Lib.hid (show dotP p xs ys (k + 1) = (dotP p xs ys k + xs.getD k 0 * ys.getD k 0) % p from rfl)
      clear hb3 hb4
      generalize xs.getD k 0 = x at hc hx0 hx1 HS
      generalize ys.getD k 0 = y at hc' hy0 hy1 HS
      generalize dotP p xs ys k = a at ha0 ha1 HS
      have i1 : (k : Int) < xs.length := by omega
      have i2 : (k : Int) < ys.length := by omega
      have hm0 : 0 ≤ x * y := Int.mul_nonneg hx0 hy0
      have hm1 : x * y ≤ 97 * 97 := Int.mul_le_mul (by omega) (by omega) hy0 (by omega)
      have hp0 : ¬ p = 0 := by omega
      have hw1 : IntKind.i64.wrap (x * y) = x * y := Go.IntWalk.i64_in _ ⟨by omega, by omega⟩
      have hw2 : IntKind.i64.wrap (a + x * y) = a + x * y := Go.IntWalk.i64_in _ ⟨by omega, by omega⟩
      have htm : (a + x * y).tmod p = (a + x * y) % p := Int.tmod_eq_emod_of_nonneg (by omega)
      go_wp2
      go_quiet (fail)
      clear hw1 hw2 htm
      go_wp2
      go_roundw
      case rel => exact ⟨k + 1, _, by omega, by go_num, by rw [HS.out], rfl⟩
      case measure => simp [intOf]; omega
    · obtain rfl : k = xs.length := by omega
      go_wp2
      go_ret
      exact ⟨rfl, _, rfl⟩
set_option maxHeartbeats 800000 in
theorem vectorProduct_any (w : World) (B : Nat) (va vb : Value) (p : Int) (xs ys : List Int) (ha : RdS w (fun b => b < B) va xs) (hb : RdS w (fun b => b < B) vb ys) (h1 : 2 ≤ p) (h2 : p ≤ 97) (hl : xs.length = ys.length) (hn : xs.length ≤ 1000000) (hx : ∀ x, x ∈ xs → 0 ≤ x ∧ x < p) (hy : ∀ x, x ∈ ys → 0 ≤ x ∧ x < p) :
    Calls Tryd.prog 80 #[.int .i64 p, va, vb] w fun e w' => e = .returned (.int .i64 (dotP p xs ys xs.length)) ∧ w = w' := by
  obtain ⟨A, cv, rfl, ha'⟩ := ha
  obtain ⟨A2, c2, rfl, hb'⟩ := hb
  have HA := Lib.hid (show RdS w (fun b => b < B) (.slice A xs.length cv) xs from ⟨A, cv, rfl, ha'⟩)
  have HB := Lib.hid (show RdS w (fun b => b < B) (.slice A2 ys.length c2) ys from ⟨A2, c2, rfl, hb'⟩)
  have HL := Lib.hid hl
  have HX := Lib.hid hx
  have HY := Lib.hid hy
  clear ha' hb' hl hx hy
  go_enter Tryd.func80, Tryd.ntmps80
  go_wp2
  go_loopw [12, 7, 8, 9] (fun i a _ _ wr => ∃ k : Nat, k ≤ xs.length ∧ i = .int .i64 k ∧ a = .int .i64 (dotP p xs ys k) ∧ wr = w) (fun i _ _ _ _ => xs.length - (intOf i).toNat)
  case atStart => exact ⟨0, Nat.zero_le _, rfl, rfl, rfl⟩
  case round =>
    obtain ⟨k, hk, rfl, rfl, rfl⟩ := hrel
    by_cases hlt : k < xs.length
    · have hlt2 : k < ys.length := by have := HL.out; omega
      obtain ⟨b, o, rfl, hb3, hc⟩ := HA.out.at hlt
      obtain ⟨b', o', rfl, hb4, hc'⟩ := HB.out.at hlt2
      obtain ⟨hx0, hx1⟩ := HX.out _ (getD_mem' hlt 0)
      obtain ⟨hy0, hy1⟩ := HY.out _ (getD_mem' hlt2 0)
      obtain ⟨ha0, ha1⟩ := dotP_bd h1 xs ys k
      have HS := Lib.hid (show dotP p xs ys (k + 1) = (dotP p xs ys k + xs.getD k 0 * ys.getD k 0) % p from rfl)
      clear hb3 hb4
      generalize xs.getD k 0 = x at hc hx0 hx1 HS
      generalize ys.getD k 0 = y at hc' hy0 hy1 HS
      generalize dotP p xs ys k = a at ha0 ha1 HS
      have i1 : (k : Int) < xs.length := by omega
      have i2 : (k : Int) < ys.length := by omega
      have hm0 : 0 ≤ x * y := Int.mul_nonneg hx0 hy0
      have hm1 : x * y ≤ 97 * 97 := Int.mul_le_mul (by omega) (by omega) hy0 (by omega)
      have hp0 : ¬ p = 0 := by omega
      go_wp2
      go_roundw
      case rel => exact ⟨k + 1, by omega, by go_num, by rw [HS.out], trivial⟩
      case measure => simp [intOf]; omega
    · obtain rfl : k = xs.length := by omega
      go_wp2
      go_ret
      exact ⟨rfl, rfl⟩

def sepO (p c : Int) (R : List (List Int)) (v : List Int) : Option (List Int) := if vecOk p c R v then sepF p v (nullB p R c.toNat) else none
def sepR (p c : Int) (R : List (List Int)) (v : List Int) : List Int := (sepO p c R v).getD []
def sepB (p c : Int) (R : List (List Int)) (v : List Int) : Bool := (sepO p c R v).isSome
theorem sepO_no {p c : Int} {R : List (List Int)} {v : List Int} (h : vecOk p c R v = false) : sepO p c R v = none := by simp [sepO, h]
theorem sepO_yes {p : Int} {c : Nat} {R : List (List Int)} {v : List Int} (h : vecOk p c R v = true) : sepO p c R v = sepF p v (nullB p R c) := by simp [sepO, h]
theorem sep_none {p c : Int} {R : List (List Int)} {v : List Int} (h : sepO p c R v = none) : sepR p c R v = [] ∧ sepB p c R v = false := by simp [sepR, sepB, h]
theorem sep_some {p c : Int} {R : List (List Int)} {v s : List Int} (h : sepO p c R v = some s) : sepR p c R v = s ∧ sepB p c R v = true := by simp [sepR, sepB, h]
/-- A vector's multiple, as it grows. -/
def mulT (p iv : Int) (xs : List Int) : List Int := xs.map fun x => x * iv % p
theorem mulT_len (p iv : Int) (xs : List Int) : (mulT p iv xs).length = xs.length := by simp [mulT]
theorem mulT_take {p iv : Int} {xs : List Int} {k : Nat} (h : k < xs.length) : mulT p iv (xs.take (k + 1)) = mulT p iv (xs.take k) ++ [xs.getD k 0 * iv % p] := by
  unfold mulT
  rw [List.take_succ_eq_append_getElem h, List.map_append, show xs.getD k 0 = xs[k] by rw [List.getD_eq_getElem?_getD, List.getElem?_eq_getElem h]; rfl]
  rfl
theorem axpy_mulT (p iv : Int) (xs : List Int) : axpy p (List.replicate xs.length 0) iv xs = mulT p iv xs := by
  refine ext_getD 0 (by rw [axpy_len, mulT_len, List.length_replicate]) fun i hi => ?_
  rw [axpy_len, List.length_replicate] at hi
  unfold mulT
  rw [axpy_get (by rw [List.length_replicate]; exact hi), repl_getD, map_getD _ _ _ hi 0, Int.zero_add, Int.mul_comm]
theorem sepW_mulT (p : Int) (v w : List Int) : sepW p v w = mulT p (inv p (dotP p w v w.length)) w := rfl
set_option maxHeartbeats 1600000 in
set_option maxRecDepth 100000 in
theorem spec_SeparatorOf (w : World) (B : Nat) (vb vv : Value) (p c : Int) (rows : List (List Int)) (v : List Int) (hb : LfG w B vb rows) (hv : LfR w B vv v) (hB : B ≤ w.heap.size) (_hsb : szG rows ≤ 1048576) (_hsv : szR v ≤ 1048576) :
    Calls Tryd.prog 32 #[.int .i64 p, .agg #[.int .i64 c, vb], vv] w (SRetRB w (sepR p c rows v) (sepB p c rows v)) := by
  obtain ⟨i1, hi1, hz0, hz1, hz2⟩ := info_parts infoI
  obtain ⟨A, cp, rfl⟩ := hb.len
  obtain ⟨Av, cv, rfl⟩ := hv.len
  have HVB := Lib.hid (show Below w.heap.size w (w.alloc (.cells #[.int .i64 c, .slice A rows.length cp] tSp)) from (Below.refl _ _).alloc (Nat.le_refl _) _)
  have HV := Lib.hid (hb.below HVB.out hB)
  have HW := Lib.hid (hv.below HVB.out hB)
  have hB0 : B ≤ (w.alloc (.cells #[.int .i64 c, .slice A rows.length cp] tSp)).heap.size := Nat.le_trans hB HVB.out.size
  have HX0 := Lib.hid (cellsAt_new w #[.int .i64 c, .slice A rows.length cp] tSp)
  clear hb hv hB
  cases hs : vecOk p c rows v with
  | false =>
    have HS := Lib.hid hs
    have HOK := Lib.hid (sepO_no hs)
    clear hs
    go_enter Tryd.func32, Tryd.ntmps32
    go_wp2_with fail
    refine (spVector_any _ B _ _ p c rows v HV.out HW.out hB0).mono ?_
    rintro e w1 ⟨rfl, b1⟩
    rw [HS.out]
    have HB1 := Lib.hid (HVB.out.trans (b1.mono HVB.out.size))
    clear b1
    go_wp2
    go_ret2
    rw [(sep_none HOK.out).1, (sep_none HOK.out).2]
    exact ⟨_, rfl, HB1.out, OwR.nil none 0, by simp [szR]⟩
  | true =>
    obtain ⟨hsp, hrv⟩ := vecOk_parts hs
    obtain ⟨hf, n, rfl, hn24, hln, hred, -⟩ := isSp_parts hsp
    obtain ⟨h1, h2⟩ := fld_bd hf
    have HS := Lib.hid hs
    have HOK := Lib.hid (sepO_yes hs)
    have HF := Lib.hid hf
    have HMM := Lib.hid hred.mat
    have HVC := Lib.hid (rowB_vec hrv)
    have HNM := Lib.hid (nullB_mat hf (c := n) rows)
    have HNL := Lib.hid (nullB_le hf (c := n) rows)
    clear hs hsp hrv hf hred
    go_enter Tryd.func32, Tryd.ntmps32
    go_wp2_with fail
    refine (spVector_any _ B _ _ p n rows v HV.out HW.out hB0).mono ?_
    rintro e w1 ⟨rfl, b1⟩
    rw [HS.out]
    have HB1 := Lib.hid (HVB.out.trans (b1.mono HVB.out.size))
    have HX1 := Lib.hid (HX0.out.below b1 (by rw [nblk_alloc]; omega))
    have HV1 := Lib.hid (HV.out.below b1 hB0)
    have HW1 := Lib.hid (HW.out.below b1 hB0)
    have hs1 : B ≤ w1.heap.size := Nat.le_trans hB0 b1.size
    clear b1
    obtain ⟨hx0, hx1, hxf0, hxf1, hxs⟩ := HX1.out.two
    go_wp2_with fail
    refine (spNull_any w1 B _ p rows.length n rows HV1.out.1 hs1 HF.out HMM.out (by omega) (by omega)).mono ?_
    rintro e w2 ⟨v2, rfl, b2, o2⟩
    obtain ⟨A2, c2, rfl⟩ := OwG.len o2
    have HB2 := Lib.hid (HB1.out.trans (b2.mono HB1.out.size))
    have HW2 := Lib.hid ((HW1.out.below b2 hs1).1.mono (T := fun q => q < w2.heap.size) (fun q hq => Nat.lt_of_lt_of_le hq (Nat.le_trans hs1 b2.size)))
    have HR2 := Lib.hid (OwG.readB o2)
    have hs2 : w.heap.size ≤ w2.heap.size := HB2.out.size
    clear b2 o2 hx0 hx1 hxf0 hxf1 hxs
    generalize nullB p rows n = N at HOK HNM HNL HR2 ⊢
    have HLN := Lib.hid (sepF_len (v := v) HNM.out hn24)
    have hNl : N.length ≤ n := HNL.out
    go_wp2
    go_loopw [27, 9, 10, 11, 12, 14, 40, 41, 42] (fun i _ _ _ _ _ _ _ _ wr => ∃ k : Nat, k ≤ N.length ∧ i = .int .i64 k ∧ Hid (Below w2.heap.size w2 wr) ∧ Hid (sepO p n rows v = sepF p v (N.drop k))) (fun i _ _ _ _ _ _ _ _ _ => N.length - (intOf i).toNat)
    case atStart => exact ⟨0, Nat.zero_le _, rfl, Lib.hid (Below.refl _ _), Lib.hid (by rw [List.drop_zero]; exact HOK.out)⟩
    case round =>
      obtain ⟨k, hk, rfl, HB3, HE⟩ := hrel
      by_cases hlt : k < N.length
      · obtain ⟨b1, o1, A3, c3, rfl, hb1, hc1, hrd⟩ := (HR2.out.below HB3.out (Nat.le_refl _)).at hlt
        have HRD := Lib.hid hrd
        have HXV := Lib.hid (HNM.out.vec (getD_mem' hlt []))
        have HSD := Lib.hid (sepF_drop (p := p) (v := v) hlt)
        have hkI : (k : Int) < (N.length : Int) := by omega
        clear hrd hb1
        generalize N.getD k [] = xr at hc1 HRD HXV HSD
        have HXL := Lib.hid (show xr.length = n from HXV.out.1)
        have hxm : xr.length ≤ 24 := by have := HXL.out; omega
        go_wp2_with fail
        refine (spDot_any wr w2.heap.size _ _ p xr v HRD.out (HW2.out.blocks (fun q hq => HB3.out.block q hq)) h1 h2 (by rw [HXL.out, HVC.out.1]) (by omega) HXV.out.2 HVC.out.2).mono ?_
        rintro e w3 ⟨rfl, n3, rfl⟩
        obtain ⟨hd0, hd1⟩ := dotP_bd h1 xr v xr.length
        have HWM := Lib.hid (sepW_mulT p v xr)
        generalize dotP p xr v xr.length = d at hd0 hd1 HSD HWM
        have HB5 := Lib.hid (below_drewN (n := n3) HB3.out)
        have HRD5 := Lib.hid (show RdS (wr.drewN n3) (fun b => b < w2.heap.size) (.slice A3 xr.length c3) xr from HRD.out)
        by_cases hz : d = 0
        · have HE2 := Lib.hid (show sepO p n rows v = sepF p v (N.drop (k + 1)) by rw [HE.out, HSD.out, if_pos hz])
          have hq : (d == 0) = true := by simp [hz]
          clear hz
          go_wp2
          go_roundw
          case rel => exact ⟨k + 1, by omega, by go_num, HB5, HE2⟩
          case measure => simp [intOf]; omega
        · have HE2 := Lib.hid (show sepO p n rows v = some (mulT p (inv p d) xr) by rw [HE.out, HSD.out, if_neg hz, HWM.out])
          have HL24 := Lib.hid (show (mulT p (inv p d) xr).length ≤ 24 by rw [mulT_len]; omega)
          have hq : (d == 0) = false := by simp [hz]
          have hdp : 0 < d := by omega
          have hib := inv_bd h1 d
          clear HB3 HRD HSD HWM HE hz
          generalize wr.drewN n3 = W5 at HB5 HRD5 ⊢
          go_wp2_with fail
          refine (fdInv_any p d _ HF.out hdp hd1).mono ?_
          rintro e w' ⟨rfl, rfl⟩
          generalize inv p d = iv at HE2 HL24 hib
          obtain ⟨hi0, hi1'⟩ := hib
          have hs5 : w2.heap.size ≤ W5.heap.size := HB5.out.size
          go_wp2
          go_loopw [42, 12, 14] (fun i o _ w4 => ∃ j : Nat, j ≤ xr.length ∧ i = .int .i64 j ∧ Hid (Below W5.heap.size W5 w4) ∧ Hid (RowA w4 W5.heap.size o (mulT p iv (xr.take j)))) (fun i _ _ _ => xr.length - (intOf i).toNat)
          case atStart => exact ⟨0, Nat.zero_le _, rfl, Lib.hid (Below.refl _ _), Lib.hid (World.ownsRow_nil _ _ _ _)⟩
          case round =>
            obtain ⟨j, hj, rfl, HB6, HO⟩ := hrel
            by_cases hltj : j < xr.length
            · obtain ⟨b5, o5, rfl, hb5, hc5⟩ := (HRD5.out.below HB6.out hs5).at hltj
              obtain ⟨hx0, hx1⟩ := HXV.out.2 _ (getD_mem' hltj 0)
              have HPT := Lib.hid (mulT_take (p := p) (iv := iv) hltj)
              have HCL := Lib.hid (show (mulT p iv (xr.take j)).length = j by rw [mulT_len, List.length_take]; omega)
              have hjI : (j : Int) < (xr.length : Int) := by omega
              clear hb5
              generalize xr.getD j 0 = y at hc5 hx0 hx1 HPT
              generalize mulT p iv (xr.take j) = cs at HO HPT HCL
              go_wp2_with fail
              refine (fdMul_any p y iv _ h1 h2 hx0 hx1 hi0 hi1').mono ?_
              rintro e w' ⟨rfl, rfl⟩
              generalize y * iv % p = z at HPT
              go_wp2_with (at_builtin; refine wpList_append_own _ rfl _ _ 33 rfl W5.heap.size 3 i1 (.int .i64 0) 1 8 Tryd.underlying33 hi1 hz0 hz1 hz2 rfl (by decide) _ _ _ rfl (World.ownsRow.alloc HO.out _) ⟨wr.heap.size, 0, none⟩ 1 1 [.int .i64 z] rfl rfl ?c1 ?c2 ?c3 ?c4 ?c5 ?_)
              case c1 =>
                intro j u hj
                match j, hj with
                | 0, hj => simp at hj; subst hj; simp [Addr.add]
              case c2 => intro u hu; simp at hu; subst hu; rfl
              case c3 => have := HCL.out; unfold maxLen; omega
              case c4 => have := HCL.out; omega
              case c5 => have := HB6.out.size; simp; omega
              intro v' w1 hown' hgrow _
              have HO2 := Lib.hid (show RowA w1 W5.heap.size v' (cs ++ [z]) by unfold RowA; rw [List.length_append, List.length_singleton, icells_snoc]; exact hown')
              have HB4 := Lib.hid ((HB6.out.alloc HB6.out.size (.cells #[.int .i64 z] 3)).grown hgrow (by have := HB6.out.size; simp; omega) (fun q hq => (World.ownsRow.lt HO.out q hq).1))
              clear hown' hgrow
              go_wp2
              go_roundw
              case rel => exact ⟨j + 1, by omega, by go_num, HB4, Lib.hid (by rw [HPT.out]; exact HO2.out)⟩
              case measure => simp [intOf]; omega
            · have HT := Lib.hid (show xr.take j = xr from List.take_of_length_le (by omega))
              have hown := HO.out.own
              rw [HT.out] at hown
              have HOW := Lib.hid hown
              clear hown HO
              go_wp2
              go_ret2
              rw [(sep_some HE2.out).1, (sep_some HE2.out).2]
              exact ⟨_, rfl, HB2.out.trans ((HB5.out.trans (HB6.out.mono hs5)).mono hs2), HOW.out.mono (fun q hq _ => by omega), by have := HL24.out; unfold szR; omega⟩
      · have HN := Lib.hid (show sepO p n rows v = none by rw [HE.out]; exact sepF_end (by omega))
        go_wp2
        go_ret2
        rw [(sep_none HN.out).1, (sep_none HN.out).2]
        exact ⟨_, rfl, HB2.out.trans (HB3.out.mono hs2), OwR.nil none 0, by simp [szR]⟩

set_option maxHeartbeats 1600000 in
set_option maxRecDepth 100000 in
theorem impl_SeparatorOf (w : World) (B : Nat) (vb vv : Value) (p c : Int) (rows : List (List Int)) (v : List Int) (ht : Tab w) (hb : LfG w B vb rows) (hv : LfR w B vv v) (hB : B ≤ w.heap.size) (_hsb : szG rows ≤ 1048576) (_hsv : szR v ≤ 1048576) :
    Calls Tryd.prog 33 #[.int .i64 p, .agg #[.int .i64 c, vb], vv] w (IRetRB w (sepR p c rows v) (sepB p c rows v)) := by
  obtain ⟨A, cp, rfl⟩ := hb.len
  obtain ⟨Av, cv, rfl⟩ := hv.len
  have HVB := Lib.hid (show Below w.heap.size w (w.alloc (.cells #[.int .i64 c, .slice A rows.length cp] tSp)) from (Below.refl _ _).alloc (Nat.le_refl _) _)
  have HV := Lib.hid (hb.below HVB.out hB)
  have HW := Lib.hid (hv.below HVB.out hB)
  have hB0 : B ≤ (w.alloc (.cells #[.int .i64 c, .slice A rows.length cp] tSp)).heap.size := Nat.le_trans hB HVB.out.size
  have HX0 := Lib.hid (cellsAt_new w #[.int .i64 c, .slice A rows.length cp] tSp)
  have HT := Lib.hid (ht.below HVB.out)
  clear hb hv hB ht
  cases hs : vecOk p c rows v with
  | false =>
    have HS := Lib.hid hs
    have HOK := Lib.hid (sepO_no hs)
    clear hs
    go_enter Tryd.func33, Tryd.ntmps33
    go_wp2_with fail
    refine (areSpVec_any _ B _ _ p c rows v HT.out HV.out HW.out hB0).mono ?_
    rintro e w1 ⟨rfl, b1⟩
    rw [HS.out]
    have HB1 := Lib.hid (HVB.out.trans (b1.mono HVB.out.size))
    clear b1
    go_wp2
    go_ret2
    rw [(sep_none HOK.out).1, (sep_none HOK.out).2]
    exact ⟨_, rfl, HB1.out, OwR.nil none 0, by simp [szR]⟩
  | true =>
    obtain ⟨hsp, hrv⟩ := vecOk_parts hs
    obtain ⟨hf, n, rfl, hn24, hln, hred, -⟩ := isSp_parts hsp
    obtain ⟨h1, h2⟩ := fld_bd hf
    have hmk := make_ints n (by omega)
    have HS := Lib.hid hs
    have HOK := Lib.hid (sepO_yes hs)
    have HF := Lib.hid hf
    have HRE := Lib.hid hred
    have HVC := Lib.hid (rowB_vec hrv)
    have HNM := Lib.hid (nullB_mat hf (c := n) rows)
    have HNL := Lib.hid (nullB_le hf (c := n) rows)
    clear hs hsp hrv hf hred
    have hfld : ∀ (x : Int) (A : Option Addr) (n d : Nat) (w : World), (Instr.field tSp (.agg #[.int .i64 x, .slice A n d]) 1).run Tryd.prog w = .ok (.slice A n d) w := fun _ _ _ _ _ => by kernel_rfl
    go_enter Tryd.func33, Tryd.ntmps33
    go_wp2_with fail
    refine (areSpVec_any _ B _ _ p n rows v HT.out HV.out HW.out hB0).mono ?_
    rintro e w1 ⟨rfl, b1⟩
    rw [HS.out]
    have HB1 := Lib.hid (HVB.out.trans (b1.mono HVB.out.size))
    have HX1 := Lib.hid (HX0.out.below b1 (by rw [nblk_alloc]; omega))
    have HV1 := Lib.hid (HV.out.below b1 hB0)
    have HW1 := Lib.hid (HW.out.below b1 hB0)
    have hs1 : B ≤ w1.heap.size := Nat.le_trans hB0 b1.size
    clear b1
    obtain ⟨hx0, hx1, hxf0, hxf1, hxs⟩ := HX1.out.two
    go_wp2_with fail
    refine (orthogonalOf_any w1 B _ p n rows HV1.out.1 hs1 HF.out HRE.out (by omega)).mono ?_
    rintro e w2 ⟨v2, rfl, b2, o2⟩
    obtain ⟨A2, c2, rfl⟩ := OwG.len o2
    have HB2 := Lib.hid (HB1.out.trans (b2.mono HB1.out.size))
    have HX2 := Lib.hid (HX1.out.below b2 hxs)
    have HW2 := Lib.hid ((HW1.out.below b2 hs1).1.mono (T := fun q => q < w2.heap.size) (fun q hq => Nat.lt_of_lt_of_le hq (Nat.le_trans hs1 b2.size)))
    have HR2 := Lib.hid (OwG.readB o2)
    have hs2 : w.heap.size ≤ w2.heap.size := HB2.out.size
    clear b2 o2 hx0 hx1 hxf0 hxf1 hxs
    generalize nullB p rows n = N at HOK HNM HNL HR2 ⊢
    have HLN := Lib.hid (sepF_len (v := v) HNM.out hn24)
    have hNl : N.length ≤ n := HNL.out
    go_wp2
    go_loopw [22, 9, 10, 11] (fun i _ _ _ wr => ∃ k : Nat, k ≤ N.length ∧ i = .int .i64 k ∧ Hid (Below w2.heap.size w2 wr) ∧ Hid (sepO p n rows v = sepF p v (N.drop k))) (fun i _ _ _ _ => N.length - (intOf i).toNat)
    case atStart => exact ⟨0, Nat.zero_le _, rfl, Lib.hid (Below.refl _ _), Lib.hid (by rw [List.drop_zero]; exact HOK.out)⟩
    case round =>
      obtain ⟨k, hk, rfl, HB3, HE⟩ := hrel
      by_cases hlt : k < N.length
      · obtain ⟨b1, o1, A3, c3, rfl, hb1, hc1, hrd⟩ := (HR2.out.below HB3.out (Nat.le_refl _)).at hlt
        have HRD := Lib.hid hrd
        have HXV := Lib.hid (HNM.out.vec (getD_mem' hlt []))
        have HSD := Lib.hid (sepF_drop (p := p) (v := v) hlt)
        have hkI : (k : Int) < (N.length : Int) := by omega
        have hs3 : w2.heap.size ≤ wr.heap.size := HB3.out.size
        clear hrd hb1
        generalize N.getD k [] = xr at hc1 HRD HXV HSD
        have HXL := Lib.hid (show xr.length = n from HXV.out.1)
        have hxm : xr.length ≤ 24 := by have := HXL.out; omega
        go_wp2_with fail
        refine (vectorProduct_any wr w2.heap.size _ _ p xr v HRD.out (HW2.out.blocks (fun q hq => HB3.out.block q hq)) h1 h2 (by rw [HXL.out, HVC.out.1]) (by omega) HXV.out.2 HVC.out.2).mono ?_
        rintro e w3 ⟨rfl, rfl⟩
        obtain ⟨hd0, hd1⟩ := dotP_bd h1 xr v xr.length
        have HWM := Lib.hid (sepW_mulT p v xr)
        generalize dotP p xr v xr.length = d at hd0 hd1 HSD HWM
        by_cases hz : d = 0
        · have HE2 := Lib.hid (show sepO p n rows v = sepF p v (N.drop (k + 1)) by rw [HE.out, HSD.out, if_pos hz])
          have hq : (d != 0) = false := by simp [hz]
          clear hz
          go_wp2
          go_roundw
          case rel => exact ⟨k + 1, by omega, by go_num, HB3, HE2⟩
          case measure => simp [intOf]; omega
        · have HE2 := Lib.hid (show sepO p n rows v = some (mulT p (inv p d) xr) by rw [HE.out, HSD.out, if_neg hz, HWM.out])
          have HL24 := Lib.hid (show (mulT p (inv p d) xr).length ≤ 24 by rw [mulT_len]; omega)
          have HAX := Lib.hid (show axpy p (List.replicate n 0) (inv p d) xr = mulT p (inv p d) xr by rw [← axpy_mulT, HXL.out])
          have hq : (d != 0) = true := by simp [hz]
          have hib := inv_bd h1 d
          have HX3 := Lib.hid (HX2.out.below HB3.out HX2.out.lt)
          obtain ⟨hx0, hx1, hxf0, hxf1, hxs⟩ := HX3.out.two
          clear HSD HWM HE hz
          go_wp2_with fail
          refine (inverseIn_any p d _ h1 h2 hd0 hd1).mono ?_
          rintro e w' ⟨rfl, rfl⟩
          generalize inv p d = iv at HE2 HL24 hib HAX
          obtain ⟨hi0, hi1'⟩ := hib
          go_wp2_with fail
          refine (addToRow_any _ (fun b => b = wr.heap.size) _ _ p iv (List.replicate n 0) xr h1 h2 (owR_at (S := fun b => b = wr.heap.size) rfl (made_ints wr n) (n := n) (c := n) (by rw [List.length_replicate])) ((HRD.out.blocks (w' := wr.alloc _) (fun q hq => blk_alloc_lt _ _ _ (by omega))).mono (fun q hq => by omega)) (by rw [List.length_replicate, HXL.out]) (by rw [List.length_replicate]; omega) (zeros_bd h1 n) HXV.out.2 hi0 hi1').mono ?_
          rintro e w4 ⟨rfl, t4, o4⟩
          rw [HAX.out] at o4
          have HO4 := Lib.hid o4
          have HB4 := Lib.hid (show Below wr.heap.size wr w4 from ((Below.refl _ _).alloc (Nat.le_refl _) _).trans (t4.below (by rw [nblk_alloc]; omega) (fun q hq => by omega)))
          clear t4 o4 hx0 hx1 hxf0 hxf1 hxs
          go_wp2
          go_ret2
          rw [(sep_some HE2.out).1, (sep_some HE2.out).2]
          exact ⟨_, rfl, HB2.out.trans ((HB3.out.trans (HB4.out.mono hs3)).mono hs2), HO4.out.mono (fun q hq _ => by omega), by have := HL24.out; unfold szR; omega⟩
      · have HN := Lib.hid (show sepO p n rows v = none by rw [HE.out]; exact sepF_end (by omega))
        go_wp2
        go_ret2
        rw [(sep_none HN.out).1, (sep_none HN.out).2]
        exact ⟨_, rfl, HB2.out.trans (HB3.out.mono hs2), OwR.nil none 0, by simp [szR]⟩
end Go.Proofs.YtahlicbjbbpihaaDoor
