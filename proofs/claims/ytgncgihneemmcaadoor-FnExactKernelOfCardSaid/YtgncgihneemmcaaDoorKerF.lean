/- KernelOf: both sides. -/
import Derived.Test.YtgncgihneemmcaaDoorNullB
import Derived.Test.YtgncgihneemmcaaDoorSpNull
import Derived.Test.YtgncgihneemmcaaDoorKerM
import Derived.Test.YtgncgihneemmcaaDoorRdCap
import Derived.Test.YtgncgihneemmcaaDoorRdList
import Derived.Test.YtgncgihneemmcaaDoorRetGB
import Derived.Test.YtgncgihneemmcaaDoorMxTurn
import Derived.StillTailTactics
namespace Go.Proofs.YtgncgihneemmcaaDoor
set_option maxRecDepth 100000
open Go Go.RowKit Go.Deep

def kerR (p c : Int) (rows : List (List Int)) : List (List Int) := if isMat p c rows then nullB p (turn rows c.toNat) rows.length else []
theorem ker_no {p c : Int} {rows : List (List Int)} (h : isMat p c rows = false) : kerR p c rows = [] := by simp [kerR, h]
theorem ker_yes {p : Int} {c : Nat} {rows : List (List Int)} (h : isMat p c rows = true) : kerR p c rows = nullB p (turn rows c) rows.length := by simp [kerR, h]
/-- A slice from an index on reads as the rows from there on. -/
theorem RdG.dropA {w : World} {B : Nat} {A : Option Addr} {n c : Nat} {rows : List (List Int)} (h : RdG w B (.slice A n c) rows) {r : Nat} (c2 : Nat) : RdG w B (.slice (A.map (·.add r)) (rows.length - r) c2) (rows.drop r) := by
  obtain ⟨A', c', e, h⟩ := h
  obtain ⟨rfl, rfl, rfl⟩ := sliceEq e
  refine ⟨_, c2, by rw [List.length_drop], fun i hi => ?_⟩
  rw [List.length_drop] at hi
  obtain ⟨b, o, u, rfl, hb, hc, hr⟩ := h (r + i) (by omega)
  refine ⟨b, o + r, u, by simp [Addr.add], hb, by rw [Nat.add_assoc]; exact hc, ?_⟩
  have e2 : (rows.drop r).getD i [] = rows.getD (r + i) [] := by rw [List.getD_eq_getElem?_getD, List.getD_eq_getElem?_getD, List.getElem?_drop]
  rw [e2]
  exact hr
theorem RdG.none {w : World} {B : Nat} {A : Option Addr} {c : Nat} : RdG w B (.slice A 0 c) [] := ⟨A, c, rfl, fun r h => absurd h (Nat.not_lt_zero r)⟩
set_option maxHeartbeats 3200000 in
theorem spec_KernelOf (w : World) (B : Nat) (v : Value) (p c : Int) (rows : List (List Int)) (hv : LfG w B v rows) (hB : B ≤ w.heap.size) (_hs : szG rows ≤ 1048576) :
    Calls Tryd.prog 33 #[.int .i64 p, .agg #[.int .i64 c, v]] w (SRetGB w (kerR p c rows) (isMat p c rows)) := by
  obtain ⟨A, cp, rfl⟩ := hv.len
  have HVB := Lib.hid (show Below w.heap.size w (w.alloc (.cells #[.int .i64 c, .slice A rows.length cp] tM)) from (Below.refl _ _).alloc (Nat.le_refl _) _)
  have HV := Lib.hid (hv.below HVB.out hB)
  have hB0 : B ≤ (w.alloc (.cells #[.int .i64 c, .slice A rows.length cp] tM)).heap.size := Nat.le_trans hB HVB.out.size
  have HX0 := Lib.hid (cellsAt_new w #[.int .i64 c, .slice A rows.length cp] tM)
  have hsz0 : (w.alloc (.cells #[.int .i64 c, .slice A rows.length cp] tM)).heap.size = w.heap.size + 1 := by simp
  clear hv
  cases hm : isMat p c rows with
  | false =>
    have HM := Lib.hid hm
    clear hm
    go_enter Tryd.func33, Tryd.ntmps33
    go_wp2_with fail
    refine (mxGood_any _ B _ p c rows HV.out.1 hB0 HV.out.2.1 HV.out.2.2).mono ?_
    rintro e w1 ⟨rfl, b1⟩
    rw [HM.out]
    have HB1 := Lib.hid (HVB.out.trans (b1.mono HVB.out.size))
    clear b1
    go_wp2
    go_ret2
    rw [ker_no HM.out]
    exact ⟨_, rfl, HB1.out, ⟨none, 0, rfl, Or.inl rfl⟩, by simp [szG, tot]⟩
  | true =>
    obtain ⟨hf, hn24, c', rfl, hc24, hmat⟩ := (isMat_iff _ _ _).1 hm
    have HM := Lib.hid hm
    have HF := Lib.hid hf
    have HMM := Lib.hid hmat
    have HTM := Lib.hid (turn_mat hmat)
    have HSZ := Lib.hid (nullB_sz hf (c := rows.length) (turn rows c') hn24)
    clear hm hf hmat
    go_enter Tryd.func33, Tryd.ntmps33
    go_wp2_with fail
    refine (mxGood_any _ B _ p _ rows HV.out.1 hB0 HV.out.2.1 HV.out.2.2).mono ?_
    rintro e w1 ⟨rfl, b1⟩
    rw [HM.out]
    have HX1 := Lib.hid (HX0.out.below b1 (by rw [nblk_alloc]; omega))
    have HV1 := Lib.hid (HV.out.below b1 hB0)
    have HB1 := Lib.hid (HVB.out.trans (b1.mono HVB.out.size))
    have hs1 : w.heap.size + 1 ≤ w1.heap.size := by have := b1.size; omega
    have hBw1 : B ≤ w1.heap.size := Nat.le_trans hB0 b1.size
    clear b1 hsz0
    obtain ⟨hx0, hx1, hxf0, hxf1, hxs⟩ := HX1.out.two
    have HELD : Hid (∀ w' : World, w'.heap[w.heap.size]? = w1.heap[w.heap.size]? → w'.cell? ⟨w.heap.size, 0, none⟩ = some (.int .i64 c') ∧ w'.cell? ⟨w.heap.size, 1, none⟩ = some (.slice A rows.length cp)) := Lib.hid (fun w' H => ⟨(World.cell?_of_block (w := w1) H).trans hx0, (World.cell?_of_block (w := w1) H).trans hx1⟩)
    have HQ0 : Hid (w1.drew.heap[w.heap.size]? = w1.heap[w.heap.size]?) := Lib.hid rfl
    have HVD := Lib.hid (show LfG w1.drew B (.slice A rows.length cp) rows from HV1.out)
    have hBD : B ≤ w1.drew.heap.size := hBw1
    clear hx0 hx1 hxf0 hxf1 hxs
    have hfld : ∀ (x : Int) (A : Option Addr) (n d : Nat) (w : World), (Instr.field tM (.agg #[.int .i64 x, .slice A n d]) 1).run Tryd.prog w = .ok (.slice A n d) w := fun _ _ _ _ _ => by kernel_rfl
    go_wp2
    go_region_held3 (fun w' => w'.cell? ⟨w.heap.size, 0, none⟩ = some (.int .i64 c') ∧ w'.cell? ⟨w.heap.size, 1, none⟩ = some (.slice A rows.length cp))
      (first | with_reducible exact HELD.out _ HQ0.out | with_reducible exact HELD.out _ HQ2.out | with_reducible exact HELD.out _ HQ3.out)
      (first
        | (go_at_call 74; go_split_ands; refine (mxTurn_any w1.drew B _ c' rows HVD.out.1 hBD (by omega) (by omega) (fun r hr => (HMM.out.row hr).1)).mono ?_; rintro e w2 ⟨v2, rfl, b2, o2⟩; obtain ⟨A2, c2, rfl⟩ := OwG.len o2; have HB2 : Hid (Below w1.heap.size w1 w2) := Lib.hid ((Below.refl _ _).drew.trans b2); have HQ2 : Hid (w2.heap[w.heap.size]? = w1.heap[w.heap.size]?) := Lib.hid (HB2.out.block _ (by omega)); have HO2 := Lib.hid (OwG.readB o2); clear b2 o2)
        | (go_at_call 73; go_split_ands; refine (spNull_any w2 w2.heap.size _ p c' rows.length (turn rows c') HO2.out (Nat.le_refl _) HF.out HTM.out (by omega) (by omega)).mono ?_; rintro e w3 ⟨v3, rfl, b3, o3⟩; obtain ⟨A3, c3, rfl⟩ := OwG.len o3; have HB3 : Hid (Below w1.heap.size w1 w3) := Lib.hid (HB2.out.trans (b3.mono HB2.out.size)); have HQ3 : Hid (w3.heap[w.heap.size]? = w1.heap[w.heap.size]?) := Lib.hid (HB3.out.block _ (by omega)); have HO3 := Lib.hid (OwG.mono (T := fun q => w2.heap.size ≤ q) o3 (fun q hq _ => hq)); have hs2 : w1.heap.size ≤ w2.heap.size := HB2.out.size; clear b3 o3))
    have HBE := Lib.hid (HB1.out.trans (HB3.out.mono HB1.out.size))
    go_wp2
    go_ret2
    rw [ker_yes HM.out]
    exact ⟨_, rfl, HBE.out, HO3.out.mono (fun k hk _ => by omega), HSZ.out⟩
set_option maxHeartbeats 3200000 in
theorem impl_KernelOf (w : World) (B : Nat) (v : Value) (p c : Int) (rows : List (List Int)) (ht : Tab w) (hv : LfG w B v rows) (hB : B ≤ w.heap.size) (_hs : szG rows ≤ 1048576) :
    Calls Tryd.prog 34 #[.int .i64 p, .agg #[.int .i64 c, v]] w (IRetGB w (kerR p c rows) (isMat p c rows)) := by
  obtain ⟨A, cp, rfl⟩ := hv.len
  have HVB := Lib.hid (show Below w.heap.size w (w.alloc (.cells #[.int .i64 c, .slice A rows.length cp] tM)) from (Below.refl _ _).alloc (Nat.le_refl _) _)
  have HV := Lib.hid (hv.below HVB.out hB)
  have hB0 : B ≤ (w.alloc (.cells #[.int .i64 c, .slice A rows.length cp] tM)).heap.size := Nat.le_trans hB HVB.out.size
  have HX0 := Lib.hid (cellsAt_new w #[.int .i64 c, .slice A rows.length cp] tM)
  have hsz0 : (w.alloc (.cells #[.int .i64 c, .slice A rows.length cp] tM)).heap.size = w.heap.size + 1 := by simp
  have HT := Lib.hid (ht.below HVB.out)
  clear hv ht
  cases hm : isMat p c rows with
  | false =>
    have HM := Lib.hid hm
    clear hm
    go_enter Tryd.func34, Tryd.ntmps34
    go_wp2_with fail
    refine (implIsMatrix_any _ B _ p c rows HT.out HV.out.1 hB0 HV.out.2.1 HV.out.2.2).mono ?_
    rintro e w1 ⟨rfl, b1⟩
    rw [HM.out]
    have HB1 := Lib.hid (HVB.out.trans (b1.mono HVB.out.size))
    clear b1
    go_wp2
    go_ret2
    rw [ker_no HM.out]
    exact ⟨_, rfl, HB1.out, ⟨none, 0, rfl, Or.inl rfl⟩, by simp [szG, tot]⟩
  | true =>
    obtain ⟨hf, hn24, c', rfl, hc24, hmat⟩ := (isMat_iff _ _ _).1 hm
    have HM := Lib.hid hm
    have HF := Lib.hid hf
    have HMM := Lib.hid hmat
    have HKE := Lib.hid (kernel_eq hf hmat)
    have HIN := Lib.hid (red_inv hf hmat (idRows_mat (fld_bd hf).1 rows.length) c' (Nat.le_refl c'))
    have HSZ := Lib.hid (nullB_sz hf (c := rows.length) (turn rows c') hn24)
    clear hm hf hmat
    go_enter Tryd.func34, Tryd.ntmps34
    go_wp2_with fail
    refine (implIsMatrix_any _ B _ p _ rows HT.out HV.out.1 hB0 HV.out.2.1 HV.out.2.2).mono ?_
    rintro e w1 ⟨rfl, b1⟩
    rw [HM.out]
    have HX1 := Lib.hid (HX0.out.below b1 (by rw [nblk_alloc]; omega))
    have HV1 := Lib.hid (HV.out.below b1 hB0)
    have HB1 := Lib.hid (HVB.out.trans (b1.mono HVB.out.size))
    have hs1 : w.heap.size + 1 ≤ w1.heap.size := by have := b1.size; omega
    have hBw1 : B ≤ w1.heap.size := Nat.le_trans hB0 b1.size
    clear b1 hsz0
    obtain ⟨hx0, hx1, hxf0, hxf1, hxs⟩ := HX1.out.two
    go_wp2_with fail
    refine (reduceMatrix_ct w1 B _ p rows.length c' rows HV1.out.1 hBw1 HF.out HMM.out (by omega) (by omega)).mono ?_
    rintro e w2 ⟨Aa, ca, At, ct, Al, cl, Sa, St, hct, rfl, b2, hSa, hSt, hSat, oa, ot, ol⟩
    generalize red p rows (idRows rows.length) c' = s at oa ot ol HKE HIN ⊢
    have hrn : s.lead.length ≤ rows.length := HIN.out.rank
    have hrI : (s.lead.length : Int) ≤ (rows.length : Int) := by omega
    have HB2 := Lib.hid b2
    have HX2 := Lib.hid (HX1.out.below b2 hxs)
    have HTL := Lib.hid HIN.out.t.1
    have hs2 : w1.heap.size ≤ w2.heap.size := b2.size
    have HMD := Lib.hid (HIN.out.t.drop s.lead.length)
    have HRT := Lib.hid (show RdG w2 w2.heap.size (.slice (At.map (·.add s.lead.length)) (rows.length - s.lead.length) (ct - s.lead.length)) (s.t.drop s.lead.length) by
      have := (OwG.readB ot).dropA (r := s.lead.length) (ct - s.lead.length)
      rw [HTL.out] at this
      exact this)
    have HBE := Lib.hid (HB1.out.trans (HB2.out.mono HB1.out.size))
    clear b2 oa ot ol hx0 hx1 hxf0 hxf1 hxs hSa hSt hSat
    go_upto_region 4 with fail
    have HY3 := Lib.hid (cellsAt_new w2 #[.int .i64 p, .slice Aa rows.length ca, .slice At rows.length ct, .slice Al s.lead.length cl, .int .i64 s.fac] tRd)
    have HX3 := Lib.hid (HX2.out.alloc (.cells #[.int .i64 p, .slice Aa rows.length ca, .slice At rows.length ct, .slice Al s.lead.length cl, .int .i64 s.fac] tRd))
    have HB3 := Lib.hid (show Below w2.heap.size w2 (w2.alloc (.cells #[.int .i64 p, .slice Aa rows.length ca, .slice At rows.length ct, .slice Al s.lead.length cl, .int .i64 s.fac] tRd)) from (Below.refl _ _).alloc (Nat.le_refl _) _)
    change Code.wp _ _ _ _ (w2.alloc (.cells #[.int .i64 p, .slice Aa rows.length ca, .slice At rows.length ct, .slice Al s.lead.length cl, .int .i64 s.fac] tRd))
    generalize (w2.alloc (.cells #[.int .i64 p, .slice Aa rows.length ca, .slice At rows.length ct, .slice Al s.lead.length cl, .int .i64 s.fac] tRd)) = W3 at HY3 HX3 HB3 ⊢
    obtain ⟨hx0, hx1, hxf0, hxf1, hxs⟩ := HX3.out.two
    obtain ⟨hy0, hy1, hy2, hy3, hy4, hyf, hys⟩ := HY3.out.five
    by_cases hr : ct = s.lead.length
    · subst hr
      have hE : rows.length - s.lead.length = 0 := by have := hct.out; omega
      have HE := Lib.hid hE
      have HD := Lib.hid (show s.t.drop s.lead.length = [] from List.drop_eq_nil_of_le (by rw [HTL.out]; omega))
      clear hE
      go_still_tail 10, (by kernel_rfl)
      change wpList _ _ _ _ _ W3.drew
      rw [HE.out]
      have HR0 := Lib.hid (show RdG W3.drew W3.heap.size (.slice At 0 0) (s.t.drop s.lead.length) by rw [HD.out]; exact RdG.none)
      have HM0 := HMD.out
      have hBE3 : Below w.heap.size w W3 := HBE.out.trans (HB3.out.mono HBE.out.size)
      have HBE3 := Lib.hid hBE3
      clear hBE3
      go_wp2_with fail
      refine (reducedList_any W3.drew W3.heap.size _ p _ rows.length (s.t.drop s.lead.length) HR0.out (Nat.le_refl _) HF.out HM0 (by omega) (by omega)).mono ?_
      rintro e w4 ⟨v4, rfl, b4, o4⟩
      obtain ⟨A4, c4, rfl⟩ := OwG.len o4
      have HB4 := Lib.hid (HBE3.out.drew.trans (b4.mono (Nat.le_trans HBE3.out.size (Nat.le_refl _))))
      have HO4 := Lib.hid (OwG.mono (T := fun q => w.heap.size ≤ q) o4 (fun q hq _ => Nat.le_trans HBE3.out.size hq))
      clear b4 o4 HM0
      go_wp2
      go_ret2
      rw [ker_yes HM.out, ← HKE.out]
      exact ⟨_, rfl, HB4.out, HO4.out, by rw [HKE.out]; exact HSZ.out⟩
    · go_still_tail 10, (by kernel_rfl)
      change wpList _ _ _ _ _ W3.drew
      have HR0 := Lib.hid (show RdG W3.drew w2.heap.size (.slice (At.map (·.add s.lead.length)) (rows.length - s.lead.length) (ct - s.lead.length)) (s.t.drop s.lead.length) from HRT.out.below HB3.out.drew (Nat.le_refl _))
      have HM0 := HMD.out
      have hBE3 : Below w.heap.size w W3 := HBE.out.trans (HB3.out.mono HBE.out.size)
      have HBE3 := Lib.hid hBE3
      have hs3 : w2.heap.size ≤ W3.drew.heap.size := HB3.out.size
      clear hBE3
      go_wp2_with fail
      refine (reducedList_any W3.drew w2.heap.size _ p _ rows.length (s.t.drop s.lead.length) HR0.out hs3 HF.out HM0 (by omega) (by omega)).mono ?_
      rintro e w4 ⟨v4, rfl, b4, o4⟩
      obtain ⟨A4, c4, rfl⟩ := OwG.len o4
      have HB4 := Lib.hid (HBE3.out.drew.trans (b4.mono (Nat.le_trans HBE3.out.size (Nat.le_refl _))))
      have HO4 := Lib.hid (OwG.mono (T := fun q => w.heap.size ≤ q) o4 (fun q hq _ => Nat.le_trans HBE3.out.size hq))
      clear b4 o4 HM0
      go_wp2
      go_ret2
      rw [ker_yes HM.out, ← HKE.out]
      exact ⟨_, rfl, HB4.out, HO4.out, by rw [HKE.out]; exact HSZ.out⟩
end Go.Proofs.YtgncgihneemmcaaDoor
