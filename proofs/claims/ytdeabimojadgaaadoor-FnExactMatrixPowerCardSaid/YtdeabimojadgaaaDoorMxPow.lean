/- Powers of matrices: both sides. -/
import Derived.Test.YtdeabimojadgaaaDoorMxSq
import Derived.Test.YtdeabimojadgaaaDoorMxMul2
import Derived.Test.YtdeabimojadgaaaDoorRetMatrixB
import Derived.Deep.Cut
import Derived.Deep.RegionHeld3
namespace Go.Proofs.YtdeabimojadgaaaDoor
open Go Go.RowKit Go.Deep

/-- acc times the power n of m, with fuel, by squares. -/
def mpowF (p : Int) (c : Nat) : Nat → List (List Int) → List (List Int) → Nat → List (List Int)
  | 0, acc, _, _ => acc
  | f + 1, acc, m, n => if n = 0 then acc else mpowF p c f (if n % 2 = 1 then mmul p c acc m else acc) (mmul p c m m) (n / 2)
theorem mpowF_zero (p : Int) (c f : Nat) (acc m : List (List Int)) : mpowF p c f acc m 0 = acc := by cases f <;> simp [mpowF]
theorem mpowF_succ {p : Int} {c f : Nat} {acc m : List (List Int)} {n : Nat} (hn : 0 < n) : mpowF p c (f + 1) acc m n = mpowF p c f (if n % 2 = 1 then mmul p c acc m else acc) (mmul p c m m) (n / 2) := by
  rw [mpowF, if_neg (by omega)]
theorem mpowF_mat {p : Int} (hp : 2 ≤ p) {c : Nat} : ∀ (f : Nat) (acc m : List (List Int)) (n : Nat), Mat p c c acc → Mat p c c m → Mat p c c (mpowF p c f acc m n)
  | 0, acc, _, _, h, _ => h
  | f + 1, acc, m, n, h, hm => by
    rw [mpowF]
    split
    · exact h
    · have h2 := mmul_mat hp c m m
      rw [hm.1] at h2
      refine mpowF_mat hp f _ _ _ ?_ h2
      split
      · have h3 := mmul_mat hp c acc m
        rw [h.1] at h3
        exact h3
      · exact h
/-- A matrix that is read: it came in, or is the call's own, apart from the box nb. -/
def RO (w : World) (B lo nb : Nat) (v : Value) (rows : List (List Int)) : Prop := RdG w B v rows ∨ OwG w tI tR (fun q => lo ≤ q ∧ q ≠ nb) v rows
theorem RO.rd {w : World} {B lo nb : Nat} {v : Value} {rows : List (List Int)} (h : RO w B lo nb v rows) (hB : B ≤ w.heap.size) : RdG w w.heap.size v rows := by
  rcases h with h | h
  · exact h.mono hB
  · exact h.readB
theorem RO.blocks {w w' : World} {B lo nb : Nat} {v : Value} {rows : List (List Int)} (h : RO w B lo nb v rows) (hB : Below B w w') (hb : ∀ q, lo ≤ q → q ≠ nb → q < w.heap.size → w'.heap[q]? = w.heap[q]?) : RO w' B lo nb v rows := by
  rcases h with h | h
  · exact Or.inl (h.below hB (Nat.le_refl _))
  · exact Or.inr (h.blocks fun q hq hl => hb q hq.1 hq.2 hl)
/-- The loop's state: the boxes of m and of the power, and what they hold. -/
structure PowSt (w wr : World) (B nb : Nat) (c : Int) (va vm : Value) (acc mm : List (List Int)) : Prop where
  bel : Below w.heap.size w wr
  bB : B ≤ w.heap.size
  hi : w.heap.size + 2 ≤ nb
  bm : CellsAt wr w.heap.size tM [.int .i64 c, vm]
  br : CellsAt wr (w.heap.size + 1) tM [.int .i64 0, .slice none 0 0]
  bp : CellsAt wr nb tM [.int .i64 c, va]
  oa : OwG wr tI tR (fun q => w.heap.size + 2 ≤ q ∧ q ≠ nb) va acc
  om : RO wr B (w.heap.size + 2) nb vm mm
theorem PowSt.prod1 {w wr w2 : World} {B nb : Nat} {c : Int} {va vm v2 : Value} {acc mm acc2 : List (List Int)} (h : PowSt w wr B nb c va vm acc mm) (hb : Below wr.heap.size wr w2) (ho : OwG w2 tI tR (fun q => wr.heap.size ≤ q) v2 acc2) :
    PowSt w ((w2.setCell ⟨nb, 0, none⟩ (.int .i64 c)).setCell ⟨nb, 1, none⟩ v2) B nb c v2 vm acc2 mm := by
  have hn := h.bp.lt
  have hw := h.bel.size
  have hi := h.hi
  have hB := h.bB
  refine ⟨((h.bel.trans (hb.mono hw)).setCell (by dsimp only; omega) _).setCell (by dsimp only; omega) _, h.bB, h.hi, ((h.bm.below hb h.bm.lt).setOther (by dsimp only; omega) _).setOther (by dsimp only; omega) _, ((h.br.below hb h.br.lt).setOther (by dsimp only; omega) _).setOther (by dsimp only; omega) _, ((h.bp.below hb h.bp.lt).set 0 _).set 1 _, ?_, ?_⟩
  · refine (ho.blocks (fun q hq _ => ?_)).mono (fun q hq _ => by omega)
    rw [blk_setCell_other _ _ _ _ (by dsimp only; omega), blk_setCell_other _ _ _ _ (by dsimp only; omega)]
  · refine h.om.blocks (((hb.mono (by omega)).setCell (by dsimp only; omega) _).setCell (by dsimp only; omega) _) (fun q h1 h2 hl => ?_)
    rw [blk_setCell_other _ _ _ _ (by dsimp only; omega), blk_setCell_other _ _ _ _ (by dsimp only; omega)]
    exact hb.block q hl
theorem PowSt.prod2 {w wr w2 : World} {B nb : Nat} {c : Int} {va vm v2 : Value} {acc mm mm2 : List (List Int)} (h : PowSt w wr B nb c va vm acc mm) (hb : Below wr.heap.size wr w2) (ho : OwG w2 tI tR (fun q => wr.heap.size ≤ q) v2 mm2) :
    PowSt w ((w2.setCell ⟨w.heap.size, 0, none⟩ (.int .i64 c)).setCell ⟨w.heap.size, 1, none⟩ v2) B nb c va v2 acc mm2 := by
  have hn := h.bp.lt
  have hw := h.bel.size
  have hi := h.hi
  have hB := h.bB
  refine ⟨((h.bel.trans (hb.mono hw)).setCell (by dsimp only; omega) _).setCell (by dsimp only; omega) _, h.bB, h.hi, ((h.bm.below hb h.bm.lt).set 0 _).set 1 _, ((h.br.below hb h.br.lt).setOther (by dsimp only; omega) _).setOther (by dsimp only; omega) _, ((h.bp.below hb h.bp.lt).setOther (by dsimp only; omega) _).setOther (by dsimp only; omega) _, ?_, ?_⟩
  · refine h.oa.blocks (fun q hq hl => ?_)
    rw [blk_setCell_other _ _ _ _ (by dsimp only; omega), blk_setCell_other _ _ _ _ (by dsimp only; omega)]
    exact hb.block q hl
  · refine Or.inr ((ho.blocks (fun q hq _ => ?_)).mono (fun q hq _ => by omega))
    rw [blk_setCell_other _ _ _ _ (by dsimp only; omega), blk_setCell_other _ _ _ _ (by dsimp only; omega)]
set_option maxHeartbeats 1600000 in
set_option maxRecDepth 100000 in
theorem mxPower_any (w : World) (B : Nat) (v : Value) (p : Int) (c n : Nat) (rows : List (List Int)) (hv : RdG w B v rows) (hB : B ≤ w.heap.size) (h1 : 2 ≤ p) (h2 : p ≤ 97) (hc : c ≤ 1000) (hn : n ≤ 1000) (hm : Mat p c c rows) :
    Calls Tryd.prog 60 #[.int .i64 p, .agg #[.int .i64 c, v], .int .i64 n] w (MadeM w c (mpowF p c n (idRows c) rows n)) := by
  obtain ⟨A, cp, rfl⟩ := hv.len
  have HV := Lib.hid hv
  have HB := Lib.hid hB
  have HMM := Lib.hid hm
  have HMI := Lib.hid (idRows_mat h1 c)
  clear hv hB hm
  go_enter Tryd.func60, Tryd.ntmps60
  go_wp2_with fail
  refine (mxId_any _ c (by omega)).mono ?_
  rintro e w1 h
  obtain ⟨A1, c1, rfl, b1, o1⟩ := h.at
  clear h
  obtain ⟨xa, xr, xn⟩ := boxes2 b1 rfl
  have hs1 : w.heap.size + 2 ≤ w1.heap.size := by have := xr.lt; omega
  obtain ⟨nb, hnb⟩ : ∃ nb, nb = w1.heap.size := ⟨_, rfl⟩
  have HST : Hid (PowSt w (w1.alloc (.cells #[.int .i64 c, .slice A1 (idRows c).length c1] tM)) B nb c (.slice A1 (idRows c).length c1) (.slice A rows.length cp) (idRows c) rows) :=
    Lib.hid ⟨xn.alloc (by omega) _, HB.out, by omega, xa.alloc _, xr.alloc _, by subst hnb; exact cellsAt_new _ _ _, (OwG.mono (T := fun q => w.heap.size + 2 ≤ q ∧ q ≠ nb) o1 (fun q hq hl => ⟨by simp at hq; omega, by omega⟩)).blocks (fun q _ hl => blk_alloc_lt _ _ _ hl), Or.inl ((HV.out.below xn HB.out).below ((Below.refl _ w1).alloc (Nat.le_refl _) _) (by have := HB.out; omega))⟩
  clear xa xr xn b1 o1
  go_wp2
  rw [← hnb]
  have HNB := Lib.hid hnb
  clear hnb HNB
  go_loopw [2] (fun i wr => ∃ (f n' : Nat) (va vm : Value) (acc mm : List (List Int)), i = .int .i64 n' ∧ n' ≤ f ∧ n' ≤ 1000 ∧ Hid (mpowF p c f acc mm n' = mpowF p c n (idRows c) rows n) ∧ Hid (Mat p c c acc) ∧ Hid (Mat p c c mm) ∧ Hid (PowSt w wr B nb c va vm acc mm)) (fun i _ => (intOf i).toNat)
  case atStart => exact ⟨n, n, _, _, _, _, rfl, Nat.le_refl _, hn, Lib.hid rfl, HMI, HMM, HST⟩
  case round =>
    obtain ⟨f, n', va, vm, acc, mm, rfl, hnf, hn1000, HF, HA, HM, HS⟩ := hrel
    obtain ⟨Ava, cva, rfl⟩ := OwG.len HS.out.oa
    obtain ⟨Avm, cvm, rfl⟩ : ∃ A c, vm = .slice A mm.length c := by
      rcases HS.out.om with h | h
      · exact RdG.len h
      · exact OwG.len h
    obtain ⟨hm0, hm1, hmf0, hmf1, hms⟩ := HS.out.bm.two
    obtain ⟨hp0, hp1, hpf0, hpf1, hps⟩ := HS.out.bp.two
    by_cases h0 : 0 < n'
    · obtain ⟨f, rfl⟩ : ∃ g, f = g + 1 := ⟨f - 1, by omega⟩
      have HF2 := Lib.hid ((mpowF_succ (p := p) (c := c) (f := f) (acc := acc) (m := mm) h0).symm.trans HF.out)
      have hBr : B ≤ wr.heap.size := Nat.le_trans HS.out.bB HS.out.bel.size
      have HM3 := Lib.hid (show Mat p c c (mmul p c mm mm) by have := mmul_mat h1 c mm mm; rwa [HM.out.1] at this)
      by_cases hodd : n' % 2 = 1
      · have hodd' : (n' : Int) % 2 = 1 := by omega
        rw [if_pos hodd] at HF2
        clear hodd
        go_wp2_with fail
        refine (mxMul_any _ _ _ _ p c c acc mm HS.out.oa.readB (HS.out.om.rd hBr) (Nat.le_refl _) h1 h2 (by omega) (by rw [HA.out.1]; omega) (by rw [HM.out.1]; omega) (fun r hr => ⟨by rw [(HA.out.2 r hr).1, HM.out.1], (HA.out.2 r hr).2⟩) HM.out.2).mono ?_
        rintro e w2 h
        obtain ⟨Aw2, cw2, rfl, bw2, ow2⟩ := h.at
        clear h
        have HS2 := Lib.hid (HS.out.prod1 bw2 ow2)
        have hB2 : B ≤ ((w2.setCell ⟨nb, 0, none⟩ (.int .i64 c)).setCell ⟨nb, 1, none⟩ (.slice Aw2 (mmul p c acc mm).length cw2)).heap.size := by have := bw2.size; simp; omega
        have HA2 := Lib.hid (show Mat p c c (mmul p c acc mm) by have := mmul_mat h1 c acc mm; rwa [HA.out.1] at this)
        have hp0' := (HS.out.bp.below bw2 HS.out.bp.lt).two
        have hm0' := (HS.out.bm.below bw2 HS.out.bm.lt).two
        clear bw2 ow2 hm0 hm1 hmf0 hmf1 hms hp0 hp1 hpf0 hpf1 hps
        obtain ⟨hp0, hp1, hpf0, hpf1, hps⟩ := hp0'
        obtain ⟨hm0, hm1, hmf0, hmf1, hms⟩ := hm0'
        have hne : w.heap.size ≠ nb := by have := HS.out.hi; omega
        go_wp2_with fail
        refine (mxMul_any _ _ _ _ p c c mm mm (HS2.out.om.rd hB2) (HS2.out.om.rd hB2) (Nat.le_refl _) h1 h2 (by omega) (by rw [HM.out.1]; omega) (by rw [HM.out.1]; omega) (fun r hr => ⟨by rw [(HM.out.2 r hr).1, HM.out.1], (HM.out.2 r hr).2⟩) HM.out.2).mono ?_
        rintro e w3 h
        obtain ⟨Aw3, cw3, rfl, bw3, ow3⟩ := h.at
        clear h
        have HS3 := Lib.hid (HS2.out.prod2 bw3 ow3)
        have hm0' := (HS2.out.bm.below bw3 HS2.out.bm.lt).two
        clear bw3 ow3 hm0 hm1 hmf0 hmf1 hms hp0 hp1 hpf0 hpf1 hps
        obtain ⟨hm0, hm1, hmf0, hmf1, hms⟩ := hm0'
        go_wp2
        go_roundw
        case rel => exact ⟨f, n' / 2, _, _, _, _, by go_num, by omega, by omega, HF2, HA2, HM3, HS3⟩
        case measure => simp [intOf]; omega
      · have hodd' : ¬ (n' : Int) % 2 = 1 := by omega
        rw [if_neg hodd] at HF2
        clear hodd
        go_wp2_with fail
        refine (mxMul_any _ _ _ _ p c c mm mm (HS.out.om.rd hBr) (HS.out.om.rd hBr) (Nat.le_refl _) h1 h2 (by omega) (by rw [HM.out.1]; omega) (by rw [HM.out.1]; omega) (fun r hr => ⟨by rw [(HM.out.2 r hr).1, HM.out.1], (HM.out.2 r hr).2⟩) HM.out.2).mono ?_
        rintro e w3 h
        obtain ⟨Aw3, cw3, rfl, bw3, ow3⟩ := h.at
        clear h
        have HS3 := Lib.hid (HS.out.prod2 bw3 ow3)
        have hm0' := (HS.out.bm.below bw3 HS.out.bm.lt).two
        clear bw3 ow3 hm0 hm1 hmf0 hmf1 hms hp0 hp1 hpf0 hpf1 hps
        obtain ⟨hm0, hm1, hmf0, hmf1, hms⟩ := hm0'
        go_wp2
        go_roundw
        case rel => exact ⟨f, n' / 2, _, _, _, _, by go_num, by omega, by omega, HF2, HA, HM3, HS3⟩
        case measure => simp [intOf]; omega
    · obtain rfl : n' = 0 := by omega
      have HE := Lib.hid (show acc = mpowF p c n (idRows c) rows n by rw [← HF.out, mpowF_zero])
      have HLN := Lib.hid (show acc.length = c from HA.out.1)
      obtain ⟨hr0, hr1, hrf0, hrf1, hrs⟩ := HS.out.br.two
      go_wp2
      refine bodyPost_ret (v := .agg #[.int .i64 c, .slice Ava acc.length cva]) (by simp [results, Tryd.results60, go_sem, hr0, hr1]) rfl ?_
      rw [← HE.out]
      refine ⟨_, rfl, (by refine Below.trans HS.out.bel ?_; repeat' (first | exact Below.refl _ _ | apply Below.drew | apply Below.setCell | apply Below.alloc | (simp; done) | omega | (simp; omega))), (HS.out.oa.blocks (fun q h _ => ?_)).mono (fun q h _ => by omega)⟩
      rw [blk_setCell_other _ _ _ _ (by simp; omega), blk_setCell_other _ _ _ _ (by simp; omega)]
theorem cellsAt_of {w : World} {b : Nat} {c : Array Value} {t : TypeId} (h : w.heap[b]? = some (.cells c t (0, 0))) : CellsAt w b t c.toList := ⟨c, h, by simp, fun j _ => by simp⟩
def powOk (p c n : Int) (rows : List (List Int)) : Bool := isSq p c rows && decide (0 ≤ n) && decide (n ≤ 1000)
def powC (p c n : Int) (rows : List (List Int)) : Int := if powOk p c n rows then c else 0
def powR (p c n : Int) (rows : List (List Int)) : List (List Int) := if powOk p c n rows then mpowF p c.toNat n.toNat (idRows c.toNat) rows n.toNat else []
theorem powR_sz {p : Int} (hp : 2 ≤ p) {c n : Nat} {rows : List (List Int)} (hc : c ≤ 24) (h : Mat p c c rows) : szG (mpowF p c n (idRows c) rows n) ≤ 1099511627776 := by
  have h2 := mpowF_mat hp n (idRows c) rows n (idRows_mat hp c) h
  have h3 : tot (mpowF p c n (idRows c) rows n) = c * c := by rw [tot_const (c := c) (fun r hr => (h2.2 r hr).1), h2.1]
  have h4 : c * c ≤ 24 * 24 := Nat.mul_le_mul hc hc
  unfold szG
  rw [h3, h2.1]
  omega
set_option maxHeartbeats 3200000 in
set_option maxRecDepth 100000 in
theorem spec_MatrixPower (w : World) (B : Nat) (v : Value) (p c n : Int) (rows : List (List Int)) (hv : LfG w B v rows) (hB : B ≤ w.heap.size) (hs : szG rows ≤ 1048576) :
    Calls Tryd.prog 25 #[.int .i64 p, .agg #[.int .i64 c, v], .int .i64 n] w (SRetMatrixB w (powC p c n rows) (powR p c n rows) (powOk p c n rows)) := by
  obtain ⟨A, cp, rfl⟩ := hv.len
  have HV := Lib.hid hv
  have HB := Lib.hid hB
  clear hv hB
  cases hq : isSq p c rows with
  | false =>
    have HS := Lib.hid hq
    have hok : powOk p c n rows = false := by simp [powOk, hq]
    have HE0 := Lib.hid (show powC p c n rows = 0 by simp [powC, hok])
    have HE1 := Lib.hid (show powR p c n rows = [] by simp [powR, hok])
    have HE2 := Lib.hid hok
    clear hok
    clear hq
    go_enter Tryd.func25, Tryd.ntmps25
    go_wp2_with fail
    refine (mxSquare_any _ B _ p _ rows (HV.out.below (B' := w.heap.size) (by repeat' (first | exact Below.refl _ _ | apply Below.drew | apply Below.setCell | apply Below.alloc | (simp; done) | omega | (simp; omega))) HB.out) (by have := HB.out; simp; omega)).mono ?_
    rintro e w1 ⟨rfl, bb⟩
    rw [HS.out]
    obtain ⟨xa, xr, xn⟩ := boxes2 bb rfl
    have HXA := Lib.hid xa
    have HR := Lib.hid xr
    have HBN := Lib.hid xn
    clear xa xr xn bb
    obtain ⟨hax0, hax1, haxf0, haxf1, haxs⟩ := HXA.out.two
    obtain ⟨hrx0, hrx1, hrxf0, hrxf1, hrxs⟩ := HR.out.two
    go_wp2
    refine bodyPost_ret (v := .tuple #[.agg #[.int .i64 0, .slice none 0 0], .bool false]) (by simp [results, Tryd.results25, go_sem, hrx0, hrx1]) rfl ?_
    rw [HE0.out, HE1.out, HE2.out]
    exact ⟨_, rfl, (by refine Below.trans HBN.out ?_; repeat' (first | exact Below.refl _ _ | apply Below.drew | apply Below.setCell | apply Below.alloc | (simp; done) | omega | (simp; omega))), ⟨none, 0, rfl, Or.inl rfl⟩, by simp [szG, tot]⟩
  | true =>
    have HS := Lib.hid hq
    by_cases hn0 : n < 0
    · have hok : powOk p c n rows = false := by unfold powOk; rw [hq]; simp; omega
      have HE0 := Lib.hid (show powC p c n rows = 0 by simp [powC, hok])
      have HE1 := Lib.hid (show powR p c n rows = [] by simp [powR, hok])
      have HE2 := Lib.hid hok
      clear hok
      clear hq
      go_enter Tryd.func25, Tryd.ntmps25
      go_wp2_with fail
      refine (mxSquare_any _ B _ p _ rows (HV.out.below (B' := w.heap.size) (by repeat' (first | exact Below.refl _ _ | apply Below.drew | apply Below.setCell | apply Below.alloc | (simp; done) | omega | (simp; omega))) HB.out) (by have := HB.out; simp; omega)).mono ?_
      rintro e w1 ⟨rfl, bb⟩
      rw [HS.out]
      obtain ⟨xa, xr, xn⟩ := boxes2 bb rfl
      have HXA := Lib.hid xa
      have HR := Lib.hid xr
      have HBN := Lib.hid xn
      clear xa xr xn bb
      obtain ⟨hax0, hax1, haxf0, haxf1, haxs⟩ := HXA.out.two
      obtain ⟨hrx0, hrx1, hrxf0, hrxf1, hrxs⟩ := HR.out.two
      go_wp2_with fail
      refine (l1In_f n 0 1000 _ (by omega)).mono ?_
      rintro e w' ⟨rfl, rfl⟩
      go_wp2
      refine bodyPost_ret (v := .tuple #[.agg #[.int .i64 0, .slice none 0 0], .bool false]) (by simp [results, Tryd.results25, go_sem, hrx0, hrx1]) rfl ?_
      rw [HE0.out, HE1.out, HE2.out]
      exact ⟨_, rfl, (by refine Below.trans HBN.out ?_; repeat' (first | exact Below.refl _ _ | apply Below.drew | apply Below.setCell | apply Below.alloc | (simp; done) | omega | (simp; omega))), ⟨none, 0, rfl, Or.inl rfl⟩, by simp [szG, tot]⟩
    by_cases hn1 : 1000 < n
    · have hok : powOk p c n rows = false := by unfold powOk; rw [hq]; simp; omega
      have HE0 := Lib.hid (show powC p c n rows = 0 by simp [powC, hok])
      have HE1 := Lib.hid (show powR p c n rows = [] by simp [powR, hok])
      have HE2 := Lib.hid hok
      clear hok
      clear hq
      go_enter Tryd.func25, Tryd.ntmps25
      go_wp2_with fail
      refine (mxSquare_any _ B _ p _ rows (HV.out.below (B' := w.heap.size) (by repeat' (first | exact Below.refl _ _ | apply Below.drew | apply Below.setCell | apply Below.alloc | (simp; done) | omega | (simp; omega))) HB.out) (by have := HB.out; simp; omega)).mono ?_
      rintro e w1 ⟨rfl, bb⟩
      rw [HS.out]
      obtain ⟨xa, xr, xn⟩ := boxes2 bb rfl
      have HXA := Lib.hid xa
      have HR := Lib.hid xr
      have HBN := Lib.hid xn
      clear xa xr xn bb
      obtain ⟨hax0, hax1, haxf0, haxf1, haxs⟩ := HXA.out.two
      obtain ⟨hrx0, hrx1, hrxf0, hrxf1, hrxs⟩ := HR.out.two
      go_wp2_with fail
      refine (l1In_f n 0 1000 _ (by omega)).mono ?_
      rintro e w' ⟨rfl, rfl⟩
      go_wp2
      refine bodyPost_ret (v := .tuple #[.agg #[.int .i64 0, .slice none 0 0], .bool false]) (by simp [results, Tryd.results25, go_sem, hrx0, hrx1]) rfl ?_
      rw [HE0.out, HE1.out, HE2.out]
      exact ⟨_, rfl, (by refine Below.trans HBN.out ?_; repeat' (first | exact Below.refl _ _ | apply Below.drew | apply Below.setCell | apply Below.alloc | (simp; done) | omega | (simp; omega))), ⟨none, 0, rfl, Or.inl rfl⟩, by simp [szG, tot]⟩
    have hok : powOk p c n rows = true := by unfold powOk; rw [hq]; simp; omega
    have HE2 := Lib.hid hok
    obtain ⟨hf, k, rfl, hk, hmat⟩ := (isSq_iff _ _ _).1 hq
    obtain ⟨h1, h2⟩ := fld_bd hf
    obtain ⟨n, rfl⟩ : ∃ m : Nat, n = m := ⟨n.toNat, by omega⟩
    have hn : n ≤ 1000 := by omega
    have HE0 := Lib.hid (show powC p k n rows = k by simp [powC, hok])
    have HE1 := Lib.hid (show powR p k n rows = mpowF p k n (idRows k) rows n by simp [powR, hok])
    have HSZ := Lib.hid (powR_sz h1 (n := n) hk hmat)
    have HMM := Lib.hid hmat
    have HMI := Lib.hid (idRows_mat h1 k)
    clear hok hq hf hmat
    go_enter Tryd.func25, Tryd.ntmps25
    go_wp2_with fail
    refine (mxSquare_any _ B _ p _ rows (HV.out.below (B' := w.heap.size) (by repeat' (first | exact Below.refl _ _ | apply Below.drew | apply Below.setCell | apply Below.alloc | (simp; done) | omega | (simp; omega))) HB.out) (by have := HB.out; simp; omega)).mono ?_
    rintro e w1 ⟨rfl, bb⟩
    rw [HS.out]
    obtain ⟨xa, xr, xn⟩ := boxes2 bb rfl
    have HXA := Lib.hid xa
    have HR := Lib.hid xr
    have HBN := Lib.hid xn
    clear xa xr xn bb
    obtain ⟨hax0, hax1, haxf0, haxf1, haxs⟩ := HXA.out.two
    obtain ⟨hrx0, hrx1, hrxf0, hrxf1, hrxs⟩ := HR.out.two
    go_wp2_with fail
    refine (l1In_t n 0 1000 _ (by omega) (by omega)).mono ?_
    rintro e w' ⟨rfl, rfl⟩
    go_wp2_with fail
    have hsz := HBN.out.size
    refine (mxPower_any _ B _ p k n rows ((HV.out.below HBN.out HB.out).below (B' := w1.heap.size) (by repeat' (first | exact Below.refl _ _ | apply Below.drew | apply Below.setCell | apply Below.alloc | (simp; done) | omega | (simp; omega))) (by have := HB.out; omega)).1 (by have := HB.out; (try simp); omega) h1 h2 (by omega) hn HMM.out).mono ?_
    rintro e w2 h
    obtain ⟨Am, cm, rfl, hb, ho⟩ := h.at
    clear h
    replace HR := Lib.hid (HR.out.below hb hrxs)
    have HB3 := Lib.hid (HBN.out.trans (hb.mono HBN.out.size))
    have HO := Lib.hid ho
    have hsz3 := hb.size
    clear hb ho hax0 hax1 haxf0 haxf1 haxs hrx0 hrx1 hrxf0 hrxf1
    obtain ⟨hrx0, hrx1, hrxf0, hrxf1, -⟩ := HR.out.two
    go_wp2
    refine bodyPost_ret (v := .tuple #[.agg #[.int .i64 k, .slice Am (mpowF p k n (idRows k) rows n).length cm], .bool true]) (by simp [results, Tryd.results25, go_sem, hrx0, hrx1]) rfl ?_
    rw [HE0.out, HE1.out, HE2.out]
    refine ⟨_, rfl, (by refine Below.trans HB3.out ?_; repeat' (first | exact Below.refl _ _ | apply Below.drew | apply Below.setCell | apply Below.alloc | (simp; done) | omega | (simp; omega))), (HO.out.blocks (fun q h _ => ?_)).mono (fun q h _ => by omega), HSZ.out⟩
    rw [blk_setCell_other _ _ _ _ (by simp; omega), blk_setCell_other _ _ _ _ (by simp; omega)]
set_option maxHeartbeats 3200000 in
set_option maxRecDepth 100000 in
theorem impl_MatrixPower (w : World) (B : Nat) (v : Value) (p c n : Int) (rows : List (List Int)) (ht : Tab w) (hv : LfG w B v rows) (hB : B ≤ w.heap.size) (hs : szG rows ≤ 1048576) :
    Calls Tryd.prog 26 #[.int .i64 p, .agg #[.int .i64 c, v], .int .i64 n] w (IRetMatrixB w (powC p c n rows) (powR p c n rows) (powOk p c n rows)) := by
  obtain ⟨A, cp, rfl⟩ := hv.len
  have HV := Lib.hid hv
  have HB := Lib.hid hB
  clear hv hB
  have HT := Lib.hid ht
  clear ht
  cases hq : isSq p c rows with
  | false =>
    have HS := Lib.hid hq
    have hok : powOk p c n rows = false := by simp [powOk, hq]
    have HE0 := Lib.hid (show powC p c n rows = 0 by simp [powC, hok])
    have HE1 := Lib.hid (show powR p c n rows = [] by simp [powR, hok])
    have HE2 := Lib.hid hok
    clear hok
    clear hq
    go_enter Tryd.func26, Tryd.ntmps26
    go_wp2_with fail
    refine (isSquareMatrix_any _ B _ p _ rows (HT.out.below (by repeat' (first | exact Below.refl _ _ | apply Below.drew | apply Below.setCell | apply Below.alloc | (simp; done) | omega | (simp; omega)))) (HV.out.below (B' := w.heap.size) (by repeat' (first | exact Below.refl _ _ | apply Below.drew | apply Below.setCell | apply Below.alloc | (simp; done) | omega | (simp; omega))) HB.out) (by have := HB.out; simp; omega)).mono ?_
    rintro e w1 ⟨rfl, bb⟩
    rw [HS.out]
    obtain ⟨xa, xr, xn⟩ := boxes2 bb rfl
    have HXA := Lib.hid xa
    have HR := Lib.hid xr
    have HBN := Lib.hid xn
    clear xa xr xn bb
    obtain ⟨hax0, hax1, haxf0, haxf1, haxs⟩ := HXA.out.two
    obtain ⟨hrx0, hrx1, hrxf0, hrxf1, hrxs⟩ := HR.out.two
    go_wp2
    refine bodyPost_ret (v := .tuple #[.agg #[.int .i64 0, .slice none 0 0], .bool false]) (by simp [results, Tryd.results26, go_sem, hrx0, hrx1]) rfl ?_
    rw [HE0.out, HE1.out, HE2.out]
    exact ⟨_, rfl, (by refine Below.trans HBN.out ?_; repeat' (first | exact Below.refl _ _ | apply Below.drew | apply Below.setCell | apply Below.alloc | (simp; done) | omega | (simp; omega))), ⟨none, 0, rfl, Or.inl rfl⟩, by simp [szG, tot]⟩
  | true =>
    have HS := Lib.hid hq
    by_cases hn0 : n < 0
    · have hok : powOk p c n rows = false := by unfold powOk; rw [hq]; simp; omega
      have HE0 := Lib.hid (show powC p c n rows = 0 by simp [powC, hok])
      have HE1 := Lib.hid (show powR p c n rows = [] by simp [powR, hok])
      have HE2 := Lib.hid hok
      clear hok
      clear hq
      go_enter Tryd.func26, Tryd.ntmps26
      go_wp2_with fail
      refine (isSquareMatrix_any _ B _ p _ rows (HT.out.below (by repeat' (first | exact Below.refl _ _ | apply Below.drew | apply Below.setCell | apply Below.alloc | (simp; done) | omega | (simp; omega)))) (HV.out.below (B' := w.heap.size) (by repeat' (first | exact Below.refl _ _ | apply Below.drew | apply Below.setCell | apply Below.alloc | (simp; done) | omega | (simp; omega))) HB.out) (by have := HB.out; simp; omega)).mono ?_
      rintro e w1 ⟨rfl, bb⟩
      rw [HS.out]
      obtain ⟨xa, xr, xn⟩ := boxes2 bb rfl
      have HXA := Lib.hid xa
      have HR := Lib.hid xr
      have HBN := Lib.hid xn
      clear xa xr xn bb
      obtain ⟨hax0, hax1, haxf0, haxf1, haxs⟩ := HXA.out.two
      obtain ⟨hrx0, hrx1, hrxf0, hrxf1, hrxs⟩ := HR.out.two
      go_wp2
      refine bodyPost_ret (v := .tuple #[.agg #[.int .i64 0, .slice none 0 0], .bool false]) (by simp [results, Tryd.results26, go_sem, hrx0, hrx1]) rfl ?_
      rw [HE0.out, HE1.out, HE2.out]
      exact ⟨_, rfl, (by refine Below.trans HBN.out ?_; repeat' (first | exact Below.refl _ _ | apply Below.drew | apply Below.setCell | apply Below.alloc | (simp; done) | omega | (simp; omega))), ⟨none, 0, rfl, Or.inl rfl⟩, by simp [szG, tot]⟩
    by_cases hn1 : 1000 < n
    · have hok : powOk p c n rows = false := by unfold powOk; rw [hq]; simp; omega
      have HE0 := Lib.hid (show powC p c n rows = 0 by simp [powC, hok])
      have HE1 := Lib.hid (show powR p c n rows = [] by simp [powR, hok])
      have HE2 := Lib.hid hok
      clear hok
      clear hq
      go_enter Tryd.func26, Tryd.ntmps26
      go_wp2_with fail
      refine (isSquareMatrix_any _ B _ p _ rows (HT.out.below (by repeat' (first | exact Below.refl _ _ | apply Below.drew | apply Below.setCell | apply Below.alloc | (simp; done) | omega | (simp; omega)))) (HV.out.below (B' := w.heap.size) (by repeat' (first | exact Below.refl _ _ | apply Below.drew | apply Below.setCell | apply Below.alloc | (simp; done) | omega | (simp; omega))) HB.out) (by have := HB.out; simp; omega)).mono ?_
      rintro e w1 ⟨rfl, bb⟩
      rw [HS.out]
      obtain ⟨xa, xr, xn⟩ := boxes2 bb rfl
      have HXA := Lib.hid xa
      have HR := Lib.hid xr
      have HBN := Lib.hid xn
      clear xa xr xn bb
      obtain ⟨hax0, hax1, haxf0, haxf1, haxs⟩ := HXA.out.two
      obtain ⟨hrx0, hrx1, hrxf0, hrxf1, hrxs⟩ := HR.out.two
      go_wp2
      refine bodyPost_ret (v := .tuple #[.agg #[.int .i64 0, .slice none 0 0], .bool false]) (by simp [results, Tryd.results26, go_sem, hrx0, hrx1]) rfl ?_
      rw [HE0.out, HE1.out, HE2.out]
      exact ⟨_, rfl, (by refine Below.trans HBN.out ?_; repeat' (first | exact Below.refl _ _ | apply Below.drew | apply Below.setCell | apply Below.alloc | (simp; done) | omega | (simp; omega))), ⟨none, 0, rfl, Or.inl rfl⟩, by simp [szG, tot]⟩
    have hok : powOk p c n rows = true := by unfold powOk; rw [hq]; simp; omega
    have HE2 := Lib.hid hok
    obtain ⟨hf, k, rfl, hk, hmat⟩ := (isSq_iff _ _ _).1 hq
    obtain ⟨h1, h2⟩ := fld_bd hf
    obtain ⟨n, rfl⟩ : ∃ m : Nat, n = m := ⟨n.toNat, by omega⟩
    have hn : n ≤ 1000 := by omega
    have HE0 := Lib.hid (show powC p k n rows = k by simp [powC, hok])
    have HE1 := Lib.hid (show powR p k n rows = mpowF p k n (idRows k) rows n by simp [powR, hok])
    have HSZ := Lib.hid (powR_sz h1 (n := n) hk hmat)
    have HMM := Lib.hid hmat
    have HMI := Lib.hid (idRows_mat h1 k)
    clear hok hq hf hmat
    go_enter Tryd.func26, Tryd.ntmps26
    go_wp2_with fail
    refine (isSquareMatrix_any _ B _ p _ rows (HT.out.below (by repeat' (first | exact Below.refl _ _ | apply Below.drew | apply Below.setCell | apply Below.alloc | (simp; done) | omega | (simp; omega)))) (HV.out.below (B' := w.heap.size) (by repeat' (first | exact Below.refl _ _ | apply Below.drew | apply Below.setCell | apply Below.alloc | (simp; done) | omega | (simp; omega))) HB.out) (by have := HB.out; simp; omega)).mono ?_
    rintro e w1 ⟨rfl, bb⟩
    rw [HS.out]
    obtain ⟨xa, xr, xn⟩ := boxes2 bb rfl
    have HXA := Lib.hid xa
    have HR := Lib.hid xr
    have HBN := Lib.hid xn
    clear xa xr xn bb
    obtain ⟨hax0, hax1, haxf0, haxf1, haxs⟩ := HXA.out.two
    obtain ⟨hrx0, hrx1, hrxf0, hrxf1, hrxs⟩ := HR.out.two
    have hsz1 := HBN.out.size
    have hD : Hid (Below w1.heap.size w1 w1.drew) := Lib.hid (Below.refl _ _).drew
    have HELD : Hid (∀ w' : World, Hid (Below w1.heap.size w1 w') → w'.cell? ⟨w.heap.size, 0, none⟩ = some (.int .i64 k) ∧ Hid (Below w1.heap.size w1 w')) := Lib.hid (fun w' H => ⟨(H.out.cell (p := ⟨w.heap.size, 0, none⟩) haxs).trans hax0, H⟩)
    go_upto_region 3 with fail
    go_cut [8] from 9 (fun s8 wc => ∃ (nb : Nat) (A1 : Option Addr) (c1 : Nat), s8 = .pointer (some ⟨nb, 0, none⟩) ∧ Hid (PowSt w wc B nb k (.slice A1 (idRows k).length c1) (.slice A rows.length cp) (idRows k) rows))
    case first =>
      go_region_held3 (fun w' => w'.cell? ⟨w.heap.size, 0, none⟩ = some (.int .i64 k) ∧ Hid (Below w1.heap.size w1 w'))
        (exact HELD.out _ (by first | assumption | (refine Lib.hid ?_; repeat' (first | exact Below.refl _ _ | exact Hid.out (by assumption) | apply Below.drew | apply Below.setCell | apply Below.alloc | (simp; done) | omega | (simp; omega)))))
        (first
          | (go_at_call 62; go_split_ands; refine (identityRows_any _ k (by omega)).mono ?_; rintro e w2 ⟨v2, rfl, b, o⟩; obtain ⟨A1, c1, rfl⟩ := o.len; have hstep : Below w1.heap.size w1 w2 := (Hid.out (by assumption : Hid (Below w1.heap.size w1 _))).trans (b.mono (Hid.out (by assumption : Hid (Below w1.heap.size w1 _))).size); have HZZ := Lib.hid hstep; have hzz : w1.heap.size ≤ w2.heap.size := hstep.size; (try ((first | have hbx := box_behind b | have hbx := box_behind' b); change w2.heap[w1.heap.size]? = some (.cells #[.int .i64 0, .slice none 0 0] tM (0, 0)) at hbx; have hbl : w1.heap.size < w2.heap.size := (Array.getElem?_eq_some_iff.1 hbx).1; have hbc0 : w2.cell? ⟨w1.heap.size, 0, none⟩ = some (.int .i64 0) := box_cell hbx 0; have hbc1 : w2.cell? ⟨w1.heap.size, 1, none⟩ = some (.slice none 0 0) := box_cell hbx 1; have hbf := box_free hbx))))
      all_goals go_wp2_with fail
      all_goals go_meet
      all_goals
        have hxa := HXA.out.below hstep haxs
        have hxr := HR.out.below hstep hrxs
        have hbn := HBN.out.trans (hstep.mono HBN.out.size)
        have hrd := (HV.out.below HBN.out HB.out).1.below hstep (by have := HB.out; omega)
        have hBB := HB.out
      all_goals first
        | exact ⟨w2.heap.size, A1, c1, rfl, Lib.hid ⟨hbn.alloc (by omega) _, HB.out, by omega, hxa.alloc _, hxr.alloc _, cellsAt_new' _ _ _ _ _ rfl rfl, (OwG.mono (T := fun q => w.heap.size + 2 ≤ q ∧ q ≠ w2.heap.size) o (fun q hq hl => ⟨by (try simp at hq); omega, by omega⟩)).blocks (fun q _ hl => blk_alloc_lt _ _ _ hl), Or.inl (hrd.below ((Below.refl _ w2).alloc (Nat.le_refl _) _) (by omega))⟩⟩
        | exact ⟨w1.heap.size, A1, c1, rfl, Lib.hid ⟨(hbn.setCell (by dsimp only; omega) _).setCell (by dsimp only; omega) _, HB.out, by omega, (hxa.setOther (by dsimp only; omega) _).setOther (by dsimp only; omega) _, (hxr.setOther (by dsimp only; omega) _).setOther (by dsimp only; omega) _, ((cellsAt_of hbx).set 0 _).set 1 _, (OwG.mono (T := fun q => w.heap.size + 2 ≤ q ∧ q ≠ w1.heap.size) o (fun q hq hl => ⟨by (try simp at hq); omega, by (try simp at hq); omega⟩)).blocks (fun q hq hl => by rw [blk_setCell_other _ _ _ _ (by dsimp only; omega), blk_setCell_other _ _ _ _ (by dsimp only; omega)]), Or.inl (hrd.below (((Below.refl w.heap.size w2).setCell (by dsimp only; omega) _).setCell (by dsimp only; omega) _) (by omega))⟩⟩
    obtain ⟨nb, A1, c1, rfl, HST⟩ := hcut
    clear hax0 hax1 haxf0 haxf1 haxs hrx0 hrx1 hrxf0 hrxf1 hrxs hD HELD
    go_wp2
    go_loopw [2] (fun i wr => ∃ (f n' : Nat) (va vm : Value) (acc mm : List (List Int)), i = .int .i64 n' ∧ n' ≤ f ∧ n' ≤ 1000 ∧ Hid (mpowF p k f acc mm n' = mpowF p k n (idRows k) rows n) ∧ Hid (Mat p k k acc) ∧ Hid (Mat p k k mm) ∧ Hid (PowSt w wr B nb k va vm acc mm)) (fun i _ => (intOf i).toNat)
    case atStart => exact ⟨n, n, _, _, _, _, rfl, Nat.le_refl _, hn, Lib.hid rfl, HMI, HMM, HST⟩
    case round =>
      obtain ⟨f, n', va, vm, acc, mm, rfl, hnf, hn1000, HF, HA, HM, HS⟩ := hrel
      obtain ⟨Ava, cva, rfl⟩ := OwG.len HS.out.oa
      obtain ⟨Avm, cvm, rfl⟩ : ∃ A c, vm = .slice A mm.length c := by
        rcases HS.out.om with h | h
        · exact RdG.len h
        · exact OwG.len h
      obtain ⟨hm0, hm1, hmf0, hmf1, hms⟩ := HS.out.bm.two
      obtain ⟨hp0, hp1, hpf0, hpf1, hps⟩ := HS.out.bp.two
      by_cases h0 : 0 < n'
      · obtain ⟨f, rfl⟩ : ∃ g, f = g + 1 := ⟨f - 1, by omega⟩
        have HF2 := Lib.hid ((mpowF_succ (p := p) (c := k) (f := f) (acc := acc) (m := mm) h0).symm.trans HF.out)
        have hBr : B ≤ wr.heap.size := Nat.le_trans HS.out.bB HS.out.bel.size
        have HM3 := Lib.hid (show Mat p k k (mmul p k mm mm) by have := mmul_mat h1 k mm mm; rwa [HM.out.1] at this)
        by_cases hodd : n' % 2 = 1
        · have hodd' : (n' : Int) % 2 = 1 := by omega
          rw [if_pos hodd] at HF2
          clear hodd
          go_wp2_with fail
          refine (productOf_any _ _ _ _ p k k acc mm HS.out.oa.readB (HS.out.om.rd hBr) (Nat.le_refl _) h1 h2 (by omega) (by rw [HA.out.1]; omega) (by rw [HM.out.1]; omega) (fun r hr => ⟨by rw [(HA.out.2 r hr).1, HM.out.1], (HA.out.2 r hr).2⟩) HM.out.2).mono ?_
          rintro e w2 h
          obtain ⟨Aw2, cw2, rfl, bw2, ow2⟩ := h.at
          clear h
          have HS2 := Lib.hid (HS.out.prod1 bw2 ow2)
          have hB2 : B ≤ ((w2.setCell ⟨nb, 0, none⟩ (.int .i64 k)).setCell ⟨nb, 1, none⟩ (.slice Aw2 (mmul p k acc mm).length cw2)).heap.size := by have := bw2.size; simp; omega
          have HA2 := Lib.hid (show Mat p k k (mmul p k acc mm) by have := mmul_mat h1 k acc mm; rwa [HA.out.1] at this)
          have hp0' := (HS.out.bp.below bw2 HS.out.bp.lt).two
          have hm0' := (HS.out.bm.below bw2 HS.out.bm.lt).two
          clear bw2 ow2 hm0 hm1 hmf0 hmf1 hms hp0 hp1 hpf0 hpf1 hps
          obtain ⟨hp0, hp1, hpf0, hpf1, hps⟩ := hp0'
          obtain ⟨hm0, hm1, hmf0, hmf1, hms⟩ := hm0'
          have hne : w.heap.size ≠ nb := by have := HS.out.hi; omega
          go_wp2_with fail
          refine (productOf_any _ _ _ _ p k k mm mm (HS2.out.om.rd hB2) (HS2.out.om.rd hB2) (Nat.le_refl _) h1 h2 (by omega) (by rw [HM.out.1]; omega) (by rw [HM.out.1]; omega) (fun r hr => ⟨by rw [(HM.out.2 r hr).1, HM.out.1], (HM.out.2 r hr).2⟩) HM.out.2).mono ?_
          rintro e w3 h
          obtain ⟨Aw3, cw3, rfl, bw3, ow3⟩ := h.at
          clear h
          have HS3 := Lib.hid (HS2.out.prod2 bw3 ow3)
          have hm0' := (HS2.out.bm.below bw3 HS2.out.bm.lt).two
          clear bw3 ow3 hm0 hm1 hmf0 hmf1 hms hp0 hp1 hpf0 hpf1 hps
          obtain ⟨hm0, hm1, hmf0, hmf1, hms⟩ := hm0'
          go_wp2
          go_roundw
          case rel => exact ⟨f, n' / 2, _, _, _, _, by go_num, by omega, by omega, HF2, HA2, HM3, HS3⟩
          case measure => simp [intOf]; omega
        · have hodd' : ¬ (n' : Int) % 2 = 1 := by omega
          rw [if_neg hodd] at HF2
          clear hodd
          go_wp2_with fail
          refine (productOf_any _ _ _ _ p k k mm mm (HS.out.om.rd hBr) (HS.out.om.rd hBr) (Nat.le_refl _) h1 h2 (by omega) (by rw [HM.out.1]; omega) (by rw [HM.out.1]; omega) (fun r hr => ⟨by rw [(HM.out.2 r hr).1, HM.out.1], (HM.out.2 r hr).2⟩) HM.out.2).mono ?_
          rintro e w3 h
          obtain ⟨Aw3, cw3, rfl, bw3, ow3⟩ := h.at
          clear h
          have HS3 := Lib.hid (HS.out.prod2 bw3 ow3)
          have hm0' := (HS.out.bm.below bw3 HS.out.bm.lt).two
          clear bw3 ow3 hm0 hm1 hmf0 hmf1 hms hp0 hp1 hpf0 hpf1 hps
          obtain ⟨hm0, hm1, hmf0, hmf1, hms⟩ := hm0'
          go_wp2
          go_roundw
          case rel => exact ⟨f, n' / 2, _, _, _, _, by go_num, by omega, by omega, HF2, HA, HM3, HS3⟩
          case measure => simp [intOf]; omega
      · obtain rfl : n' = 0 := by omega
        have HE := Lib.hid (show acc = mpowF p k n (idRows k) rows n by rw [← HF.out, mpowF_zero])
        have HLN := Lib.hid (show acc.length = k from HA.out.1)
        obtain ⟨hr0, hr1, hrf0, hrf1, hrs⟩ := HS.out.br.two
        go_wp2
        refine bodyPost_ret (v := .tuple #[.agg #[.int .i64 k, .slice Ava acc.length cva], .bool true]) (by simp [results, Tryd.results26, go_sem, hr0, hr1]) rfl ?_
        rw [HE0.out, HE1.out, HE2.out, ← HE.out]
        refine ⟨_, rfl, (by refine Below.trans HS.out.bel ?_; repeat' (first | exact Below.refl _ _ | apply Below.drew | apply Below.setCell | apply Below.alloc | (simp; done) | omega | (simp; omega))), (HS.out.oa.blocks (fun q h _ => ?_)).mono (fun q h _ => by omega), by rw [HE.out]; exact HSZ.out⟩
        rw [blk_setCell_other _ _ _ _ (by simp; omega), blk_setCell_other _ _ _ _ (by simp; omega)]
end Go.Proofs.YtdeabimojadgaaaDoor
