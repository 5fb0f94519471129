/- The program's reduction of one column, whole. -/
import Derived.Test.YtahlicbjbbpihaaDoorRdCol
import Derived.OwnWalk
namespace Go.Proofs.YtahlicbjbbpihaaDoor
set_option maxRecDepth 100000
open Go Go.RowKit Go.Deep

/-- The first k rows cleaned. -/
def elimS (p : Int) (r col : Nat) (b rows : List (List Int)) (k : Nat) : List (List Int) := upd (elimRow p r col b (rows.getD r [])) k rows
theorem elimS_len (p : Int) (r col : Nat) (b rows : List (List Int)) (k : Nat) : (elimS p r col b rows k).length = rows.length := upd_len _ _ _
theorem elimS_get {p : Int} {r col : Nat} {b rows : List (List Int)} {k m : Nat} (h : k ≤ m) : (elimS p r col b rows k).getD m [] = rows.getD m [] := upd_getD _ h _ _
theorem elimS_piv {p : Int} {r col : Nat} {b rows : List (List Int)} {k : Nat} (hr : r < rows.length) : (elimS p r col b rows k).getD r [] = rows.getD r [] := by
  by_cases h : k ≤ r
  · exact elimS_get h
  · unfold elimS
    rw [upd_done _ (by omega) _ hr]
    unfold elimRow
    rw [if_pos rfl]
theorem elimS_end {p : Int} {r col : Nat} {b rows : List (List Int)} {k : Nat} (h : rows.length ≤ k) : elimS p r col b rows k = elim p r col b rows := upd_all _ h
theorem elimS_skip {p : Int} {r col : Nat} {b rows : List (List Int)} (hr : r < rows.length) : elimS p r col b rows (r + 1) = elimS p r col b rows r := by
  unfold elimS
  rw [← upd_step _ hr []]
  have e : elimRow p r col b (rows.getD r []) r (rows.getD r []) = rows.getD r [] := by unfold elimRow; rw [if_pos rfl]
  rw [e]
  apply List.ext_getElem?
  intro i
  rw [List.getElem?_set, upd_len]
  by_cases c : r = i
  · subst c
    rw [if_pos rfl, if_pos hr, upd_same? _ (Nat.le_refl r), List.getD_eq_getElem?_getD, List.getElem?_eq_getElem hr]
    rfl
  · rw [if_neg c]
theorem elimS_next {p : Int} {r col : Nat} {b rows : List (List Int)} {k : Nat} (hk : k < rows.length) (hr : r < rows.length) (hkr : k ≠ r) :
    (elimS p r col b rows k).set k (axpy p ((elimS p r col b rows k).getD k []) ((p - at2 b k col) % p) ((elimS p r col b rows k).getD r [])) = elimS p r col b rows (k + 1) := by
  rw [elimS_get (Nat.le_refl k), elimS_piv hr]
  unfold elimS
  rw [← upd_step _ hk []]
  congr 1
  unfold elimRow
  rw [if_neg hkr]
theorem elimS_mat {p : Int} (hp : 2 ≤ p) {n c : Nat} {rows : List (List Int)} (h : Mat p n c rows) (r col : Nat) (b : List (List Int)) (k : Nat) : Mat p n c (elimS p r col b rows k) := by
  refine Mat.intro (by rw [elimS_len, h.1]) fun i hi => ?_
  by_cases hk : k ≤ i
  · rw [elimS_get hk]
    exact ⟨(h.row hi).1, fun j hj => h.el hi hj⟩
  · unfold elimS
    rw [upd_done _ (by omega) _ (by rw [h.1]; exact hi)]
    unfold elimRow
    split
    · exact ⟨(h.row hi).1, fun j hj => h.el hi hj⟩
    · refine ⟨by rw [axpy_len, (h.row hi).1], fun j hj => ?_⟩
      exact axpy_bd hp _ (getD_mem' (by rw [axpy_len, (h.row hi).1]; exact hj) 0)
theorem leads_snoc (l : List Nat) (c : Nat) : leads (l ++ [c]) = leads l ++ [Value.int .i64 (c : Nat)] := by simp [leads]
/-- One leading column more. -/
theorem RSt.push {w w1 : World} {base : Nat} {Sa St : Nat → Prop} {rb : Nat} {p : Int} {va vt vl : Value} {a t : List (List Int)} {lead : List Nat} {fac : Int} {col : Nat} {ob : Obj} (h : RSt w base Sa St rb p va vt vl a t lead fac) (hbw : base ≤ w.heap.size) {g cap : Nat}
    (hown : w1.ownsRow 0 tI 1 (.slice (some ⟨g, 0, none⟩) (lead.length + 1) cap) (lead.length + 1) (leads lead ++ [Value.int .i64 (col : Nat)])) (hgrow : (w.alloc ob).grownBy w1 vl.ownBlock) (hat : vl.ownBlock = some g ∨ g = w.heap.size + 1) :
    RSt (w1.setCell ⟨rb, 3, none⟩ (.slice (some ⟨g, 0, none⟩) (lead.length + 1) cap)) base Sa St rb p va vt (.slice (some ⟨g, 0, none⟩) (lead.length + 1) cap) a t (lead ++ [col]) fac ∧
    Touch (fun k => base ≤ k ∨ St k) w (w1.setCell ⟨rb, 3, none⟩ (.slice (some ⟨g, 0, none⟩) (lead.length + 1) cap)) := by
  have hsz : w.heap.size + 1 ≤ w1.heap.size := by have := hgrow.size; simpa using this
  have hk1 : ∀ k, k < w.heap.size → vl.ownBlock ≠ some k → w1.heap[k]? = w.heap[k]? := fun k hk hn => (hgrow.block k (by rw [nblk_alloc]; omega) (fun e => hn e.symm)).trans (blk_alloc_lt _ _ _ hk)
  have hrl := h.box.lt
  have hb : ∀ k, k < w.heap.size → k ≠ rb → vl.ownBlock ≠ some k → (w1.setCell ⟨rb, 3, none⟩ (.slice (some ⟨g, 0, none⟩) (lead.length + 1) cap)).heap[k]? = w.heap[k]? := fun k hk hkr hn => (blk_setCell_other _ _ _ _ (by dsimp only; exact hkr)).trans (hk1 k hk hn)
  have hgr : g ≠ rb := by
    rcases hat with h1 | h1
    · exact (h.ld g h1).2.1
    · omega
  refine ⟨⟨?_, h.a.blocks (fun k hk hl => hb k hl (h.sa k hk).2.1 (fun e => (h.ld k e).2.2.1 hk)), h.t.blocks (fun k hk hl => hb k hl (h.st k hk).1 (fun e => (h.ld k e).2.2.2 hk)), ?_, fun k hk => ?_, h.hi, fun k hk => ⟨(h.sa k hk).1, (h.sa k hk).2.1, (h.sa k hk).2.2.1, by rw [nblk_setCell]; have := (h.sa k hk).2.2.2; omega⟩, fun k hk => ⟨(h.st k hk).1, by rw [nblk_setCell]; have := (h.st k hk).2; omega⟩⟩, ?_⟩
  · exact (h.box.of_block (hk1 rb hrl (fun e => (h.ld rb e).2.1 rfl))).set 3 _
  · rw [leads_snoc, List.length_append, List.length_singleton]
    exact ownsRow_of_block hown fun q hq _ => blk_setCell_other _ _ _ _ (by dsimp only; simp only [Value.ownBlock, Option.some.injEq] at hq; omega)
  · simp only [Value.ownBlock, Option.some.injEq] at hk
    subst hk
    rcases hat with h1 | h1
    · exact h.ld g h1
    · exact ⟨by omega, hgr, fun hk => by have := (h.sa g hk).2.2.2; omega, fun hk => by have := (h.st g hk).2; omega⟩
  · refine ⟨hgrow.os, hgrow.tape, hgrow.output, by rw [nblk_setCell]; omega, fun k hk hn => hb k hk (fun e => hn (Or.inl (by rw [e]; exact h.hi))) (fun e => hn (Or.inl (h.ld k e).1))⟩
set_option maxHeartbeats 6400000 in
set_option maxRecDepth 100000 in
theorem reduceColumn_any (w : World) (base : Nat) (Sa St : Nat → Prop) (rb : Nat) (p : Int) (va vt vl : Value) (n c wd col : Nat) (s : Red) (h : RSt w base Sa St rb p va vt vl s.a s.t s.lead s.fac) (hI : RInv p n c wd col s) (hf : fld p = true) (hcol : col < c) (hbw : base ≤ w.heap.size)
    (hn : n ≤ 1000000) (hc : c ≤ 1000000) (hw : wd ≤ 1000000) :
    Calls Tryd.prog 139 #[.pointer (some ⟨rb, 0, none⟩), .int .i64 col] w fun e w' => e = .returned (.tuple #[]) ∧ Touch (fun k => base ≤ k ∨ St k) w w' ∧ ∃ vl', RSt w' base Sa St rb p va vt vl' (stepCol p col s).a (stepCol p col s).t (stepCol p col s).lead (stepCol p col s).fac := by
  obtain ⟨i0, hi0, hz0, hz1, hz2⟩ := info_parts infoI
  obtain ⟨h1, h2⟩ := fld_bd hf
  have HI := Lib.hid hI
  have HS := Lib.hid h
  have HF := Lib.hid hf
  have hlen := hI.a.1
  have hlent := hI.t.1
  have hrk := hI.rank
  obtain ⟨Aa, ca, rfl⟩ := OwG.len h.a
  have hll : ∃ Al cl, vl = .slice Al s.lead.length cl := by
    rcases h.l.2 with ⟨e, h0⟩ | ⟨g, cap, cur, e, _⟩
    · exact ⟨none, 0, by rw [e, h0]⟩
    · exact ⟨_, cap, e⟩
  obtain ⟨Al, cl, rfl⟩ := hll
  have HLN := Lib.hid hlen
  have HLT := Lib.hid hlent
  rw [hlen] at h HS ⊢
  clear hI hf hlen hlent
  obtain ⟨hr0, hr1, hr2, hr3, hr4, hrf, hrs⟩ := h.box.five
  clear h
  have hln : s.lead.length ≤ 1000000 := by omega
  go_enter Tryd.func139, Tryd.ntmps139
  go_wp2
  go_loop [5] (fun i => ∃ k : Nat, s.lead.length ≤ k ∧ k ≤ n ∧ i = .int .i64 k ∧ Hid (∀ j, s.lead.length ≤ j → j < k → at2 s.a j col = 0)) (fun i => n - (intOf i).toNat)
  case atStart => exact ⟨s.lead.length, Nat.le_refl _, hrk, rfl, Lib.hid (fun j a b => absurd b (by omega))⟩
  case round =>
    obtain ⟨k, hk1, hk2, rfl, HZ⟩ := hrel
    by_cases hlt : k < n
    · have hltI : (k : Int) < (n : Int) := by omega
      obtain ⟨g, c1, b, c2, e, hg, hgl, hcg, hbS, hbl, -, hcb, hfb, -⟩ := HS.out.a.at (r := k) (j := col) (by rw [HLN.out]; exact hlt) (by rw [(HI.out.a.row hlt).1]; exact hcol)
      rw [HLN.out] at e
      obtain ⟨rfl, -, rfl⟩ := sliceEq e
      rw [(HI.out.a.row hlt).1] at hcg
      have HAT := Lib.hid (show (s.a.getD k []).getD col 0 = at2 s.a k col from rfl)
      rw [HAT.out] at hcb
      have hcolI : (col : Int) < (c : Int) := by omega
      clear e hg hgl hbS hbl hfb
      by_cases hz : at2 s.a k col = 0
      · have HZ2 := Lib.hid hz
        rw [hz] at hcb
        clear hz
        go_wp2
        go_round
        case rel => exact ⟨k + 1, by omega, by omega, by go_num, Lib.hid (fun j a b => by
          by_cases cj : j = k
          · rw [cj]; exact HZ2.out
          · exact HZ.out j a (by omega))⟩
        case measure => simp [intOf]; omega
      · have hnz : (at2 s.a k col == 0) = false := by simp [hz]
        have HPV := Lib.hid (show piv s.a col s.lead.length = k from piv_eq hk1 (by rw [HLN.out]; exact hk2) HZ.out (fun _ => hz))
        have HST := Lib.hid (show stepCol p col s = clean p col (mult p col (exch p k s)) by unfold stepCol; rw [HPV.out, if_pos (by rw [HLN.out]; exact hlt)])
        have HNZ := Lib.hid hz
        have hne : ¬ (k : Int) = (n : Int) := by omega
        have hneb : ((k : Int) == (n : Int)) = false := by simp; omega
        clear hz
        have hrn : s.lead.length < n := by omega
        go_wp2_with fail
        refine (apply_exch w base Sa St rb p (.slice (some ⟨g, 0, none⟩) n ca) vt (.slice Al s.lead.length cl) s.a s.t s.lead s.fac s.lead.length k HS.out h1 h2 (by have := HI.out.fac0; omega) HI.out.fac0.2 (by rw [HLN.out]; exact hrn) (by rw [HLN.out]; exact hlt) (by rw [HLN.out, HLT.out])).mono ?_
        rintro e w2 ⟨rfl, t2, hs2⟩
        have HT2 := Lib.hid t2
        have HI1 := Lib.hid (HI.out.exch h1 hk1 hlt)
        have HX1 := Lib.hid (HI.out.exch_at hk1 hlt)
        have HS1 := Lib.hid (show RSt w2 base Sa St rb p (.slice (some ⟨g, 0, none⟩) n ca) vt (.slice Al s.lead.length cl) (exch p k s).a (exch p k s).t s.lead (exch p k s).fac from hs2)
        have HL1 := Lib.hid (show (exch p k s).lead = s.lead from rfl)
        clear t2 hs2 hr0 hr1 hr2 hr3 hr4 hrf hrs hcg hcb hltI hcolI
        generalize exch p k s = s1 at HI1 HX1 HS1 HL1 HST
        -- the row multiplied
        have hlen1 := HI1.out.a.1
        obtain ⟨g', c1', b', c2', e, -, -, hcg, -, -, -, hcb, -, -⟩ := HS1.out.a.at (r := s.lead.length) (j := col) (by rw [HI1.out.a.1]; exact hrn) (by rw [(HI1.out.a.row hrn).1]; exact hcol)
        rw [hlen1] at e
        obtain ⟨e1, -, -⟩ := sliceEq e
        obtain rfl : g = g' := by injection e1 with e1; injection e1
        rw [(HI1.out.a.row hrn).1] at hcg
        have hat : (s1.a.getD s.lead.length []).getD col 0 = at2 s1.a s.lead.length col := rfl
        rw [hat] at hcb
        have hxb := HI1.out.a.el hrn hcol
        rw [hat] at hxb
        have hnz1 : at2 s1.a s.lead.length col ≠ 0 := by rw [HX1.out]; exact HNZ.out
        obtain ⟨HI2, HI2u⟩ := HI1.out.mult HF.out (show s1.lead.length < n by rw [HL1.out]; exact hrn) hcol (by rw [HL1.out]; exact hnz1)
        replace HI2 := Lib.hid HI2
        have HM2 := Lib.hid (show mult p col s1 = { a := scaleAt p s.lead.length (inv p (at2 s1.a s.lead.length col)) s1.a, t := scaleAt p s.lead.length (inv p (at2 s1.a s.lead.length col)) s1.t, lead := s.lead, det := s1.det * at2 s1.a s.lead.length col % p, fac := s1.fac * inv p (at2 s1.a s.lead.length col) % p } by unfold mult; rw [HL1.out])
        have hIb := inv_bd h1 (at2 s1.a s.lead.length col)
        clear hlen1 e e1 hat hnz1 HI2u
        generalize hxe : at2 s1.a s.lead.length col = x at hcb hxb HM2 hIb
        obtain ⟨hx0, hx1⟩ := hxb
        clear hxe
        obtain ⟨hr0, hr1, hr2, hr3, hr4, hrf, hrs⟩ := HS1.out.box.five
        have hrI : (s.lead.length : Int) < (n : Int) := by omega
        have hcolI : (col : Int) < (c : Int) := by omega
        go_wp2
        go_still_tail 18, (by kernel_rfl)
        still_call ((inverseIn_any p x _ h1 h2 hx0 hx1).mono fun _ _ h => ⟨h.1, h.2.symm⟩)
        repeat still_step
        refine wpStill_nil ?_
        change wpList _ _ _ _ _ w2.drew
        go_wp2_with fail
        refine (apply_mult w2.drew base Sa St rb p (.slice (some ⟨g, 0, none⟩) n ca) vt (.slice Al s.lead.length cl) n c wd s1.a s1.t s.lead s1.fac (inv p x) s.lead.length HS1.out.drew h1 h2 (by have := HI1.out.fac0; omega) HI1.out.fac0.2 hIb.1 hIb.2 hrn HI1.out.a HI1.out.t hn hc hw).mono ?_
        rintro e w3 ⟨rfl, t3, hs3⟩
        have HT3 := Lib.hid (HT2.out.drew.trans t3)
        have HS2 := Lib.hid (show RSt w3 base Sa St rb p (.slice (some ⟨g, 0, none⟩) n ca) vt (.slice Al s.lead.length cl) (mult p col s1).a (mult p col s1).t s.lead (mult p col s1).fac by rw [HM2.out]; exact hs3)
        have HL2 := Lib.hid (show (mult p col s1).lead = s.lead by rw [HM2.out])
        clear t3 hs3 hr0 hr1 hr2 hr3 hr4 hrf hrs hcg hcb hx0 hx1 HM2 hIb
        generalize mult p col s1 = s2 at HI2 HS2 HL2 HST
        obtain ⟨hr0, hr1, hr2, hr3, hr4, hrf, hrs⟩ := HS2.out.box.five
        go_wp2
        clear hr0 hr1 hr2 hr3 hr4 hrf hrs
        go_loopw [72, 6, 7] (fun i _ _ wr => ∃ k' : Nat, k' ≤ n ∧ i = .int .i64 k' ∧ Hid (Touch (fun k => base ≤ k ∨ St k) w wr) ∧ Hid (RSt wr base Sa St rb p (.slice (some ⟨g, 0, none⟩) n ca) vt (.slice Al s.lead.length cl) (elimS p s.lead.length col s2.a s2.a k') (elimS p s.lead.length col s2.a s2.t k') s.lead s2.fac)) (fun i _ _ _ => n - (intOf i).toNat)
        case atStart => exact ⟨0, Nat.zero_le _, rfl, HT3, Lib.hid (by unfold elimS; rw [upd_zero, upd_zero]; exact HS2.out)⟩
        case round =>
          obtain ⟨k', hk', rfl, HT4, HS4⟩ := hrel
          obtain ⟨hr0, hr1, hr2, hr3, hr4, hrf, hrs⟩ := HS4.out.box.five
          by_cases hlt' : k' < n
          · have HMA := Lib.hid (elimS_mat h1 HI2.out.a s.lead.length col s2.a k')
            have HMT := Lib.hid (elimS_mat h1 HI2.out.t s.lead.length col s2.a k')
            obtain ⟨g', c1', b', c2', e, -, -, hcg, -, -, -, hcb, -, -⟩ := HS4.out.a.at (r := k') (j := col) (by rw [HMA.out.1]; exact hlt') (by rw [(HMA.out.row hlt').1]; exact hcol)
            rw [HMA.out.1] at e
            obtain ⟨e1, -, -⟩ := sliceEq e
            obtain rfl : g = g' := by injection e1 with e1; injection e1
            rw [(HMA.out.row hlt').1] at hcg
            have hat : ((elimS p s.lead.length col s2.a s2.a k').getD k' []).getD col 0 = at2 s2.a k' col := by rw [elimS_get (Nat.le_refl k')]; rfl
            rw [hat] at hcb
            have hxb := HI2.out.a.el hlt' hcol
            have hat2 : (s2.a.getD k' []).getD col 0 = at2 s2.a k' col := rfl
            rw [hat2] at hxb
            clear e e1 hat hat2
            have hkI : (k' : Int) < (n : Int) := by omega
            by_cases hkr : k' = s.lead.length
            · have hq : ((k' : Int) != (s.lead.length : Int)) = false := by simp [hkr]
              have HKR := Lib.hid hkr
              clear hkr
              go_wp2
              go_roundw
              case rel => exact ⟨k' + 1, by omega, by go_num, HT4, Lib.hid (by
                have h := HS4.out
                rw [HKR.out] at h ⊢
                rw [elimS_skip (by rw [HI2.out.a.1]; exact hrn), elimS_skip (by rw [HI2.out.t.1]; exact hrn)]
                exact h)⟩
              case measure => simp [intOf]; omega
            · have hq : ((k' : Int) != (s.lead.length : Int)) = true := by simp; omega
              have HKR := Lib.hid hkr
              have HNA := Lib.hid (elimS_next (p := p) (col := col) (b := s2.a) (rows := s2.a) (by rw [HI2.out.a.1]; exact hlt') (by rw [HI2.out.a.1]; exact hrn) hkr)
              have HNT := Lib.hid (elimS_next (p := p) (col := col) (b := s2.a) (rows := s2.t) (by rw [HI2.out.t.1]; exact hlt') (by rw [HI2.out.t.1]; exact hrn) hkr)
              clear hkr
              generalize hxe : at2 s2.a k' col = x at hcb hxb HNA HNT
              obtain ⟨hx0, hx1⟩ := hxb
              clear hxe
              have hp0 : ¬ p = 0 := by omega
              have hwr : IntKind.i64.wrap (p - x) = p - x := Go.IntWalk.i64_in _ ⟨by omega, by omega⟩
              have htm : (p - x).tmod p = (p - x) % p := Int.tmod_eq_emod_of_nonneg (by omega)
              have HFB := Lib.hid (emod_bd h1 (p - x))
              have HNEG := Lib.hid (show -x % p = (p - x) % p by rw [show p - x = -x + p by omega, Int.add_emod_right])
              go_wp2
              go_still_tail 18, (by kernel_rfl)
              change wpList _ _ _ _ _ wr.drew
              go_wp2_with fail
              rw [HNEG.out]
              refine (apply_add wr.drew base Sa St rb p (.slice (some ⟨g, 0, none⟩) n ca) vt (.slice Al s.lead.length cl) n c wd (elimS p s.lead.length col s2.a s2.a k') (elimS p s.lead.length col s2.a s2.t k') s.lead s2.fac ((p - x) % p) k' s.lead.length HS4.out.drew h1 h2 (by have := HI2.out.fac0; omega) HI2.out.fac0.2 HFB.out.1 HFB.out.2 hlt' hrn (fun e => HKR.out e.symm) HMA.out HMT.out hn hc hw).mono ?_
              rintro e w5 ⟨rfl, t5, hs5⟩
              have HT5 := Lib.hid (HT4.out.drew.trans t5)
              have HS5 := Lib.hid hs5
              clear t5 hs5
              go_wp2
              go_roundw
              case rel => exact ⟨k' + 1, by omega, by go_num, HT5, Lib.hid (by
                have h := HS5.out
                rw [HNA.out, HNT.out] at h
                exact h)⟩
              case measure => simp [intOf]; omega
          · have HEA := Lib.hid (elimS_end (p := p) (r := s.lead.length) (col := col) (b := s2.a) (rows := s2.a) (k := k') (by rw [HI2.out.a.1]; omega))
            have HET := Lib.hid (elimS_end (p := p) (r := s.lead.length) (col := col) (b := s2.a) (rows := s2.t) (k := k') (by rw [HI2.out.t.1]; omega))
            have hrw := HS4.out.box.lt
            have hgn : ¬ (k' : Int) < (n : Int) := by omega
            have hll2 : Value.slice Al s.lead.length cl = Value.slice Al s.lead.length cl := rfl
            go_wp2_with (at_builtin; refine wpList_append_lies _ rfl _ _ 33 rfl 0 3 i0 (.int .i64 0) 1 8 Tryd.underlying33 hi0 hz0 hz1 hz2 rfl (by omega) (.slice Al s.lead.length cl) s.lead.length (leads s.lead) rfl (HS4.out.l.alloc _) ⟨wr.heap.size, 0, none⟩ 1 1 [.int .i64 (col : Nat)] rfl rfl (World.news_of_block (cs := #[.int .i64 (col : Nat)]) (t := 3) (fr := (0, 0)) (heap_alloc_new wr _)) (by simp [Value.oneCell']) (by omega) (by unfold maxLen; omega) (by omega) (Nat.zero_le _) (wr.heap.size + 1) (by simp) ?_; intro gg cap w6 hown hgrow hat hlt6; have hc6 : w6.cell? ⟨rb, 3, none⟩ = some (.slice Al s.lead.length cl) := (World.cell?_of_block (w := wr) ((hgrow.block rb (by rw [nblk_alloc]; omega) (fun e => (HS4.out.ld rb e.symm).2.1 rfl)).trans (blk_alloc_lt _ _ _ hrw))).trans hr3; have hf6 : w6.frozen? ⟨rb, 3, none⟩ = false := (World.frozen?_of_block (w := wr) ((hgrow.block rb (by rw [nblk_alloc]; omega) (fun e => (HS4.out.ld rb e.symm).2.1 rfl)).trans (blk_alloc_lt _ _ _ hrw))).trans (hrf 3))
            obtain ⟨hp1, hp2⟩ := HS4.out.push (col := col) (Nat.le_trans hbw HT4.out.size) hown hgrow hat
            have HP1 := Lib.hid hp1
            have HP2 := Lib.hid (HT4.out.trans hp2)
            clear hown hgrow hat hp1 hp2
            go_end0
            refine ⟨rfl, HP2.out, .slice (some ⟨gg, 0, none⟩) (s.lead.length + 1) cap, ?_⟩
            have h := HP1.out
            rw [HEA.out, HET.out] at h
            rw [HST.out]
            unfold clean
            rw [HL2.out]
            exact h
    · obtain rfl : k = n := by omega
      have HPV := Lib.hid (show piv s.a col s.lead.length = k from piv_eq hk1 (by rw [HLN.out]; exact hk2) HZ.out (fun h => absurd h (by rw [HLN.out]; exact hlt)))
      have HST := Lib.hid (show stepCol p col s = s by unfold stepCol; rw [HPV.out, if_neg (by rw [HLN.out]; exact hlt)])
      go_wp2
      refine bodyPost_ret (results_none rfl _ _ _) rfl ?_
      refine ⟨rfl, Touch.refl _ _, .slice Al s.lead.length cl, ?_⟩
      rw [HST.out]
      exact HS.out
end Go.Proofs.YtahlicbjbbpihaaDoor
