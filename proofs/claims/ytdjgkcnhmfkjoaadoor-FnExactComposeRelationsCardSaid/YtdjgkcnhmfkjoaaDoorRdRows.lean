/- The program's reduction, whole. -/
import Derived.Test.YtdjgkcnhmfkjoaaDoorRdA
import Derived.Test.YtdjgkcnhmfkjoaaDoorMem
import Derived.Test.YtdjgkcnhmfkjoaaDoorMxB
namespace Go.Proofs.YtdjgkcnhmfkjoaaDoor
set_option maxRecDepth 100000
open Go Go.RowKit Go.Deep

def ints (l : List Nat) : List Int := l.map fun (n : Nat) => (n : Int)
theorem icells_ints (l : List Nat) : icells (ints l) = leads l := by simp [icells, ints, leads]
theorem ints_len (l : List Nat) : (ints l).length = l.length := by simp [ints]
/-- What the reduction returns: the reduced rows in memory of the call's own, the rows beside written in place. -/
def MadeRd (w : World) (St : Nat → Prop) (p : Int) (vt : Value) (n : Nat) (s : Red) (e : Ending) (w' : World) : Prop :=
  ∃ Aa ca Al cl, e = .returned (.agg #[.int .i64 p, .slice Aa n ca, vt, .slice Al s.lead.length cl, .int .i64 s.fac]) ∧ Touch St w w' ∧ OwG w' tI tR (fun k => w.heap.size ≤ k) (.slice Aa n ca) s.a ∧ OwG w' tI tR St vt s.t ∧
    OwR w' tI (fun k => w.heap.size ≤ k) (.slice Al s.lead.length cl) (ints s.lead) ∧ (∃ ga, Aa = some ⟨ga, 0, none⟩) ∧ n ≤ ca ∧ ca ≤ 1000000
theorem owR_lead {w : World} {S : Nat → Prop} {v : Value} {l : List Nat} (h : w.ownsRow 0 tI 1 v l.length (leads l)) (hs : ∀ k, v.ownBlock = some k → S k) : OwR w tI S v (ints l) := by
  refine owR_of_owns (base := 0) ?_ hs
  rw [icells_ints, ints_len]
  exact h
set_option maxHeartbeats 3200000 in
set_option maxRecDepth 100000 in
theorem reduceRows_any (w : World) (B : Nat) (St : Nat → Prop) (v vt : Value) (p : Int) (n c wd : Nat) (rows t : List (List Int)) (hv : RdG w B v rows) (hB : B ≤ w.heap.size) (ht : OwG w tI tR St vt t) (hSt : ∀ k, St k → k < w.heap.size) (hf : fld p = true)
    (hm : Mat p n c rows) (hmt : Mat p n wd t) (hn : n ≤ 1000000) (hc : c ≤ 1000000) (hw : wd ≤ 1000000) :
    Calls Tryd.prog 54 #[.int .i64 p, .int .i64 c, v, vt] w (MadeRd w St p vt n (red p rows t c)) := by
  obtain ⟨A, cp, rfl⟩ := hv.len
  obtain ⟨At, ct, rfl⟩ := OwG.len ht
  obtain ⟨hp1, hp2⟩ := fld_bd hf
  have HV := Lib.hid hv
  have HB := Lib.hid hB
  have HTT := Lib.hid ht
  have HSt := Lib.hid hSt
  have HF := Lib.hid hf
  have HM := Lib.hid hm
  have HMT := Lib.hid hmt
  have hln := hm.1
  clear hv hB ht hSt hf hm hmt
  have HLN := Lib.hid hln
  have hln2 : rows.length ≤ 1000000 := by omega
  clear hln
  go_enter Tryd.func54, Tryd.ntmps54
  go_wp2_with fail
  refine (copyRows_cap _ B _ rows (HV.out.below (B' := w.heap.size) ((Below.refl _ _).alloc (Nat.le_refl _) _) HB.out) (by have := HB.out; simp; omega) hln2 (fun r hr => by rw [(HM.out.row (by rw [← HLN.out]; exact hr)).1]; exact hc)).mono ?_
  rintro e w1 h
  obtain ⟨g1, c1, rfl, hcap, b1, o1⟩ := h
  have HCAP : Hid ((∃ ga, (some ⟨g1, 0, none⟩ : Option Addr) = some ⟨ga, 0, none⟩) ∧ n ≤ c1 ∧ c1 ≤ 1000000) := Lib.hid ⟨⟨g1, rfl⟩, by rw [← HLN.out]; exact hcap.1, hcap.2⟩
  clear hcap
  obtain ⟨A1, hA1⟩ : ∃ A1 : Option Addr, A1 = some ⟨g1, 0, none⟩ := ⟨_, rfl⟩
  rw [← hA1] at HCAP o1 ⊢
  clear hA1
  have HR := Lib.hid ((cellsAt_new w #[.int .i64 0, .slice none 0 0, .slice none 0 0, .slice none 0 0, .int .i64 0] tRd).below b1 (by simp))
  have HB1 := Lib.hid (Below.trans ((Below.refl w.heap.size w).alloc (Nat.le_refl _) (.cells #[.int .i64 0, .slice none 0 0, .slice none 0 0, .slice none 0 0, .int .i64 0] tRd)) (b1.mono (by simp)))
  have hs1 : w.heap.size + 1 ≤ w1.heap.size := by have := HR.out.lt; omega
  obtain ⟨rb, hrb⟩ : ∃ rb, rb = w1.heap.size := ⟨_, rfl⟩
  have HS0 : Hid (RSt (w1.alloc (.cells #[.int .i64 p, .slice A1 rows.length c1, .slice At t.length ct, .slice none 0 0, .int .i64 1] tRd)) (w.heap.size + 1) (fun k => w.heap.size + 1 ≤ k ∧ k < w1.heap.size) St rb p (.slice A1 rows.length c1) (.slice At t.length ct) (.slice none 0 0) rows t [] 1) := by
    refine Lib.hid ⟨?_, ?_, ?_, World.ownsRow_nil _ _ _ _, fun k hk => by simp [Value.ownBlock] at hk, by omega, fun k hk => ⟨hk.1, by omega, fun h2 => by have := HSt.out k h2; omega, by rw [nblk_alloc]; omega⟩, fun k hk => ⟨by have := HSt.out k hk; omega, by rw [nblk_alloc]; have := HSt.out k hk; omega⟩⟩
    · subst hrb
      exact cellsAt_new _ _ _
    · exact (OwG.mono (T := fun k => w.heap.size + 1 ≤ k ∧ k < w1.heap.size) o1 (fun q hq hl => ⟨by simpa using hq, hl⟩)).blocks (fun q hq hl => blk_alloc_lt _ _ _ hl)
    · exact HTT.out.blocks (fun q hq hl => (blk_alloc_lt _ _ _ (by have := HSt.out q hq; omega)).trans (HB1.out.block q hl))
  have HT0 : Hid (Touch (fun k => w.heap.size + 1 ≤ k ∨ St k) w (w1.alloc (.cells #[.int .i64 p, .slice A1 rows.length c1, .slice At t.length ct, .slice none 0 0, .int .i64 1] tRd))) := Lib.hid ((Touch.of_below HB1.out (fun q h1 h2 => absurd h2 (by omega))).alloc _)
  have HR0 := Lib.hid (HR.out.alloc (.cells #[.int .i64 p, .slice A1 rows.length c1, .slice At t.length ct, .slice none 0 0, .int .i64 1] tRd))
  clear b1 o1
  go_wp2
  rw [← hrb]
  clear hrb
  go_loopw [17, 10] (fun i _ wr => ∃ (k : Nat) (vl : Value), k ≤ c ∧ i = .int .i64 k ∧ Hid (Touch (fun k => w.heap.size + 1 ≤ k ∨ St k) w wr) ∧ Hid (CellsAt wr w.heap.size tRd [.int .i64 0, .slice none 0 0, .slice none 0 0, .slice none 0 0, .int .i64 0]) ∧ Hid (RSt wr (w.heap.size + 1) (fun k => w.heap.size + 1 ≤ k ∧ k < w1.heap.size) St rb p (.slice A1 rows.length c1) (.slice At t.length ct) vl (red p rows t k).a (red p rows t k).t (red p rows t k).lead (red p rows t k).fac)) (fun i _ _ => c - (intOf i).toNat)
  case atStart => exact ⟨0, _, Nat.zero_le _, rfl, HT0, HR0, HS0⟩
  case round =>
    obtain ⟨k, vl, hk, rfl, HT, HR2, HS⟩ := hrel
    by_cases hlt : k < c
    · have HI := Lib.hid (red_inv HF.out HM.out HMT.out k (by omega))
      have hltI : (k : Int) < (c : Int) := by omega
      go_wp2_with fail
      refine (reduceColumn_any _ (w.heap.size + 1) (fun k => w.heap.size + 1 ≤ k ∧ k < w1.heap.size) St rb p _ _ vl n c wd k (red p rows t k) HS.out HI.out HF.out hlt (by have := HT.out.size; have := HR2.out.lt; omega) hn hc hw).mono ?_
      rintro e w3 ⟨rfl, t3, vl3, s3⟩
      have HT3 := Lib.hid (HT.out.trans t3)
      have HS3 := Lib.hid s3
      have HR3 := Lib.hid (HR2.out.touch t3 (fun hq => by
        rcases hq with hq | hq
        · omega
        · have := HSt.out _ hq; omega))
      clear t3 s3
      go_wp2
      go_roundw
      case rel => exact ⟨k + 1, vl3, by omega, by go_num, HT3, HR3, HS3⟩
      case measure => simp [intOf]; omega
    · obtain rfl : k = c := by omega
      have hll : ∃ Al cl, vl = .slice Al (red p rows t k).lead.length cl := by
        rcases HS.out.l.2 with ⟨e, h0⟩ | ⟨g, cap, cur, e, _⟩
        · exact ⟨none, 0, by rw [e, h0]⟩
        · exact ⟨_, cap, e⟩
      obtain ⟨Al, cl, rfl⟩ := hll
      obtain ⟨hr0, hr1, hr2, hr3, hr4, hrf, hrs⟩ := HS.out.box.five
      obtain ⟨hz0', hz1', hz2', hz3', hz4', hzf', hzs'⟩ := HR2.out.five
      have hI := red_inv HF.out HM.out HMT.out k (Nat.le_refl _)
      have HLA := Lib.hid hI.a.1
      have HLT := Lib.hid hI.t.1
      have hne : w.heap.size ≠ rb := by have := HS.out.hi; omega
      have hne2 : rb ≠ w.heap.size := fun e => hne e.symm
      have hsz := HT.out.size
      clear hI
      go_wp2
      refine bodyPost_ret (v := .agg #[.int .i64 p, .slice A1 rows.length c1, .slice At t.length ct, .slice Al (red p rows t k).lead.length cl, .int .i64 (red p rows t k).fac]) (by simp [results, Tryd.results54, go_sem, hz0', hz1', hz2', hz3', hz4']) rfl ?_
      have hb : ∀ q, q ≠ w.heap.size → (((((wr.setCell ⟨w.heap.size, 0, none⟩ (.int .i64 p)).setCell ⟨w.heap.size, 1, none⟩ (.slice A1 rows.length c1)).setCell ⟨w.heap.size, 2, none⟩ (.slice At t.length ct)).setCell ⟨w.heap.size, 3, none⟩ (.slice Al (red p rows t k).lead.length cl)).setCell ⟨w.heap.size, 4, none⟩ (.int .i64 (red p rows t k).fac)).heap[q]? = wr.heap[q]? := fun q hq => by
        rw [blk_setCell_other _ _ _ _ (by dsimp only; exact hq), blk_setCell_other _ _ _ _ (by dsimp only; exact hq), blk_setCell_other _ _ _ _ (by dsimp only; exact hq), blk_setCell_other _ _ _ _ (by dsimp only; exact hq), blk_setCell_other _ _ _ _ (by dsimp only; exact hq)]
      refine ⟨A1, c1, Al, cl, by rw [← HLN.out], ?_, ?_, ?_, ?_, HCAP.out⟩
      · refine Touch.mono (S := fun q => (w.heap.size + 1 ≤ q ∨ St q) ∨ q = w.heap.size) ⟨HT.out.os, HT.out.tape, HT.out.output, by simp only [nblk_setCell]; exact hsz, fun q hq hn2 => (hb q (fun e => hn2 (Or.inr e))).trans (HT.out.block q hq (fun h2 => hn2 (Or.inl h2)))⟩ (fun q hq hs => by
          rcases hs with (hs | hs) | hs
          · omega
          · exact hs
          · omega)
      · rw [← HLN.out]
        exact (HS.out.a.blocks (fun q hq _ => hb q (by omega))).mono (fun q hq _ => by omega)
      · exact HS.out.t.blocks (fun q hq _ => hb q (by have := HSt.out q hq; omega))
      · exact owR_lead (ownsRow_of_block HS.out.l (fun g hg _ => hb g (by have := (HS.out.ld g hg).1; omega))) (fun g hg => by have := (HS.out.ld g hg).1; omega)
end Go.Proofs.YtdjgkcnhmfkjoaaDoor
