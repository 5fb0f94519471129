/- The program's reduction of a matrix beside a unit matrix. -/
import Derived.Test.YtiiloioobmkicaaDoorRdRows
namespace Go.Proofs.YtiiloioobmkicaaDoor
set_option maxRecDepth 100000
open Go Go.RowKit Go.Deep

/-- What the reduction of a matrix beside a unit matrix returns. -/
def MadeRM (w : World) (p : Int) (n : Nat) (s : Red) (e : Ending) (w' : World) : Prop :=
  ∃ Aa ca At ct Al cl, ∃ (Sa St : Nat → Prop), e = .returned (.agg #[.int .i64 p, .slice Aa n ca, .slice At n ct, .slice Al s.lead.length cl, .int .i64 s.fac]) ∧ Below w.heap.size w w' ∧ (∀ k, Sa k → w.heap.size ≤ k) ∧ (∀ k, St k → w.heap.size ≤ k) ∧ (∀ k, Sa k → St k → False) ∧ OwG w' tI tR Sa (.slice Aa n ca) s.a ∧ OwG w' tI tR St (.slice At n ct) s.t ∧
    OwR w' tI (fun k => w.heap.size ≤ k) (.slice Al s.lead.length cl) (ints s.lead)
set_option maxHeartbeats 3200000 in
set_option maxRecDepth 100000 in
theorem reduceMatrix_any (w : World) (B : Nat) (v : Value) (p : Int) (n c : Nat) (rows : List (List Int)) (hv : RdG w B v rows) (hB : B ≤ w.heap.size) (hf : fld p = true) (hm : Mat p n c rows) (hn : n ≤ 1000000) (hc : c ≤ 1000000) :
    Calls Tryd.prog 60 #[.int .i64 p, .agg #[.int .i64 c, v]] w (MadeRM w p n (red p rows (idRows n) c)) := by
  obtain ⟨A, cp, rfl⟩ := hv.len
  obtain ⟨hp1, hp2⟩ := fld_bd hf
  obtain rfl : rows.length = n := hm.1
  have HV := Lib.hid hv
  have HB := Lib.hid hB
  have HF := Lib.hid hf
  have HM := Lib.hid hm
  have HMI := Lib.hid (idRows_mat hp1 rows.length)
  obtain ⟨xa, xr, xn⟩ := boxes2 (w := w) (w1 := (w.alloc (.cells #[.int .i64 c, .slice A rows.length cp] tM)).alloc (.cells #[.int .i64 0, .slice none 0 0, .slice none 0 0, .slice none 0 0, .int .i64 0] tRd)) (Below.refl _ _) rfl
  have hsz0 : ((w.alloc (.cells #[.int .i64 c, .slice A rows.length cp] tM)).alloc (.cells #[.int .i64 0, .slice none 0 0, .slice none 0 0, .slice none 0 0, .int .i64 0] tRd)).heap.size = w.heap.size + 2 := by simp
  have HXA := Lib.hid xa
  have HXR := Lib.hid xr
  have HXN := Lib.hid xn
  clear hv hB hf hm xa xr xn
  go_enter Tryd.func60, Tryd.ntmps60
  go_wp2
  generalize (w.alloc (.cells #[.int .i64 c, .slice A rows.length cp] tM)).alloc (.cells #[.int .i64 0, .slice none 0 0, .slice none 0 0, .slice none 0 0, .int .i64 0] tRd) = W at HXA HXR HXN hsz0 ⊢
  obtain ⟨hx0, hx1, hxf0, hxf1, hxs⟩ := HXA.out.two
  have HELD : Hid (∀ w' : World, w'.heap[w.heap.size]? = W.heap[w.heap.size]? → w'.cell? ⟨w.heap.size, 0, none⟩ = some (.int .i64 c) ∧ w'.cell? ⟨w.heap.size, 1, none⟩ = some (.slice A rows.length cp)) := Lib.hid (fun w' H => ⟨(World.cell?_of_block (w := W) H).trans hx0, (World.cell?_of_block (w := W) H).trans hx1⟩)
  have HQ0 : Hid (W.drew.heap[w.heap.size]? = W.heap[w.heap.size]?) := Lib.hid rfl
  clear hx0 hx1 hxf0 hxf1 hxs
  go_region_held3 (fun w' => w'.cell? ⟨w.heap.size, 0, none⟩ = some (.int .i64 c) ∧ w'.cell? ⟨w.heap.size, 1, none⟩ = some (.slice A rows.length cp))
    (first | with_reducible exact HELD.out _ HQ0.out | with_reducible exact HELD.out _ HQ2.out | with_reducible exact HELD.out _ HQ3.out | exact HELD.out _ (((blk_setCell_other _ _ _ _ (by dsimp only; omega)).trans ((blk_setCell_other _ _ _ _ (by dsimp only; omega)).trans ((blk_setCell_other _ _ _ _ (by dsimp only; omega)).trans ((blk_setCell_other _ _ _ _ (by dsimp only; omega)).trans (blk_setCell_other _ _ _ _ (by dsimp only; omega)))))).trans HQ3.out))
    (first
      | (go_at_call 96; go_split_ands; refine (identityRows_any W.drew rows.length (by omega)).mono ?_; rintro e w2 ⟨v2, rfl, b2, o2⟩; obtain ⟨A2, c2, rfl⟩ := OwG.len o2; have hz2 : w.heap.size + 2 ≤ w2.heap.size := (by have h := b2.size; have h2 : W.drew.heap.size = W.heap.size := rfl; omega); have HQ2 : Hid (w2.heap[w.heap.size]? = W.heap[w.heap.size]?) := Lib.hid (b2.block _ (by show w.heap.size < W.heap.size; omega)); have HO2 := Lib.hid (OwG.mono (T := fun k => w.heap.size + 2 ≤ k ∧ k < w2.heap.size) o2 (fun q hq hl => ⟨by have h2 : W.drew.heap.size = W.heap.size := rfl; omega, hl⟩)); have HN2 : Hid (Below w.heap.size w w2) := Lib.hid (HXN.out.drew.trans (b2.mono (by show w.heap.size ≤ W.heap.size; omega))); have HR2 : Hid (CellsAt w2 (w.heap.size + 1) tRd [.int .i64 0, .slice none 0 0, .slice none 0 0, .slice none 0 0, .int .i64 0]) := Lib.hid (HXR.out.of_block (b2.block _ (by show w.heap.size + 1 < W.heap.size; omega))))
      | (go_at_call 95; go_split_ands; refine (reduceRows_any w2 B (fun k => w.heap.size + 2 ≤ k ∧ k < w2.heap.size) _ _ p rows.length c rows.length rows (idRows rows.length) (HV.out.below HN2.out HB.out) (by have h := HB.out; omega) HO2.out (fun k hk => hk.2) HF.out HM.out HMI.out hn hc hn).mono ?_; rintro e w3 ⟨Aa, ca, Al, cl, rfl, t3, oa3, ot3, ol3, -⟩; have hz3 := t3.size; have HQ3 : Hid (w3.heap[w.heap.size]? = W.heap[w.heap.size]?) := Lib.hid ((t3.block _ (by omega) (fun hq => by omega)).trans HQ2.out); have HR3 : Hid (CellsAt w3 (w.heap.size + 1) tRd [.int .i64 0, .slice none 0 0, .slice none 0 0, .slice none 0 0, .int .i64 0]) := Lib.hid (HR2.out.touch t3 (fun hq => by omega)); obtain ⟨hr0, hr1, hr2, hr3, hr4, hrf, hrs⟩ := HR3.out.five))
  have HSA := Lib.hid oa3
  have HST := Lib.hid ot3
  have HSL := Lib.hid ol3
  have HT3 := Lib.hid t3
  clear oa3 ot3 ol3 t3 b2 o2 HELD HQ0
  go_wp2
  refine bodyPost_ret (v := .agg #[.int .i64 p, .slice Aa rows.length ca, .slice A2 (idRows rows.length).length c2, .slice Al (red p rows (idRows rows.length) c).lead.length cl, .int .i64 (red p rows (idRows rows.length) c).fac]) (by simp [results, Tryd.results60, go_sem, hr0, hr1, hr2, hr3, hr4]) rfl ?_
  have hb : ∀ q, q ≠ w.heap.size + 1 → (((((w3.setCell ⟨w.heap.size + 1, 0, none⟩ (.int .i64 p)).setCell ⟨w.heap.size + 1, 1, none⟩ (.slice Aa rows.length ca)).setCell ⟨w.heap.size + 1, 2, none⟩ (.slice A2 (idRows rows.length).length c2)).setCell ⟨w.heap.size + 1, 3, none⟩ (.slice Al (red p rows (idRows rows.length) c).lead.length cl)).setCell ⟨w.heap.size + 1, 4, none⟩ (.int .i64 (red p rows (idRows rows.length) c).fac)).heap[q]? = w3.heap[q]? := fun q hq => by
    rw [blk_setCell_other _ _ _ _ (by dsimp only; exact hq), blk_setCell_other _ _ _ _ (by dsimp only; exact hq), blk_setCell_other _ _ _ _ (by dsimp only; exact hq), blk_setCell_other _ _ _ _ (by dsimp only; exact hq), blk_setCell_other _ _ _ _ (by dsimp only; exact hq)]
  refine ⟨Aa, ca, A2, c2, Al, cl, fun k => w2.heap.size ≤ k, fun k => w.heap.size + 2 ≤ k ∧ k < w2.heap.size, by rw [idRows_len], ?_, fun k hk => by omega, fun k hk => by omega, fun k h1 h2 => by omega, ?_, ?_, ?_⟩
  · have hbn : Below w.heap.size w w3 := HN2.out.trans (HT3.out.below (B := w.heap.size) (by omega) (fun k hk => by omega))
    exact ((((hbn.setCell (by dsimp only; omega) _).setCell (by dsimp only; omega) _).setCell (by dsimp only; omega) _).setCell (by dsimp only; omega) _).setCell (by dsimp only; omega) _
  · exact OwG.blocks HSA.out (fun q hq _ => hb q (by omega))
  · have h := OwG.blocks HST.out (fun q hq _ => hb q (by omega))
    exact Eq.mp (congrArg (fun v => OwG _ tI tR (fun k => w.heap.size + 2 ≤ k ∧ k < w2.heap.size) v (red p rows (idRows rows.length) c).t) (show Value.slice A2 (idRows rows.length).length c2 = Value.slice A2 rows.length c2 by rw [idRows_len])) h
  · refine (OwR.mono (T := fun k => w2.heap.size ≤ k) HSL.out (fun q hq _ => hq)).blocks (fun q hq _ _ _ => hb q (by omega)) |>.mono (fun q hq _ => by omega)
end Go.Proofs.YtiiloioobmkicaaDoor
