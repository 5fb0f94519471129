/- The model's product of matrices: its rows are appended. -/
import Derived.Test.YtdeabimojadgaaaDoorMxMul
import Derived.Test.YtdeabimojadgaaaDoorAppG
import Derived.Deep.RegionHeld3
namespace Go.Proofs.YtdeabimojadgaaaDoor
open Go Go.RowKit Go.Deep

theorem mmul_take_succ {p : Int} {c : Nat} {a b : List (List Int)} {k : Nat} (h : k < a.length) : mmul p c (a.take (k + 1)) b = mmul p c (a.take k) b ++ [vmul p c (a.getD k []) b] := by
  unfold mmul
  rw [List.take_add_one, List.getElem?_eq_getElem h, List.getD_eq_getElem?_getD, List.getElem?_eq_getElem h]
  exact List.mapIdx_append
set_option maxHeartbeats 1600000 in
set_option maxRecDepth 100000 in
theorem mxMul_any (w : World) (B : Nat) (va vb : Value) (p ca : Int) (c : Nat) (a b : List (List Int)) (hva : RdG w B va a) (hvb : RdG w B vb b) (hB : B ≤ w.heap.size) (h1 : 2 ≤ p) (h2 : p ≤ 97) (hc : c ≤ 1000000) (hn : a.length ≤ 1000000) (hbn : b.length ≤ 1000000)
    (hma : ∀ r, r ∈ a → r.length = b.length ∧ ∀ x, x ∈ r → 0 ≤ x ∧ x < p) (hmb : ∀ r, r ∈ b → r.length = c ∧ ∀ x, x ∈ r → 0 ≤ x ∧ x < p) :
    Calls Tryd.prog 56 #[.int .i64 p, .agg #[.int .i64 ca, va], .agg #[.int .i64 c, vb]] w (MadeM w c (mmul p c a b)) := by
  obtain ⟨i0, hi0, hz0, hz1, hz2⟩ := info_parts infoR
  obtain ⟨Aa, cca, rfl⟩ := hva.len
  obtain ⟨Ab, ccb, rfl⟩ := hvb.len
  have HVA := Lib.hid hva
  have HVB := Lib.hid hvb
  have HB := Lib.hid hB
  have HMA := Lib.hid hma
  have HMB := Lib.hid hmb
  clear hva hvb hB hma hmb
  go_enter Tryd.func56, Tryd.ntmps56
  go_wp2
  go_loopw [16, 9] (fun i _ wr => ∃ (k : Nat) (v : Value) (vs : List Value), k ≤ a.length ∧ i = .int .i64 k ∧ Hid (Below w.heap.size w wr) ∧ Hid (CellsAt wr (w.heap.size + 1) tM [.int .i64 c, .slice Ab b.length ccb]) ∧ Hid (CellsAt wr (w.heap.size + 1 + 1) tM [.int .i64 0, .slice none 0 0]) ∧ Hid (CellsAt wr (w.heap.size + 1 + 1 + 1) tM [.int .i64 c, v]) ∧ Hid (GridA wr tI tR (fun q => w.heap.size + 4 ≤ q) v vs (mmul p c (a.take k) b))) (fun i _ _ => a.length - (intOf i).toNat)
  case atStart => exact ⟨0, .slice none 0 0, [], Nat.zero_le _, rfl, Lib.hid (by repeat' (first | exact Below.refl _ _ | apply Below.drew | apply Below.setCell | apply Below.alloc | (simp; done) | (simp; omega))), Lib.hid (((cellsAt_new' _ _ _ _ _ (by simp) rfl).alloc _).alloc _), Lib.hid ((cellsAt_new' _ _ _ _ _ (by simp) rfl).alloc _), Lib.hid (cellsAt_new' _ _ _ _ _ (by simp) rfl), Lib.hid (by rw [List.take_zero]; exact GridA.nil _ _ _ _)⟩
  case round =>
    obtain ⟨k, v, vs, hk, rfl, HB2, HX, HR, HO, HG⟩ := hrel
    obtain ⟨hx0, hx1, hxf0, hxf1, hxs⟩ := HX.out.two
    obtain ⟨ho0, ho1, hof0, hof1, hos⟩ := HO.out.two
    by_cases hlt : k < a.length
    · obtain ⟨b1, o1, A3, c3, rfl, hb1, hc1, hrd⟩ := (HVA.out.below HB2.out HB.out).at hlt
      have HRD := Lib.hid hrd
      have HMK := Lib.hid (HMA.out _ (getD_mem' hlt []))
      have HNX := Lib.hid (mmul_take_succ (p := p) (c := c) (b := b) hlt)
      have HLV := Lib.hid (show vs.length = k by rw [HG.out.len, mmul_len, List.length_take]; omega)
      have HOB := Lib.hid (show v.ownBlock ≠ some (w.heap.size + 1 + 1 + 1) from fun e => by have := HG.out.inS _ e; omega)
      have HOX := Lib.hid (show v.ownBlock ≠ some (w.heap.size + 1) from fun e => by have := HG.out.inS _ e; omega)
      clear hrd hb1
      generalize hx : a.getD k [] = xr at hc1 HRD HMK HNX
      clear hx
      have hBr : B ≤ wr.heap.size := by have := HB.out; have := HB2.out.size; omega
      have HCALL : Hid (Calls Tryd.prog 81 #[.int .i64 p, .slice A3 xr.length c3, .agg #[.int .i64 c, .slice Ab b.length ccb]] wr.drew (MadeR wr.drew (vmul p c xr b))) :=
        Lib.hid (mxRow_any wr.drew B _ _ p c xr b (show RdS wr.drew (fun b => b < B) (.slice A3 xr.length c3) xr from HRD.out) (HVB.out.below HB2.out.drew HB.out) hBr h1 h2 hc (by rw [HMK.out.1]; exact hbn) (by rw [HMK.out.1]; exact Nat.le_refl _) HMK.out.2 HMB.out)
      go_wp2
      go_region_law
        (first
          | (refine step_append_lies _ (by rfl) _ _ _ (by rfl) 0 42 i0 _ 1 24 Tryd.underlying22 hi0 hz0 hz1 hz2 rfl (by omega) v vs.length vs (by rfl) ((HG2.out.blocks (w' := w2.alloc _) (fun k hk hl => blk_alloc_lt _ _ _ hl)).outer) ⟨w2.heap.size, 0, none⟩ 1 1 [.slice A2 (vmul p c xr b).length c2] (by rfl) (by rfl) (World.news_of_block (cs := #[.slice A2 (vmul p c xr b).length c2]) (t := 42) (fr := (0, 0)) (heap_alloc_new w2 _)) (by simp [Value.oneCell']) (by omega) (by rw [HLV.out]; unfold maxLen; omega) (by rw [HLV.out]; omega) (Nat.zero_le _) (w2.heap.size + 1) (by simp) ?_; intro gg cap w3 hown1 hgrow hat hlt3; have HQ3 : Hid (∀ q, q < w.heap.size + 4 → w3.heap[q]? = wr.heap[q]?) := Lib.hid (fun q hq => (hgrow.block q (show q < (w2.alloc _).heap.size by rw [nblk_alloc]; omega) (fun e => by have := HG.out.inS q e.symm; omega)).trans ((blk_alloc_lt _ _ _ (by omega)).trans (HQ2.out q hq))); have HO3 : Hid (CellsAt w3 (w.heap.size + 1 + 1 + 1) tM [.int .i64 c, v]) := Lib.hid (HO.out.of_block (HQ3.out _ (by omega))); have ho1c := HO3.out.two.2.1; have hof3 := HO3.out.frozen 1; have hos3 := HO3.out.lt)
          | (go_simp; go_at_call 81; refine HCALL.out.mono ?_; rintro e w2 ⟨v2, rfl, b2, o2⟩; obtain ⟨A2, c2, rfl⟩ := o2.len; have hs2 : wr.heap.size ≤ w2.heap.size := b2.size; have HQ2 : Hid (∀ q, q < w.heap.size + 4 → w2.heap[q]? = wr.heap[q]?) := Lib.hid (fun q hq => b2.block q (show q < wr.heap.size by omega)); have HO2 : Hid (CellsAt w2 (w.heap.size + 1 + 1 + 1) tM [.int .i64 c, v]) := Lib.hid (HO.out.of_block (HQ2.out _ (by omega))); have ho1b := HO2.out.two.2.1; have hos2 := HO2.out.lt; have HG2 := Lib.hid ((HG.out.mono (T := fun q => w.heap.size + 4 ≤ q ∧ q < wr.heap.size) (fun q h1 h2 => ⟨h1, h2⟩)).blocks (w' := w2) (fun q hq _ => b2.block q hq.2))))
      all_goals
        have HLT := Lib.hid hlt
        clear HCALL
        have hbl : Below w.heap.size w (w2.alloc (.cells #[.slice A2 (vmul p c xr b).length c2] 42)) := ((HB2.out.drew).trans (b2.mono HB2.out.size)).alloc (by have := HB2.out.size; omega) _
        have HB3 := Lib.hid (hbl.grown hgrow (by simp; have := HB2.out.size; omega) (fun q hq => by have := HG.out.inS q hq; omega))
        have HP := Lib.hid (((HG2.out.blocks (w' := w2.alloc (.cells #[.slice A2 (vmul p c xr b).length c2] 42)) (fun q hq hl => blk_alloc_lt _ _ _ hl))).push ((o2.blocks (w' := w2.alloc (.cells #[.slice A2 (vmul p c xr b).length c2] 42)) (fun q hq hl _ _ => blk_alloc_lt _ _ _ hl)).mono (T := fun q => wr.heap.size ≤ q ∧ q < w2.heap.size + 1) (fun q hq hl => ⟨hq, by simpa using hl⟩)) (fun q h1 h2 => by omega) hown1 hgrow (by simpa using hat))
        have HZ3 := Lib.hid (show w.heap.size + 4 ≤ w3.heap.size by have := HO3.out.lt; omega)
        clear hown1 hgrow b2 o2 hat hbl
        go_wp2
        go_roundw
      all_goals first
        | exact ⟨k + 1, _, _, by omega, by go_num, Lib.hid (HB3.out.setCell (by show w.heap.size ≤ w.heap.size + 1 + 1 + 1; omega) _), Lib.hid ((HX.out.of_block (HQ3.out _ (by omega))).setOther (by dsimp only; omega) _), Lib.hid ((HR.out.of_block (HQ3.out _ (by omega))).setOther (by dsimp only; omega) _), Lib.hid (HO3.out.set 1 _), Lib.hid (by
            rw [HNX.out]
            refine (HP.out.mono (T := fun q => w.heap.size + 4 ≤ q) (fun q hq _ => ?_)).blocks (fun q hq _ => blk_setCell_other _ _ _ _ (by dsimp only; omega))
            simp at hq
            omega)⟩
        | (simp [intOf]; have := HLT.out; omega)
    · obtain ⟨Av, cpv, rfl⟩ := HG.out.form
      obtain ⟨hr0, hr1, hrf0, hrf1, hrs⟩ := HR.out.two
      go_wp2
      refine bodyPost_ret (v := .agg #[.int .i64 c, .slice Av (mmul p c (a.take k) b).length cpv]) (by simp [results, Tryd.results56, go_sem, hr0, hr1]) rfl ?_
      have h := HG.out.toOwG
      have e : a.take k = a := List.take_of_length_le (by omega)
      rw [e] at h ⊢
      refine ⟨_, rfl, (by refine Below.trans HB2.out ?_; repeat' (first | exact Below.refl _ _ | apply Below.drew | apply Below.setCell | apply Below.alloc | (simp; done) | (simp; omega))), ?_⟩
      refine (h.blocks (fun q h _ => ?_)).mono (fun q h _ => by omega)
      rw [blk_setCell_other _ _ _ _ (by simp; omega), blk_setCell_other _ _ _ _ (by simp; omega)]
end Go.Proofs.YtdeabimojadgaaaDoor
