/- Unit rows and the reduction beside them, with the room of the grid beside. -/
import Derived.Test.YtiiloioobmkicaaDoorRdMat
namespace Go.Proofs.YtiiloioobmkicaaDoor
set_option maxRecDepth 100000
open Go Go.RowKit Go.Deep

/-- A new grid without room behind it. -/
def MadeGn (w : World) (n : Nat) (rows : List (List Int)) (e : Ending) (w' : World) : Prop := e = .returned (.slice (some ⟨w.heap.size, 0, none⟩) n n) ∧ Below w.heap.size w w' ∧ OwG w' tI tR (fun b => w.heap.size ≤ b) (.slice (some ⟨w.heap.size, 0, none⟩) n n) rows
set_option maxHeartbeats 400000 in
theorem zeroRows_cap (w : World) (n c : Nat) (hn : n ≤ 1000000) (hc : c ≤ 1000000) :
    Calls Tryd.prog 109 #[.int .i64 n, .int .i64 c] w (MadeGn w n (List.replicate n (List.replicate c 0))) := by
  have hmk := make_rows n (by omega)
  have hmk2 := make_ints c (by omega)
  go_enter Tryd.func109, Tryd.ntmps109
  go_wp2
  go_loopw [11, 6] (fun i t wr => ∃ (k : Nat) (vs : List Value), k ≤ n ∧ i = .int .i64 k ∧ Hid (Below w.heap.size w wr) ∧ Hid (w.heap.size < wr.heap.size) ∧ Hid (GridAt wr tI tR (fun b => w.heap.size ≤ b ∧ b < wr.heap.size) w.heap.size vs (upd (fun _ _ => List.replicate c 0) k (List.replicate n [])))) (fun i _ _ => n - (intOf i).toNat)
  case atStart => exact ⟨0, _, Nat.zero_le _, rfl, Lib.hid ((Below.refl _ _).alloc (Nat.le_refl _) _), Lib.hid (by rw [nblk_alloc]; omega), Lib.hid (by rw [upd_zero]; exact made_grid w _ _ ⟨Nat.le_refl _, by rw [nblk_alloc]; omega⟩)⟩
  case round =>
    obtain ⟨k, vs, hk, rfl, HB, HS, HG⟩ := hrel
    have HLN := Lib.hid (show (upd (fun _ _ => List.replicate c (0 : Int)) k (List.replicate n [])).length = n by rw [upd_len, List.length_replicate])
    by_cases hlt : k < n
    · have hg : w.heap.size < wr.heap.size := HS.out
      have hcell : ∀ o, (wr.alloc o).cell? ⟨w.heap.size, k, none⟩ = some (vs.getD k .nilFunc) := fun o => (World.cell?_of_block (w := wr) (blk_alloc_lt wr o _ hg)).trans (HG.out.cell (by rw [HLN.out]; exact hlt))
      have hf : ∀ o, (wr.alloc o).frozen? ⟨w.heap.size, k, none⟩ = false := fun o => (World.frozen?_of_block (w := wr) (blk_alloc_lt wr o _ hg)).trans (HG.out.outer.frozen k)
      have HP := Lib.hid (HG.out.putNew (fun q h => h.2) (r := k) (by rw [HLN.out]; exact hlt) (cs := madeCells #[.int .i64 0] c) (xs := List.replicate c 0) (n := c) (c := c) (by rw [toList_madeCells_one]; simp [icells]) (by simp))
      generalize vs.getD k Value.nilFunc = u at hcell
      go_wp2
      go_roundw
      case rel => exact ⟨k + 1, _, by omega, by go_num, Lib.hid ((HB.out.setCell (p := ⟨w.heap.size, k, none⟩) (Nat.le_refl _) _).alloc (by rw [nblk_setCell]; exact HB.out.size) _), Lib.hid (by rw [nblk_alloc, nblk_setCell]; have := HS.out; omega), Lib.hid (by
        have := HP.out
        rw [upd_step (fun _ _ => List.replicate c (0 : Int)) (by rw [List.length_replicate]; exact hlt) []] at this
        exact this.mono (T := fun b => w.heap.size ≤ b ∧ b < _) (fun q h hq => ⟨by have := HS.out; omega, hq⟩))⟩
      case measure => simp [intOf]; omega
    · go_wp2
      go_ret
      refine ⟨rfl, HB.out, some ⟨w.heap.size, 0, none⟩, n, by simp, by simp, Or.inr ⟨_, vs, rfl, ?_⟩⟩
      have := HG.out
      rw [upd_all _ (by rw [List.length_replicate]; omega), upd_repl] at this
      exact this.mono (fun q h _ => h.1)
set_option maxHeartbeats 400000 in
theorem identityRows_cap (w : World) (n : Nat) (hn : n ≤ 1000000) :
    Calls Tryd.prog 96 #[.int .i64 n] w (MadeGn w n (idRows n)) := by
  go_enter Tryd.func96, Tryd.ntmps96
  go_wp2_with fail
  refine (zeroRows_cap _ n n hn hn).mono ?_
  rintro e w1 ⟨rfl, hb, ho⟩
  have HB := Lib.hid hb
  have HO := Lib.hid ho
  clear hb ho
  go_wp2
  go_loopw [11, 4, 5] (fun i _ _ wr => ∃ k : Nat, k ≤ n ∧ i = .int .i64 k ∧ Hid (Below w.heap.size w wr) ∧ Hid (OwG wr tI tR (fun b => w.heap.size ≤ b) (.slice (some ⟨w.heap.size, 0, none⟩) n n) (upd (fun i r => r.set i 1) k (List.replicate n (List.replicate n 0))))) (fun i _ _ _ => n - (intOf i).toNat)
  case atStart => exact ⟨0, Nat.zero_le _, rfl, HB, Lib.hid (by rw [upd_zero]; exact HO.out)⟩
  case round =>
    obtain ⟨k, hk, rfl, HB2, HR⟩ := hrel
    by_cases hlt : k < n
    · have HLN := Lib.hid (show (upd (fun i (r : List Int) => r.set i 1) k (List.replicate n (List.replicate n 0))).length = n by rw [upd_len, List.length_replicate])
      have HGD := Lib.hid (show (upd (fun i (r : List Int) => r.set i 1) k (List.replicate n (List.replicate n 0))).getD k [] = List.replicate n 0 by rw [upd_getD _ (Nat.le_refl k), repl_getD' _ _ _ _ hlt])
      obtain ⟨g, c1, b, c2, e, hg, hgl, hc1, hbS, hbl, -, hc2, hf, hset⟩ := HR.out.at (r := k) (j := k) (by rw [HLN.out]; exact hlt) (by rw [HGD.out, List.length_replicate]; exact hlt)
      obtain ⟨e1, -, -⟩ := sliceEq e
      obtain rfl : w.heap.size = g := by injection e1 with e1; injection e1
      clear e1
      rw [HGD.out, List.length_replicate] at hc1
      rw [HGD.out, repl_getD] at hc2
      have HSET := Lib.hid (hset 1)
      have HBS := Lib.hid hbS
      clear hset e hg hbS
      go_wp2
      go_roundw
      case rel => exact ⟨k + 1, by omega, by go_num, Lib.hid (HB2.out.setCell HBS.out _), Lib.hid (by
        rw [← upd_put _ (by rw [List.length_replicate]; exact hlt) []]
        exact HSET.out)⟩
      case measure => simp [intOf]; omega
    · go_wp2
      go_ret
      refine ⟨rfl, HB2.out, ?_⟩
      have := HR.out
      rw [upd_all _ (by rw [List.length_replicate]; omega)] at this
      exact this
/-- What the reduction of a matrix beside a unit matrix returns. -/
def MadeRMc (w : World) (p : Int) (n : Nat) (s : Red) (e : Ending) (w' : World) : Prop :=
  ∃ Aa ca At Al cl, ∃ (Sa St : Nat → Prop), e = .returned (.agg #[.int .i64 p, .slice Aa n ca, .slice At n n, .slice Al s.lead.length cl, .int .i64 s.fac]) ∧ Below w.heap.size w w' ∧ (∀ k, Sa k → w.heap.size ≤ k) ∧ (∀ k, St k → w.heap.size ≤ k) ∧ (∀ k, Sa k → St k → False) ∧ OwG w' tI tR Sa (.slice Aa n ca) s.a ∧ OwG w' tI tR St (.slice At n n) s.t ∧
    OwR w' tI (fun k => w.heap.size ≤ k) (.slice Al s.lead.length cl) (ints s.lead)
set_option maxHeartbeats 3200000 in
set_option maxRecDepth 100000 in
theorem reduceMatrix_cap (w : World) (B : Nat) (v : Value) (p : Int) (n c : Nat) (rows : List (List Int)) (hv : RdG w B v rows) (hB : B ≤ w.heap.size) (hf : fld p = true) (hm : Mat p n c rows) (hn : n ≤ 1000000) (hc : c ≤ 1000000) :
    Calls Tryd.prog 60 #[.int .i64 p, .agg #[.int .i64 c, v]] w (MadeRMc w p n (red p rows (idRows n) c)) := by
  obtain ⟨A, cp, rfl⟩ := hv.len
  obtain ⟨hp1, hp2⟩ := fld_bd hf
  obtain rfl : rows.length = n := hm.1
  have HV := Lib.hid hv
  have HB := Lib.hid hB
  have HF := Lib.hid hf
  have HM := Lib.hid hm
  have HMI := Lib.hid (idRows_mat hp1 rows.length)
  obtain ⟨xa, xr, xn⟩ := boxes2 (w := w) (w1 := (w.alloc (.cells #[.int .i64 c, .slice A rows.length cp] tM)).alloc (.cells #[.int .i64 0, .slice none 0 0, .slice none 0 0, .slice none 0 0, .int .i64 0] tRd)) (Below.refl _ _) rfl
  have hsz0 : ((w.alloc (.cells #[.int .i64 c, .slice A rows.length cp] tM)).alloc (.cells #[.int .i64 0, .slice none 0 0, .slice none 0 0, .slice none 0 0, .int .i64 0] tRd)).heap.size = w.heap.size + 2 := by simp
  have HXA := Lib.hid xa
  have HXR := Lib.hid xr
  have HXN := Lib.hid xn
  clear hv hB hf hm xa xr xn
  go_enter Tryd.func60, Tryd.ntmps60
  go_wp2
  generalize (w.alloc (.cells #[.int .i64 c, .slice A rows.length cp] tM)).alloc (.cells #[.int .i64 0, .slice none 0 0, .slice none 0 0, .slice none 0 0, .int .i64 0] tRd) = W at HXA HXR HXN hsz0 ⊢
  obtain ⟨hx0, hx1, hxf0, hxf1, hxs⟩ := HXA.out.two
  have HELD : Hid (∀ w' : World, w'.heap[w.heap.size]? = W.heap[w.heap.size]? → w'.cell? ⟨w.heap.size, 0, none⟩ = some (.int .i64 c) ∧ w'.cell? ⟨w.heap.size, 1, none⟩ = some (.slice A rows.length cp)) := Lib.hid (fun w' H => ⟨(World.cell?_of_block (w := W) H).trans hx0, (World.cell?_of_block (w := W) H).trans hx1⟩)
  have HQ0 : Hid (W.drew.heap[w.heap.size]? = W.heap[w.heap.size]?) := Lib.hid rfl
  clear hx0 hx1 hxf0 hxf1 hxs
  go_region_held3 (fun w' => w'.cell? ⟨w.heap.size, 0, none⟩ = some (.int .i64 c) ∧ w'.cell? ⟨w.heap.size, 1, none⟩ = some (.slice A rows.length cp))
    (first | with_reducible exact HELD.out _ HQ0.out | with_reducible exact HELD.out _ HQ2.out | with_reducible exact HELD.out _ HQ3.out | exact HELD.out _ (((blk_setCell_other _ _ _ _ (by dsimp only; omega)).trans ((blk_setCell_other _ _ _ _ (by dsimp only; omega)).trans ((blk_setCell_other _ _ _ _ (by dsimp only; omega)).trans ((blk_setCell_other _ _ _ _ (by dsimp only; omega)).trans (blk_setCell_other _ _ _ _ (by dsimp only; omega)))))).trans HQ3.out))
    (first
      | (go_at_call 96; go_split_ands; refine (identityRows_cap W.drew rows.length (by omega)).mono ?_; rintro e w2 ⟨rfl, b2, o2⟩; generalize (⟨W.drew.heap.size, 0, none⟩ : Addr) = A2 at o2 ⊢; have hz2 : w.heap.size + 2 ≤ w2.heap.size := (by have h := b2.size; have h2 : W.drew.heap.size = W.heap.size := rfl; omega); have HQ2 : Hid (w2.heap[w.heap.size]? = W.heap[w.heap.size]?) := Lib.hid (b2.block _ (by show w.heap.size < W.heap.size; omega)); have HO2 := Lib.hid (OwG.mono (T := fun k => w.heap.size + 2 ≤ k ∧ k < w2.heap.size) o2 (fun q hq hl => ⟨by have h2 : W.drew.heap.size = W.heap.size := rfl; omega, hl⟩)); have HN2 : Hid (Below w.heap.size w w2) := Lib.hid (HXN.out.drew.trans (b2.mono (by show w.heap.size ≤ W.heap.size; omega))); have HR2 : Hid (CellsAt w2 (w.heap.size + 1) tRd [.int .i64 0, .slice none 0 0, .slice none 0 0, .slice none 0 0, .int .i64 0]) := Lib.hid (HXR.out.of_block (b2.block _ (by show w.heap.size + 1 < W.heap.size; omega))))
      | (go_at_call 95; go_split_ands; refine (reduceRows_any w2 B (fun k => w.heap.size + 2 ≤ k ∧ k < w2.heap.size) _ _ p rows.length c rows.length rows (idRows rows.length) (HV.out.below HN2.out HB.out) (by have h := HB.out; omega) HO2.out (fun k hk => hk.2) HF.out HM.out HMI.out hn hc hn).mono ?_; rintro e w3 ⟨Aa, ca, Al, cl, rfl, t3, oa3, ot3, ol3, -⟩; have hz3 := t3.size; have HQ3 : Hid (w3.heap[w.heap.size]? = W.heap[w.heap.size]?) := Lib.hid ((t3.block _ (by omega) (fun hq => by omega)).trans HQ2.out); have HR3 : Hid (CellsAt w3 (w.heap.size + 1) tRd [.int .i64 0, .slice none 0 0, .slice none 0 0, .slice none 0 0, .int .i64 0]) := Lib.hid (HR2.out.touch t3 (fun hq => by omega)); obtain ⟨hr0, hr1, hr2, hr3, hr4, hrf, hrs⟩ := HR3.out.five))
  have HSA := Lib.hid oa3
  have HST := Lib.hid ot3
  have HSL := Lib.hid ol3
  have HT3 := Lib.hid t3
  clear oa3 ot3 ol3 t3 b2 o2 HELD HQ0
  go_wp2
  refine bodyPost_ret (v := .agg #[.int .i64 p, .slice Aa rows.length ca, .slice (some A2) rows.length rows.length, .slice Al (red p rows (idRows rows.length) c).lead.length cl, .int .i64 (red p rows (idRows rows.length) c).fac]) (by simp [results, Tryd.results60, go_sem, hr0, hr1, hr2, hr3, hr4]) rfl ?_
  have hb : ∀ q, q ≠ w.heap.size + 1 → (((((w3.setCell ⟨w.heap.size + 1, 0, none⟩ (.int .i64 p)).setCell ⟨w.heap.size + 1, 1, none⟩ (.slice Aa rows.length ca)).setCell ⟨w.heap.size + 1, 2, none⟩ (.slice (some A2) rows.length rows.length)).setCell ⟨w.heap.size + 1, 3, none⟩ (.slice Al (red p rows (idRows rows.length) c).lead.length cl)).setCell ⟨w.heap.size + 1, 4, none⟩ (.int .i64 (red p rows (idRows rows.length) c).fac)).heap[q]? = w3.heap[q]? := fun q hq => by
    rw [blk_setCell_other _ _ _ _ (by dsimp only; exact hq), blk_setCell_other _ _ _ _ (by dsimp only; exact hq), blk_setCell_other _ _ _ _ (by dsimp only; exact hq), blk_setCell_other _ _ _ _ (by dsimp only; exact hq), blk_setCell_other _ _ _ _ (by dsimp only; exact hq)]
  refine ⟨Aa, ca, some A2, Al, cl, fun k => w2.heap.size ≤ k, fun k => w.heap.size + 2 ≤ k ∧ k < w2.heap.size, rfl, ?_, fun k hk => by omega, fun k hk => by omega, fun k h1 h2 => by omega, ?_, ?_, ?_⟩
  · have hbn : Below w.heap.size w w3 := HN2.out.trans (HT3.out.below (B := w.heap.size) (by omega) (fun k hk => by omega))
    exact ((((hbn.setCell (by dsimp only; omega) _).setCell (by dsimp only; omega) _).setCell (by dsimp only; omega) _).setCell (by dsimp only; omega) _).setCell (by dsimp only; omega) _
  · exact OwG.blocks HSA.out (fun q hq _ => hb q (by omega))
  · exact OwG.blocks HST.out (fun q hq _ => hb q (by omega))
  · refine (OwR.mono (T := fun k => w2.heap.size ≤ k) HSL.out (fun q hq _ => hq)).blocks (fun q hq _ _ _ => hb q (by omega)) |>.mono (fun q hq _ => by omega)
def MadeRMd (w : World) (p : Int) (n : Nat) (s : Red) (e : Ending) (w' : World) : Prop :=
  ∃ Aa ca At ct Al cl, ∃ (Sa St : Nat → Prop), Hid (ct = n) ∧ e = .returned (.agg #[.int .i64 p, .slice Aa n ca, .slice At n ct, .slice Al s.lead.length cl, .int .i64 s.fac]) ∧ Below w.heap.size w w' ∧ (∀ k, Sa k → w.heap.size ≤ k) ∧ (∀ k, St k → w.heap.size ≤ k) ∧ (∀ k, Sa k → St k → False) ∧ OwG w' tI tR Sa (.slice Aa n ca) s.a ∧ OwG w' tI tR St (.slice At n ct) s.t ∧
    OwR w' tI (fun k => w.heap.size ≤ k) (.slice Al s.lead.length cl) (ints s.lead)
theorem reduceMatrix_ct (w : World) (B : Nat) (v : Value) (p : Int) (n c : Nat) (rows : List (List Int)) (hv : RdG w B v rows) (hB : B ≤ w.heap.size) (hf : fld p = true) (hm : Mat p n c rows) (hn : n ≤ 1000000) (hc : c ≤ 1000000) :
    Calls Tryd.prog 60 #[.int .i64 p, .agg #[.int .i64 c, v]] w (MadeRMd w p n (red p rows (idRows n) c)) :=
  (reduceMatrix_cap w B v p n c rows hv hB hf hm hn hc).mono fun _ _ ⟨Aa, ca, At, Al, cl, Sa, St, h⟩ => ⟨Aa, ca, At, n, Al, cl, Sa, St, Lib.hid rfl, h⟩
end Go.Proofs.YtiiloioobmkicaaDoor
