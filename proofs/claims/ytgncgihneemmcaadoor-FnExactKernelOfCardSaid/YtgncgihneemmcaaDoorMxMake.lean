/- Zero matrices and unit matrices: both sides. -/
import Derived.Test.YtgncgihneemmcaaDoorMxK
import Derived.Test.YtgncgihneemmcaaDoorMx
import Derived.Test.YtgncgihneemmcaaDoorFdWalks
import Derived.Deep.RegionHeld3
namespace Go.Proofs.YtgncgihneemmcaaDoor
set_option maxRecDepth 100000
open Go Go.RowKit Go.Deep

abbrev tM : TypeId := 26
set_option maxHeartbeats 400000 in
theorem zeroRows_any (w : World) (n c : Nat) (hn : n ≤ 1000000) (hc : c ≤ 1000000) :
    Calls Tryd.prog 98 #[.int .i64 n, .int .i64 c] w (MadeG w (List.replicate n (List.replicate c 0))) := by
  have hmk := make_rows n (by omega)
  have hmk2 := make_ints c (by omega)
  go_enter Tryd.func98, Tryd.ntmps98
  go_wp2
  go_loopw [11, 6] (fun i t wr => ∃ (k : Nat) (vs : List Value), k ≤ n ∧ i = .int .i64 k ∧ Hid (Below w.heap.size w wr) ∧ Hid (w.heap.size < wr.heap.size) ∧ Hid (GridAt wr tI tR (fun b => w.heap.size ≤ b ∧ b < wr.heap.size) w.heap.size vs (upd (fun _ _ => List.replicate c 0) k (List.replicate n [])))) (fun i _ _ => n - (intOf i).toNat)
  case atStart => exact ⟨0, _, Nat.zero_le _, rfl, Lib.hid ((Below.refl _ _).alloc (Nat.le_refl _) _), Lib.hid (by rw [nblk_alloc]; omega), Lib.hid (by rw [upd_zero]; exact made_grid w _ _ ⟨Nat.le_refl _, by rw [nblk_alloc]; omega⟩)⟩
  case round =>
    obtain ⟨k, vs, hk, rfl, HB, HS, HG⟩ := hrel
    have HLN := Lib.hid (show (upd (fun _ _ => List.replicate c (0 : Int)) k (List.replicate n [])).length = n by rw [upd_len, List.length_replicate])
    by_cases hlt : k < n
    · have hg : w.heap.size < wr.heap.size := HS.out
      have hcell : ∀ o, (wr.alloc o).cell? ⟨w.heap.size, k, none⟩ = some (vs.getD k .nilFunc) := fun o => (World.cell?_of_block (w := wr) (blk_alloc_lt wr o _ hg)).trans (HG.out.cell (by rw [HLN.out]; exact hlt))
      have hf : ∀ o, (wr.alloc o).frozen? ⟨w.heap.size, k, none⟩ = false := fun o => (World.frozen?_of_block (w := wr) (blk_alloc_lt wr o _ hg)).trans (HG.out.outer.frozen k)
      have HP := Lib.hid (HG.out.putNew (fun q h => h.2) (r := k) (by rw [HLN.out]; exact hlt) (cs := madeCells #[.int .i64 0] c) (xs := List.replicate c 0) (n := c) (c := c) (by rw [toList_madeCells_one]; simp [icells]) (by simp))
      generalize vs.getD k Value.nilFunc = u at hcell
      go_wp2
      go_roundw
      case rel => exact ⟨k + 1, _, by omega, by go_num, Lib.hid ((HB.out.setCell (p := ⟨w.heap.size, k, none⟩) (Nat.le_refl _) _).alloc (by rw [nblk_setCell]; exact HB.out.size) _), Lib.hid (by rw [nblk_alloc, nblk_setCell]; have := HS.out; omega), Lib.hid (by
        have := HP.out
        rw [upd_step (fun _ _ => List.replicate c (0 : Int)) (by rw [List.length_replicate]; exact hlt) []] at this
        exact this.mono (T := fun b => w.heap.size ≤ b ∧ b < _) (fun q h hq => ⟨by have := HS.out; omega, hq⟩))⟩
      case measure => simp [intOf]; omega
    · go_wp2
      go_ret
      refine ⟨_, rfl, HB.out, some ⟨w.heap.size, 0, none⟩, n, by simp, Or.inr ⟨_, vs, rfl, ?_⟩⟩
      have := HG.out
      rw [upd_all _ (by rw [List.length_replicate]; omega), upd_repl] at this
      exact this.mono (fun q h _ => h.1)
set_option maxHeartbeats 400000 in
theorem mxZero_any (w : World) (n c : Nat) (hn : n ≤ 1000000) (hc : c ≤ 1000000) :
    Calls Tryd.prog 107 #[.int .i64 n, .int .i64 c] w (MadeM w c (List.replicate n (List.replicate c 0))) := by
  have hmk := make_rows n (by omega)
  have hmk2 := make_ints c (by omega)
  go_enter Tryd.func107, Tryd.ntmps107
  go_wp2
  go_loopw [14, 6] (fun i t wr => ∃ (k : Nat) (vs : List Value), k ≤ n ∧ i = .int .i64 k ∧ Hid (CellsAt wr w.heap.size tM [.int .i64 0, .slice none 0 0]) ∧ Hid (CellsAt wr (w.heap.size + 1 + 1) tM [.int .i64 c, .slice (some ⟨w.heap.size + 1, 0, none⟩) n n]) ∧ Hid (Below w.heap.size w wr) ∧ Hid (GridAt wr tI tR (fun b => w.heap.size + 1 ≤ b ∧ b ≠ w.heap.size + 2 ∧ b < wr.heap.size) (w.heap.size + 1) vs (upd (fun _ _ => List.replicate c 0) k (List.replicate n [])))) (fun i _ _ => n - (intOf i).toNat)
  case atStart => exact ⟨0, _, Nat.zero_le _, rfl, Lib.hid (((cellsAt_new _ _ _).alloc _).alloc _), Lib.hid (cellsAt_new' _ _ _ _ _ (by simp) rfl), Lib.hid ((((Below.refl _ _).alloc (Nat.le_refl _) _).alloc (by simp) _).alloc (by simp <;> omega) _), Lib.hid (by
    rw [upd_zero]
    have := (made_grid (w.alloc (Obj.cells #[Value.int IntKind.i64 0, Value.slice none 0 0] 26)) n (fun b => b = w.heap.size + 1) (by simp)).blocks (w' := ((w.alloc (Obj.cells #[Value.int IntKind.i64 0, Value.slice none 0 0] 26)).alloc (Obj.cells (madeCells #[Value.slice none 0 0] n) 37)).alloc (Obj.cells #[Value.int IntKind.i64 ↑c, Value.slice (some { block := w.heap.size + 1, off := 0 }) n n] 26)) (fun k hk hl => blk_alloc_lt _ _ _ hl)
    rw [nblk_alloc] at this
    exact this.mono (fun k hk hl => by simp; omega))⟩
  case round =>
    obtain ⟨k, vs, hk, rfl, HR, HX, HB, HG⟩ := hrel
    have HLN := Lib.hid (show (upd (fun _ _ => List.replicate c (0 : Int)) k (List.replicate n [])).length = n by rw [upd_len, List.length_replicate])
    obtain ⟨hr0, hr1, hrf0, hrf1, hrs⟩ := HR.out.two
    obtain ⟨hx0, hx1, hxf0, hxf1, hxs⟩ := HX.out.two
    have hgs := HG.out.outer.lt
    by_cases hlt : k < n
    · have hcell := HG.out.cell (r := k) (by rw [HLN.out]; exact hlt)
      have hf := HG.out.outer.frozen k
      have HP := Lib.hid (HG.out.putNew (fun q h => h.2.2) (r := k) (by rw [HLN.out]; exact hlt) (cs := madeCells #[.int .i64 0] c) (xs := List.replicate c 0) (n := c) (c := c) (by rw [toList_madeCells_one]; simp [icells]) (by simp))
      generalize vs.getD k Value.nilFunc = u at hcell
      go_wp2
      go_region
      all_goals go_wp2
      all_goals go_roundw
      case rel => exact ⟨k + 1, _, by omega, by go_num, Lib.hid (((HR.out.setOther (by simp) _).alloc _).drew), Lib.hid (((HX.out.setOther (by simp) _).alloc _).drew), Lib.hid (by refine Below.trans HB.out ?_; repeat' (first | exact Below.refl _ _ | apply Below.drew | apply Below.setCell | apply Below.alloc | (simp; done) | (simp; omega))), Lib.hid (by
        have := HP.out
        rw [upd_step (fun _ _ => List.replicate c (0 : Int)) (by rw [List.length_replicate]; exact hlt) []] at this
        exact this.drew.mono (fun q h hq => by simp at hq ⊢; omega))⟩
      case measure => simp [intOf]; omega
    · go_wp2
      refine bodyPost_ret (v := .agg #[.int .i64 c, .slice (some ⟨w.heap.size + 1, 0, none⟩) n n]) (by simp [results, Tryd.results107, go_sem, hr0, hr1]) rfl ?_
      refine ⟨_, rfl, by refine Below.trans HB.out ?_; repeat' (first | exact Below.refl _ _ | apply Below.drew | apply Below.setCell | apply Below.alloc | (simp; done) | (simp; omega)), some ⟨w.heap.size + 1, 0, none⟩, n, by simp, Or.inr ⟨_, vs, rfl, ?_⟩⟩
      have := HG.out
      rw [upd_all _ (by rw [List.length_replicate]; omega), upd_repl] at this
      refine (this.blocks (fun q h _ => ?_)).mono (fun q h _ => by omega)
      rw [blk_setCell_other _ _ _ _ (by simp; omega), blk_setCell_other _ _ _ _ (by simp; omega)]
set_option maxHeartbeats 400000 in
theorem identityRows_any (w : World) (n : Nat) (hn : n ≤ 1000000) :
    Calls Tryd.prog 97 #[.int .i64 n] w (MadeG w (idRows n)) := by
  go_enter Tryd.func97, Tryd.ntmps97
  go_wp2_with fail
  refine (zeroRows_any _ n n hn hn).mono ?_
  rintro e w1 ⟨v, rfl, hb, ho⟩
  obtain ⟨A, c, rfl⟩ := ho.len
  rw [List.length_replicate]
  have HB := Lib.hid hb
  have HO := Lib.hid ho
  clear hb ho
  go_wp2
  go_loopw [11, 4, 5] (fun i _ _ wr => ∃ k : Nat, k ≤ n ∧ i = .int .i64 k ∧ Hid (Below w.heap.size w wr) ∧ Hid (OwG wr tI tR (fun b => w.heap.size ≤ b) (.slice A n c) (upd (fun i r => r.set i 1) k (List.replicate n (List.replicate n 0))))) (fun i _ _ _ => n - (intOf i).toNat)
  case atStart => exact ⟨0, Nat.zero_le _, rfl, HB, Lib.hid (by rw [upd_zero]; rw [← List.length_replicate (n := n) (a := List.replicate n (0 : Int))]; simpa using HO.out)⟩
  case round =>
    obtain ⟨k, hk, rfl, HB2, HR⟩ := hrel
    by_cases hlt : k < n
    · have HLN := Lib.hid (show (upd (fun i (r : List Int) => r.set i 1) k (List.replicate n (List.replicate n 0))).length = n by rw [upd_len, List.length_replicate])
      have HGD := Lib.hid (show (upd (fun i (r : List Int) => r.set i 1) k (List.replicate n (List.replicate n 0))).getD k [] = List.replicate n 0 by rw [upd_getD _ (Nat.le_refl k), repl_getD' _ _ _ _ hlt])
      obtain ⟨g, c1, b, c2, e, hg, hgl, hc1, hbS, hbl, -, hc2, hf, hset⟩ := HR.out.at (r := k) (j := k) (by rw [HLN.out]; exact hlt) (by rw [HGD.out, List.length_replicate]; exact hlt)
      obtain ⟨rfl, -, rfl⟩ := sliceEq e
      rw [HGD.out, List.length_replicate] at hc1
      rw [HGD.out, repl_getD] at hc2
      have HSET := Lib.hid (hset 1)
      have HBS := Lib.hid hbS
      clear hset e hg hbS
      go_wp2
      go_roundw
      case rel => exact ⟨k + 1, by omega, by go_num, Lib.hid (HB2.out.setCell HBS.out _), Lib.hid (by
        rw [← upd_put _ (by rw [List.length_replicate]; exact hlt) []]
        exact HSET.out)⟩
      case measure => simp [intOf]; omega
    · go_wp2
      go_ret
      refine ⟨_, rfl, HB2.out, ?_⟩
      have := HR.out
      rw [upd_all _ (by rw [List.length_replicate]; omega)] at this
      exact this
set_option maxHeartbeats 400000 in
theorem mxId_any (w : World) (n : Nat) (hn : n ≤ 1000000) :
    Calls Tryd.prog 90 #[.int .i64 n] w (MadeM w n (idRows n)) := by
  go_enter Tryd.func90, Tryd.ntmps90
  go_wp2_with fail
  refine (mxZero_any _ n n hn hn).mono ?_
  rintro e w1 h
  obtain ⟨A, c, rfl, hb, ho⟩ := h.at
  clear h
  rw [List.length_replicate] at ho ⊢
  have HR := Lib.hid ((cellsAt_new w #[.int .i64 0, .slice none 0 0] tM).below hb (by simp))
  have HB := Lib.hid (Below.trans ((Below.refl w.heap.size w).alloc (Nat.le_refl _) (.cells #[.int .i64 0, .slice none 0 0] tM)) (hb.mono (by simp)))
  have HO := Lib.hid (ho.mono (T := fun b => w.heap.size + 1 ≤ b ∧ b < w1.heap.size) (fun q hq hl => ⟨by simpa using hq, hl⟩))
  have hs1 : w.heap.size + 1 ≤ w1.heap.size := by simpa using hb.size
  clear hb ho
  go_wp2
  go_loopw [4] (fun i wr => ∃ k : Nat, k ≤ n ∧ i = .int .i64 k ∧ Hid (Below w.heap.size w wr) ∧ Hid (CellsAt wr w.heap.size tM [.int .i64 0, .slice none 0 0]) ∧ Hid (CellsAt wr w1.heap.size tM [.int .i64 n, .slice A n c]) ∧ Hid (OwG wr tI tR (fun b => w.heap.size + 1 ≤ b ∧ b < w1.heap.size) (.slice A n c) (upd (fun i r => r.set i 1) k (List.replicate n (List.replicate n 0))))) (fun i _ => n - (intOf i).toNat)
  case atStart => exact ⟨0, Nat.zero_le _, rfl, Lib.hid (HB.out.alloc (by omega) _), Lib.hid (HR.out.alloc _), Lib.hid (cellsAt_new _ _ _), Lib.hid (by rw [upd_zero]; exact HO.out.blocks (fun q hq hl => blk_alloc_lt _ _ _ hl))⟩
  case round =>
    obtain ⟨k, hk, rfl, HB2, HR2, HX, HG⟩ := hrel
    obtain ⟨hr0, hr1, hrf0, hrf1, hrs⟩ := HR2.out.two
    obtain ⟨hx0, hx1, hxf0, hxf1, hxs⟩ := HX.out.two
    by_cases hlt : k < n
    · have HLN := Lib.hid (show (upd (fun i (r : List Int) => r.set i 1) k (List.replicate n (List.replicate n 0))).length = n by rw [upd_len, List.length_replicate])
      have HGD := Lib.hid (show (upd (fun i (r : List Int) => r.set i 1) k (List.replicate n (List.replicate n 0))).getD k [] = List.replicate n 0 by rw [upd_getD _ (Nat.le_refl k), repl_getD' _ _ _ _ hlt])
      obtain ⟨g, c1, b, c2, e, hg, hgl, hc1, hbS, hbl, -, hc2, hf, hset⟩ := HG.out.at (r := k) (j := k) (by rw [HLN.out]; exact hlt) (by rw [HGD.out, List.length_replicate]; exact hlt)
      obtain ⟨rfl, -, rfl⟩ := sliceEq e
      rw [HGD.out, List.length_replicate] at hc1
      rw [HGD.out, repl_getD] at hc2
      have HSET := Lib.hid (hset 1)
      have HBS := Lib.hid hbS
      clear hset e hg hbS
      go_wp2
      go_roundw
      case rel => exact ⟨k + 1, by omega, by go_num, Lib.hid (HB2.out.setCell (show w.heap.size ≤ b by have := HBS.out.1; omega) _), Lib.hid (HR2.out.setOther (by have := HBS.out.1; simp; omega) _), Lib.hid (HX.out.setOther (by have := HBS.out.2; simp; omega) _), Lib.hid (by
        rw [← upd_put _ (by rw [List.length_replicate]; exact hlt) []]
        exact HSET.out)⟩
      case measure => simp [intOf]; omega
    · go_wp2
      refine bodyPost_ret (v := .agg #[.int .i64 n, .slice A n c]) (by simp [results, Tryd.results90, go_sem, hr0, hr1]) rfl ?_
      refine ⟨_, rfl, (by refine Below.trans HB2.out ?_; repeat' (first | exact Below.refl _ _ | apply Below.drew | apply Below.setCell | apply Below.alloc | (simp; done) | (simp; omega))), ?_⟩
      have := HG.out
      rw [upd_all _ (by rw [List.length_replicate]; omega)] at this
      refine (this.blocks (fun q h _ => ?_)).mono (fun q h _ => by have := h.1; omega)
      rw [blk_setCell_other _ _ _ _ (by have := h.1; simp; omega), blk_setCell_other _ _ _ _ (by have := h.1; simp; omega)]
/-- Two cells of a box of the call's own, behind a call. -/
theorem box2 {w w1 : World} (hb : Below (w.heap.size + 1) (w.alloc (.cells #[.int .i64 0, .slice none 0 0] tM)) w1) :
    w1.cell? ⟨w.heap.size, 0, none⟩ = some (.int .i64 0) ∧ w1.cell? ⟨w.heap.size, 1, none⟩ = some (.slice none 0 0) ∧ w1.frozen? ⟨w.heap.size, 0, none⟩ = false ∧ w1.frozen? ⟨w.heap.size, 1, none⟩ = false ∧ w.heap.size < w1.heap.size :=
  ((cellsAt_new w #[.int .i64 0, .slice none 0 0] tM).below hb (by simp)).two
end Go.Proofs.YtgncgihneemmcaaDoor
