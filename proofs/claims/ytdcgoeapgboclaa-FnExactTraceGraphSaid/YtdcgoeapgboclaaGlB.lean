/- Fil Ren Rnb GlC GlP GlV GlE in one text. -/
import Derived.Test.YtdcgoeapgboclaaGlA
import Derived.Test.YtdcgoeapgboclaaIdG
import Derived.Test.YtdcgoeapgboclaaOpR
import Derived.Test.YtdcgoeapgboclaaRegL
import Derived.Test.YtdcgoeapgboclaaSrt
import Derived.Test.YtdcgoeapgboclaaGrP
import Derived.Deep.RegionHeld3
/-! A row that is filled place by place; elements of a list at indices: the program's side. -/
namespace Go.Proofs.Ytdcgoeapgboclaa
set_option maxRecDepth 100000
open Go Go.RowKit Go.Deep

/-- The first k places of a row of N hold what f says, the others 0. -/
def filK (f : Nat → Int) (N : Nat) : Nat → List Int
  | 0 => List.replicate N 0
  | k + 1 => (filK f N k).set k (f k)
theorem filK_len (f : Nat → Int) (N : Nat) : ∀ k, (filK f N k).length = N
  | 0 => by simp [filK]
  | k + 1 => by simp [filK, filK_len f N k]
theorem filK_at (f : Nat → Int) (N : Nat) : ∀ k j, k ≤ N → j < N → (filK f N k)[j]? = some (if j < k then f j else 0)
  | 0, j, _, hj => by simp [filK, hj]
  | k + 1, j, hk, hj => by
    rw [show filK f N (k + 1) = (filK f N k).set k (f k) from rfl, List.getElem?_set]
    by_cases c : k = j
    · subst c
      rw [if_pos rfl, if_pos (by rw [filK_len]; omega), if_pos (by omega)]
    · rw [if_neg c, filK_at f N k j (by omega) hj]
      by_cases d : j < k
      · rw [if_pos d, if_pos (by omega)]
      · rw [if_neg d, if_neg (by omega)]
theorem filK_all (f : Nat → Int) (N : Nat) : filK f N N = (List.range N).map f := by
  apply List.ext_getElem?
  intro j
  by_cases hj : j < N
  · rw [filK_at f N N j (Nat.le_refl _) hj, if_pos hj]
    simp [hj]
  · rw [List.getElem?_eq_none (by rw [filK_len]; omega), List.getElem?_eq_none (by simp; omega)]
theorem gidK_fil (N : Nat) : ∀ k, gidK N k = filK (fun j => (j : Int)) N k
  | 0 => rfl
  | k + 1 => by rw [show gidK N (k + 1) = (gidK N k).set k k from rfl, gidK_fil N k]; rfl
theorem gidK_range (N : Nat) : gidK N N = rangeI 0 N := by
  rw [gidK_fil, filK_all]
  unfold rangeI
  exact List.map_congr_left fun k _ => by simp
theorem range_map_getD (l : List Int) (f : Int → Int) : (List.range l.length).map (fun j => f (l.getD j 0)) = l.map f := by
  apply List.ext_getElem?
  intro j
  by_cases hj : j < l.length
  · simp [hj, List.getD_eq_getElem?_getD]
  · rw [List.getElem?_eq_none (by simp; omega), List.getElem?_eq_none (by simp; omega)]
set_option maxHeartbeats 1600000 in
set_option maxRecDepth 100000 in
theorem elAt_any (w : World) (B : Nat) (vx vi : Value) (xs idx : List Int) (hx : RdS w (fun b => b < B) vx xs) (hi : RdS w (fun b => b < B) vi idx) (hB : B ≤ w.heap.size) (hn : idx.length ≤ 1000000) (hb : inRg xs.length idx) :
    Calls Try.prog 75 #[vx, vi] w (MadeR w (pickL idx xs)) := by
  have hmk := make_ints idx.length (by omega)
  obtain ⟨Ax, cx, rfl⟩ := rdS_len hx
  obtain ⟨Ai, ci, rfl⟩ := rdS_len hi
  have HX := Lib.hid hx
  have HI := Lib.hid hi
  have HB := Lib.hid hB
  have HBD := Lib.hid hb
  have HPK := Lib.hid (show filK (fun j => xs.getD (idx.getD j 0).toNat 0) idx.length idx.length = pickL idx xs from by
    rw [filK_all]
    exact range_map_getD idx (fun x => xs.getD x.toNat 0))
  clear hx hi hB hb
  go_enter Try.func75, Try.ntmps75
  go_wp2
  go_loopw [13, 6, 7] (fun i _ _ wr => ∃ k : Nat, k ≤ idx.length ∧ i = .int .i64 k ∧ Hid (Below w.heap.size w wr) ∧ Hid (IR wr w.heap.size (filK (fun j => xs.getD (idx.getD j 0).toNat 0) idx.length k))) (fun i _ _ _ => idx.length - (intOf i).toNat)
  case atStart => exact ⟨0, Nat.zero_le _, rfl, Lib.hid ((Below.refl _ _).alloc (Nat.le_refl _) _), Lib.hid (made_ints w _)⟩
  case round =>
    obtain ⟨k, hk, rfl, HB1, HC1⟩ := hrel
    have hl1 := CellsAt.lt HC1.out
    have hf1 := CellsAt.frozen HC1.out
    by_cases hlt : k < idx.length
    · obtain ⟨b1, o1, rfl, hb1, hc1⟩ := RdS.at (HI.out.below HB1.out HB.out) hlt
      have hbd := HBD.out k hlt
      obtain ⟨fn, HNX0⟩ : ∃ x, Hid (filK (fun j => xs.getD (idx.getD j 0).toNat 0) idx.length (k + 1) = x) := ⟨_, Lib.hid rfl⟩
      have HNX := Lib.hid (show filK (fun j => xs.getD (idx.getD j 0).toNat 0) idx.length (k + 1) = (filK (fun j => xs.getD (idx.getD j 0).toNat 0) idx.length k).set k (xs.getD (idx.getD k 0).toNat 0) from rfl)
      rw [HNX0.out] at HNX
      have hms := HC1.out.at (k := k) (by rw [filK_len]; exact hlt)
      generalize filK (fun j => xs.getD (idx.getD j 0).toNat 0) idx.length k = fl at HC1 HNX hms
      generalize idx.getD k 0 = x at hc1 hbd HNX
      obtain ⟨q, rfl⟩ : ∃ q : Nat, x = (q : Int) := ⟨x.toNat, by omega⟩
      rw [Int.toNat_natCast] at HNX
      have hqn : q < xs.length := by omega
      obtain ⟨b2, o2, rfl, hb2, hc2⟩ := RdS.at (HX.out.below HB1.out HB.out) hqn
      generalize xs.getD q 0 = y at hc2 HNX
      generalize fl.getD k 0 = m1 at hms
      have hqI : (q : Int) < (xs.length : Int) := by omega
      have hkI : (k : Int) < (idx.length : Int) := by omega
      clear hbd
      go_wp2
      go_roundw
      all_goals first
        | exact ⟨k + 1, by omega, by go_num, Lib.hid (HB1.out.setCell (by dsimp only; omega) _), Lib.hid (by rw [HNX0.out, HNX.out]; exact HC1.out.put k y)⟩
        | (simp [intOf]; omega)
        | (trace_state; fail)
    · have hke : k = idx.length := by omega
      rw [hke, HPK.out] at HC1
      have hkn : ¬ (k : Int) < (idx.length : Int) := by omega
      clear hlt hke
      go_wp2
      go_ret
      exact ⟨_, rfl, HB1.out, owR_at (Nat.le_refl _) HC1.out (pickL_len _ _).symm⟩
end Go.Proofs.Ytdcgoeapgboclaa

/-! Wires replaced in the ends of an edge, in a graph: the program's side. -/
namespace Go.Proofs.Ytdcgoeapgboclaa
open Go Go.RowKit Go.Deep

set_option maxRecDepth 100000 in
set_option maxHeartbeats 3200000 in
theorem replaced_any (w : World) (B : Nat) (ui uo ut : Value) (xi xo tz : List Int) (hi : RdS w (fun q => q < B) ui xi) (ho : RdS w (fun q => q < B) uo xo) (ht : RdS w (fun q => q < B) ut tz) (hB : B ≤ w.heap.size) (hli : xi.length ≤ 1000000) (hlo : xo.length ≤ 1000000) (hai : inRg tz.length xi) (hao : inRg tz.length xo) :
    Calls Try.prog 87 #[.agg #[ui, uo], ut] w fun e w' => ∃ v1 v2, e = .returned (.agg #[v1, v2]) ∧ Below w.heap.size w w' ∧ OwR w' tI (fun q => w.heap.size ≤ q) v1 (pickL xi tz) ∧ OwR w' tI (fun q => w.heap.size ≤ q) v2 (pickL xo tz) := by
  obtain ⟨A1, c1, rfl⟩ := rdS_len hi
  obtain ⟨A2, c2, rfl⟩ := rdS_len ho
  obtain ⟨A3, c3, rfl⟩ := rdS_len ht
  have HLA := Lib.hid (fun (w' : World) (h : Below w.heap.size w w') => elAt_any w' B (.slice A3 tz.length c3) (.slice A1 xi.length c1) tz xi (ht.below h hB) (hi.below h hB) (Nat.le_trans hB h.size) hli hai)
  have HLB := Lib.hid (fun (w' : World) (h : Below w.heap.size w w') => elAt_any w' B (.slice A3 tz.length c3) (.slice A2 xo.length c2) tz xo (ht.below h hB) (ho.below h hB) (Nat.le_trans hB h.size) hlo hao)
  clear hi ho ht hB hai hao
  go_enter Try.func87, Try.ntmps87
  go_wp2
  obtain ⟨W, HW⟩ : ∃ W, W = (w.alloc (.cells #[.slice A1 xi.length c1, .slice A2 xo.length c2] 50)).alloc (.cells #[.slice none 0 0, .slice none 0 0] 50) := ⟨_, rfl⟩
  rw [← HW]
  have HWB := Lib.hid (show Below w.heap.size w W from by rw [HW]; exact ((Below.refl _ _).alloc (Nat.le_refl _) _).alloc (by simp) _)
  have hws : w.heap.size + 2 ≤ W.heap.size := by rw [HW]; simp
  have HWG := Lib.hid (show W.heap[w.heap.size]? = some (.cells #[.slice A1 xi.length c1, .slice A2 xo.length c2] 50 (0, 0)) from by rw [HW]; exact (blk_alloc_lt _ _ _ (by simp)).trans (blk_alloc_new w _))
  have HWR := Lib.hid (show W.heap[w.heap.size + 1]? = some (.cells #[.slice none 0 0, .slice none 0 0] 50 (0, 0)) from by rw [HW]; have := blk_alloc_new (w.alloc (.cells #[.slice A1 xi.length c1, .slice A2 xo.length c2] 50)) (.cells #[.slice none 0 0, .slice none 0 0] 50); simpa using this)
  clear HW
  have HS : Hid (∀ w' : World, Below W.heap.size W w' → (fun w' : World => w'.cell? ⟨w.heap.size, 0, none⟩ = some (.slice A1 xi.length c1) ∧ w'.cell? ⟨w.heap.size, 1, none⟩ = some (.slice A2 xo.length c2)) w') := Lib.hid (fun w' h => by
    have hb := (h.block w.heap.size (by omega)).trans HWG.out
    exact ⟨box_cell hb 0, box_cell hb 1⟩)
  refine wp_region_last (fun w' : World => w'.cell? ⟨w.heap.size, 0, none⟩ = some (.slice A1 xi.length c1) ∧ w'.cell? ⟨w.heap.size, 1, none⟩ = some (.slice A2 xo.length c2)) 9 (by kernel_rfl) (HS.out _ (Below.refl _ _).drew) (fun hHeld => ?_)
  refine wpAnyL_take (i := 0) (v := ?_) rfl (by kernel_rfl) (by kernel_rfl) (fun _ _ _ h => h) (by assumption) (by rfl) ?_ ?_
  rotate_left
  · (intro w hSw; (try dsimp only at hSw); go_simp; (try with_reducible rfl))
  (try simp only [Act.put, List.setIfInBounds_toArray])
  refine wpAnyL_take (i := 1) (v := ?_) rfl (by kernel_rfl) (by kernel_rfl) (fun _ _ _ h => h) (by assumption) (by rfl) ?_ ?_
  rotate_left
  · (intro w hSw; (try dsimp only at hSw); go_simp; (try with_reducible rfl))
  (try simp only [Act.put])
  refine wpAnyL_take (i := 2) (v := ?_) rfl (by kernel_rfl) (by kernel_rfl) (fun _ _ _ h => h) (by assumption) (by rfl) ?_ ?_
  rotate_left
  · (intro w hSw; (try dsimp only at hSw); go_simp; (try with_reducible rfl))
  (try simp only [Act.put])
  refine wpAnyL_take (i := 4) (v := ?_) rfl (by kernel_rfl) (by kernel_rfl) (fun _ _ _ h => h) (by assumption) (by rfl) ?_ ?_
  rotate_left
  · (intro w hSw; (try dsimp only at hSw); go_simp; (try with_reducible rfl))
  (try simp only [Act.put])
  refine wpAnyL_take (i := 5) (v := ?_) rfl (by kernel_rfl) (by kernel_rfl) (fun _ _ _ h => h) (by assumption) (by rfl) ?_ ?_
  rotate_left
  · (intro w hSw; (try dsimp only at hSw); go_simp; (try with_reducible rfl))
  (try simp only [Act.put])
  refine wpAnyL_take (i := 6) (v := ?_) rfl (by kernel_rfl) (by kernel_rfl) (fun _ _ _ h => h) (by assumption) (by rfl) ?_ ?_
  rotate_left
  · (intro w hSw; (try dsimp only at hSw); go_simp; (try with_reducible rfl))
  (try simp only [Act.put])
  refine wpAnyL_one (i := 3) (by kernel_rfl) rfl (fun K' hK => ?_)
  go_simp
  go_at_call 75
  refine (HLA.out W.drew HWB.out.drew).mono ?_
  rintro e w3 ⟨v3, rfl, b3, o3⟩
  obtain ⟨A6, c6, rfl⟩ := o3.len
  have HB3 : Hid (Below W.heap.size W w3) := Lib.hid ((Below.refl _ _).drew.trans b3)
  have HO3 := Lib.hid (o3.mono (T := fun q => W.heap.size ≤ q) (fun q hq _ => hq))
  clear b3 o3
  go_simp
  refine hK.out _ _ (HS.out _ HB3.out) (fun hHeld => ?_)
  clear hK K'
  (try simp only [Act.put, List.setIfInBounds_toArray, List.set_cons_zero, List.set_cons_succ])
  refine wpAnyL_one (i := 7) (by kernel_rfl) rfl (fun K' hK => ?_)
  go_simp
  go_at_call 75
  refine (HLB.out w3 (HWB.out.trans (HB3.out.mono HWB.out.size))).mono ?_
  rintro e w4 ⟨v4, rfl, b4, o4⟩
  obtain ⟨A7, c7, rfl⟩ := o4.len
  have HB4 : Hid (Below W.heap.size W w4) := Lib.hid (HB3.out.trans (b4.mono HB3.out.size))
  have HO4 := Lib.hid (o4.mono (T := fun q => W.heap.size ≤ q) (fun q hq _ => Nat.le_trans HB3.out.size hq))
  have HO5 := Lib.hid (OwR.blocks (w' := w4) (HO3.out.mono (T := fun q => W.heap.size ≤ q ∧ q < w3.heap.size) (fun q hq hl => ⟨hq, hl⟩)) (fun q hq hl _ _ => b4.block q hl))
  have hrb := (HB4.out.block (w.heap.size + 1) (by omega)).trans HWR.out
  have hx0 := box_cell hrb 0
  have hx1 := box_cell hrb 1
  have hxf := box_free hrb
  simp at hx0 hx1
  have hl4 : w.heap.size + 1 < w4.heap.size := by have := HB4.out.size; omega
  clear b4 o4 hrb
  go_simp
  refine hK.out _ _ (HS.out _ HB4.out) (fun hHeld => ?_)
  clear hK K'
  (try simp only [Act.put, List.setIfInBounds_toArray, List.set_cons_zero, List.set_cons_succ])
  refine wpAnyL_take (i := 8) (v := ?_) rfl (by kernel_rfl) (by kernel_rfl) (fun _ _ _ h => h) (by assumption) (by rfl) ?_ ?_
  rotate_left
  · (intro w hSw; (try dsimp only at hSw); go_simp; (try with_reducible rfl))
  (try simp only [Act.put, List.setIfInBounds_toArray])
  refine wpAnyL_last (by kernel_rfl) (by kernel_rfl) rfl (fun K' hK => ?_)
  go_simp
  refine hK.out _ _ ?_
  clear hK K'
  go_wp2
  have HBF := Lib.hid (show Below w.heap.size w ((w4.setCell ⟨w.heap.size + 1, 0, none⟩ (.slice A6 (pickL xi tz).length c6)).setCell ⟨w.heap.size + 1, 1, none⟩ (.slice A7 (pickL xo tz).length c7)) from by
    repeat' (first | exact HWB.out.trans (HB4.out.mono HWB.out.size) | apply Below.setCell | (simp; done)))
  refine bodyPost_ret (v := .agg #[.slice A6 (pickL xi tz).length c6, .slice A7 (pickL xo tz).length c7]) (by simp [results, Try.results87, go_sem, hx0, hx1]) rfl ?_
  refine ⟨_, _, rfl, HBF.out, ?_, ?_⟩
  · exact (HO5.out.blocks (fun q hq _ _ _ => by repeat rw [blk_setCell_other _ _ _ _ (by dsimp only; omega)])).mono fun q hq _ => by omega
  · exact (HO4.out.blocks (fun q hq _ _ _ => by repeat rw [blk_setCell_other _ _ _ _ (by dsimp only; omega)])).mono fun q hq _ => by omega
/-- The first k edges of a row of open edges in a block of its own. -/
def OEs (w : World) (lo be : Nat) (es : List Ed) (k : Nat) : Prop := ∀ j, j < k → ∃ A1 c1 A2 c2, w.cell? ⟨be, j * 5, none⟩ = some (.slice A1 (es.getD j ed0).i.length c1) ∧ w.cell? ⟨be, j * 5 + 1, none⟩ = some (.slice A2 (es.getD j ed0).o.length c2) ∧ w.cell? ⟨be, j * 5 + 2, none⟩ = some (.int .i64 (es.getD j ed0).k) ∧ w.cell? ⟨be, j * 5 + 3, none⟩ = some (.int .i64 (es.getD j ed0).v) ∧ w.cell? ⟨be, j * 5 + 4, none⟩ = some (.string ByteArray.empty) ∧
  RdS w (fun q => lo ≤ q ∧ q < w.heap.size ∧ q ≠ be) (.slice A1 (es.getD j ed0).i.length c1) (es.getD j ed0).i ∧ RdS w (fun q => lo ≤ q ∧ q < w.heap.size ∧ q ≠ be) (.slice A2 (es.getD j ed0).o.length c2) (es.getD j ed0).o
theorem OEs.below {w w' : World} {lo be : Nat} {es : List Ed} {k : Nat} (h : OEs w lo be es k) (hb : Below w.heap.size w w') (hbe : be < w.heap.size)   : OEs w' lo be es k := fun j hj => by
  obtain ⟨A1, c1, A2, c2, d0, d1, d2, d3, d4, r1, r2⟩ := h j hj
  have hc : ∀ i, w'.cell? ⟨be, i, none⟩ = w.cell? ⟨be, i, none⟩ := fun i => hb.cell (p := ⟨be, i, none⟩) hbe
  have hs := hb.size
  refine ⟨A1, c1, A2, c2, (hc _).trans d0, (hc _).trans d1, (hc _).trans d2, (hc _).trans d3, (hc _).trans d4, ?_, ?_⟩
  · exact (r1.blocks (fun q hq => hb.block q hq.2.1)).mono fun q hq => ⟨hq.1, by omega, hq.2.2⟩
  · exact (r2.blocks (fun q hq => hb.block q hq.2.1)).mono fun q hq => ⟨hq.1, by omega, hq.2.2⟩
theorem OEs.put {w : World} {lo be : Nat} {es : List Ed} {k : Nat} {t : TypeId} {cs : List Value} (h : OEs w lo be es k) (hcs : CellsAt w be t cs) (hl : (k + 1) * 5 ≤ cs.length) {A1 A2 : Option Addr} {c1 c2 : Nat} {e : Ed} (he : e = es.getD k ed0) (h1 : RdS w (fun q => lo ≤ q ∧ q < w.heap.size ∧ q ≠ be) (.slice A1 e.i.length c1) e.i) (h2 : RdS w (fun q => lo ≤ q ∧ q < w.heap.size ∧ q ≠ be) (.slice A2 e.o.length c2) e.o) :
    OEs (((((w.setCell ⟨be, k * 5, none⟩ (.slice A1 e.i.length c1)).setCell ⟨be, k * 5 + 1, none⟩ (.slice A2 e.o.length c2)).setCell ⟨be, k * 5 + 2, none⟩ (.int .i64 e.k)).setCell ⟨be, k * 5 + 3, none⟩ (.int .i64 e.v)).setCell ⟨be, k * 5 + 4, none⟩ (.string ByteArray.empty)) lo be es (k + 1) := by
  subst he
  have hcn := ((((hcs.set (k * 5) (.slice A1 (es.getD k ed0).i.length c1)).set (k * 5 + 1) (.slice A2 (es.getD k ed0).o.length c2)).set (k * 5 + 2) (.int .i64 (es.getD k ed0).k)).set (k * 5 + 3) (.int .i64 (es.getD k ed0).v)).set (k * 5 + 4) (.string ByteArray.empty)
  have hsz : (((((w.setCell ⟨be, k * 5, none⟩ (.slice A1 (es.getD k ed0).i.length c1)).setCell ⟨be, k * 5 + 1, none⟩ (.slice A2 (es.getD k ed0).o.length c2)).setCell ⟨be, k * 5 + 2, none⟩ (.int .i64 (es.getD k ed0).k)).setCell ⟨be, k * 5 + 3, none⟩ (.int .i64 (es.getD k ed0).v)).setCell ⟨be, k * 5 + 4, none⟩ (.string ByteArray.empty)).heap.size = w.heap.size := by simp
  have hrow : ∀ (A : Option Addr) (n c : Nat) (xs : List Int), RdS w (fun q => lo ≤ q ∧ q < w.heap.size ∧ q ≠ be) (.slice A n c) xs → RdS (((((w.setCell ⟨be, k * 5, none⟩ (.slice A1 (es.getD k ed0).i.length c1)).setCell ⟨be, k * 5 + 1, none⟩ (.slice A2 (es.getD k ed0).o.length c2)).setCell ⟨be, k * 5 + 2, none⟩ (.int .i64 (es.getD k ed0).k)).setCell ⟨be, k * 5 + 3, none⟩ (.int .i64 (es.getD k ed0).v)).setCell ⟨be, k * 5 + 4, none⟩ (.string ByteArray.empty)) (fun q => lo ≤ q ∧ q < (((((w.setCell ⟨be, k * 5, none⟩ (.slice A1 (es.getD k ed0).i.length c1)).setCell ⟨be, k * 5 + 1, none⟩ (.slice A2 (es.getD k ed0).o.length c2)).setCell ⟨be, k * 5 + 2, none⟩ (.int .i64 (es.getD k ed0).k)).setCell ⟨be, k * 5 + 3, none⟩ (.int .i64 (es.getD k ed0).v)).setCell ⟨be, k * 5 + 4, none⟩ (.string ByteArray.empty)).heap.size ∧ q ≠ be) (.slice A n c) xs := fun A n c xs h => by
    rw [hsz]
    exact h.blocks fun q hq => by repeat rw [blk_setCell_other _ _ _ _ (by dsimp only; omega)]
  intro j hj
  have hcell : ∀ i, i < 5 → j ≠ k → (((((w.setCell ⟨be, k * 5, none⟩ (.slice A1 (es.getD k ed0).i.length c1)).setCell ⟨be, k * 5 + 1, none⟩ (.slice A2 (es.getD k ed0).o.length c2)).setCell ⟨be, k * 5 + 2, none⟩ (.int .i64 (es.getD k ed0).k)).setCell ⟨be, k * 5 + 3, none⟩ (.int .i64 (es.getD k ed0).v)).setCell ⟨be, k * 5 + 4, none⟩ (.string ByteArray.empty)).cell? ⟨be, j * 5 + i, none⟩ = w.cell? ⟨be, j * 5 + i, none⟩ := fun i hi hjk => by
    repeat rw [World.cell?_setCell_other _ _ _ _ (by intro e; simp only [Addr.mk.injEq] at e; omega)]
  by_cases c : j < k
  · obtain ⟨B1, d1, B2, d2, e0, e1, e2, e3, e4, r1, r2⟩ := h j c
    exact ⟨B1, d1, B2, d2, (hcell 0 (by omega) (by omega)).trans e0, (hcell 1 (by omega) (by omega)).trans e1, (hcell 2 (by omega) (by omega)).trans e2, (hcell 3 (by omega) (by omega)).trans e3, (hcell 4 (by omega) (by omega)).trans e4, hrow _ _ _ _ r1, hrow _ _ _ _ r2⟩
  · obtain rfl : j = k := by omega
    have hg : ∀ i, i < 5 → _ := fun i (hi : i < 5) => hcn.cell (i := j * 5 + i) (by simp; omega)
    refine ⟨A1, c1, A2, c2, (hg 0 (by omega)).trans ?_, (hg 1 (by omega)).trans ?_, (hg 2 (by omega)).trans ?_, (hg 3 (by omega)).trans ?_, (hg 4 (by omega)).trans ?_, hrow _ _ _ _ h1, hrow _ _ _ _ h2⟩
    all_goals ((repeat rw [List.getElem?_set_ne (by omega)]); exact List.getElem?_set_self (by first | omega | (simp only [List.length_set]; omega)))
theorem OEs.other {w : World} {lo be b' i : Nat} {es : List Ed} {k : Nat} (h : OEs w lo be es k) (h1 : b' < lo) (h2 : b' ≠ be) (v : Value) : OEs (w.setCell ⟨b', i, none⟩ v) lo be es k := fun j hj => by
  obtain ⟨A1, c1, A2, c2, d0, d1, d2, d3, d4, r1, r2⟩ := h j hj
  have hc : ∀ n, (w.setCell ⟨b', i, none⟩ v).cell? ⟨be, n, none⟩ = w.cell? ⟨be, n, none⟩ := fun n => World.cell?_setCell_other _ _ _ _ (by intro e; simp only [Addr.mk.injEq] at e; omega)
  have hs : (w.setCell ⟨b', i, none⟩ v).heap.size = w.heap.size := by simp
  refine ⟨A1, c1, A2, c2, (hc _).trans d0, (hc _).trans d1, (hc _).trans d2, (hc _).trans d3, (hc _).trans d4, ?_, ?_⟩
  · rw [hs]
    exact r1.blocks (fun q hq => blk_setCell_other _ _ _ _ (by dsimp only; omega))
  · rw [hs]
    exact r2.blocks (fun q hq => blk_setCell_other _ _ _ _ (by dsimp only; omega))
theorem OEs.rd {w : World} {lo be : Nat} {es : List Ed} (h : OEs w lo be es es.length) (hbe : be < w.heap.size) : RdO w w.heap.size (.slice (some ⟨be, 0, none⟩) es.length es.length) es :=
  ⟨_, _, rfl, Nat.le_refl _, fun k hk => by
    obtain ⟨A1, c1, A2, c2, d0, d1, d2, d3, d4, r1, r2⟩ := h k hk
    exact ⟨be, 0, A1, c1, A2, c2, rfl, hbe, by rw [Nat.zero_add]; exact d0, by rw [Nat.zero_add]; exact d1, by rw [Nat.zero_add]; exact d2, by rw [Nat.zero_add]; exact d3, by rw [Nat.zero_add]; exact d4, r1.mono (fun q hq => hq.2.1), r2.mono (fun q hq => hq.2.1)⟩⟩
/-- An open graph whose lists lie in blocks from n0 on. -/
structure OwO (n0 : Nat) (w : World) (v1 v2 v3 : Value) (es : List Ed) (xi xo : List Int) : Prop where
  li : RdS w (fun q => n0 ≤ q ∧ q < w.heap.size) v1 xi
  lo : RdS w (fun q => n0 ≤ q ∧ q < w.heap.size) v2 xo
  le : ∃ be l0, v3 = .slice (some ⟨be, 0, none⟩) es.length es.length ∧ OEs w l0 be es es.length ∧ n0 ≤ l0 ∧ n0 ≤ be ∧ be < w.heap.size
theorem OwO.mono {n0 n1 : Nat} {w : World} {v1 v2 v3 : Value} {es : List Ed} {xi xo : List Int} (h : OwO n0 w v1 v2 v3 es xi xo) (hn : n1 ≤ n0) : OwO n1 w v1 v2 v3 es xi xo := by
  obtain ⟨be, l0, e, h1, h2, h3, h4⟩ := h.le
  exact ⟨h.li.mono (fun q hq => ⟨by omega, hq.2⟩), h.lo.mono (fun q hq => ⟨by omega, hq.2⟩), be, l0, e, h1, by omega, by omega, h4⟩
theorem OwO.other {n0 b' i : Nat} {w : World} {v1 v2 v3 : Value} {es : List Ed} {xi xo : List Int} (h : OwO n0 w v1 v2 v3 es xi xo) (hb : b' < n0) (v : Value) : OwO n0 (w.setCell ⟨b', i, none⟩ v) v1 v2 v3 es xi xo := by
  obtain ⟨be, l0, e, h1, h2, h3, h4⟩ := h.le
  have hs : (w.setCell ⟨b', i, none⟩ v).heap.size = w.heap.size := by simp
  refine ⟨?_, ?_, be, l0, e, h1.other (by omega) (by omega) v, h2, h3, by rw [hs]; exact h4⟩
  · rw [hs]
    exact h.li.blocks (fun q hq => blk_setCell_other _ _ _ _ (by dsimp only; omega))
  · rw [hs]
    exact h.lo.blocks (fun q hq => blk_setCell_other _ _ _ _ (by dsimp only; omega))
theorem OwO.below {n0 : Nat} {w w' : World} {v1 v2 v3 : Value} {es : List Ed} {xi xo : List Int} (h : OwO n0 w v1 v2 v3 es xi xo) (hb : Below w.heap.size w w') : OwO n0 w' v1 v2 v3 es xi xo := by
  obtain ⟨be, l0, e, h1, h2, h3, h4⟩ := h.le
  have hs := hb.size
  exact ⟨(h.li.blocks (fun q hq => hb.block q hq.2)).mono (fun q hq => ⟨hq.1, by omega⟩), (h.lo.blocks (fun q hq => hb.block q hq.2)).mono (fun q hq => ⟨hq.1, by omega⟩), be, l0, e, h1.below hb h4, h2, h3, by omega⟩
theorem OwO.rd {n0 : Nat} {w : World} {v1 v2 v3 : Value} {es : List Ed} {xi xo : List Int} (h : OwO n0 w v1 v2 v3 es xi xo) : RdS w (fun q => q < w.heap.size) v1 xi ∧ RdS w (fun q => q < w.heap.size) v2 xo ∧ RdO w w.heap.size v3 es := by
  obtain ⟨be, l0, e, h1, h2, h3, h4⟩ := h.le
  subst e
  exact ⟨h.li.mono (fun q hq => hq.2), h.lo.mono (fun q hq => hq.2), h1.rd h4⟩
end Go.Proofs.Ytdcgoeapgboclaa

/-! Wires renumbered in a graph: the program's side. -/
namespace Go.Proofs.Ytdcgoeapgboclaa
open Go Go.RowKit Go.Deep

theorem mapEs_at {tz : List Int} {es : List Ed} {k : Nat} (h : k < es.length) : (mapEs tz es).getD k ed0 = mapE tz (es.getD k ed0) := by
  simp [mapEs, List.getD_eq_getElem?_getD, h]
set_option maxRecDepth 100000 in
set_option maxHeartbeats 6400000 in
theorem renumbered_any (w : World) (B : Nat) (ui uo ue ut : Value) (n m : Int) (es : List Ed) (xi xo tz : List Int) (hi : RdS w (fun q => q < B) ui xi) (ho : RdS w (fun q => q < B) uo xo) (he : RdO w B ue es) (ht : RdS w (fun q => q < B) ut tz) (hB : B ≤ w.heap.size)
    (hle : es.length ≤ 1000) (hli : xi.length ≤ 1000) (hlo : xo.length ≤ 1000) (hlr : ∀ k, k < es.length → (es.getD k ed0).i.length ≤ 1000 ∧ (es.getD k ed0).o.length ≤ 1000) (hai : inRg tz.length xi) (hao : inRg tz.length xo) (hae : ∀ k, k < es.length → inRg tz.length (es.getD k ed0).i ∧ inRg tz.length (es.getD k ed0).o) :
    Calls Try.prog 65 #[ogV ui uo n ue, ut, .int .i64 m] w fun e w' => ∃ v1 v2 v3, e = .returned (ogV v1 v2 m v3) ∧ Below w.heap.size w w' ∧ OwO w.heap.size w' v1 v2 v3 (mapEs tz es) (pickL xi tz) (pickL xo tz) := by
  obtain ⟨A1, c1, rfl⟩ := rdS_len hi
  obtain ⟨A2, c2, rfl⟩ := rdS_len ho
  obtain ⟨A3, c3, rfl⟩ := rdS_len ht
  obtain ⟨AE, cE, rfl⟩ := he.len
  have HB := Lib.hid hB
  have HE := Lib.hid he
  have HT := Lib.hid ht
  have HLR := Lib.hid hlr
  have HAE := Lib.hid hae
  have hmk := make_opens es.length (by omega)
  have HRP := Lib.hid (fun (w' : World) (h : Below w.heap.size w w') => replaced_any w' B (.slice A1 xi.length c1) (.slice A2 xo.length c2) (.slice A3 tz.length c3) xi xo tz (hi.below h hB) (ho.below h hB) (ht.below h hB) (Nat.le_trans hB h.size) (by omega) (by omega) hai hao)
  have HML := Lib.hid (mapEs_len tz es)
  clear hi ho he ht hB hlr hai hao hae
  unfold ogV
  go_enter Try.func65, Try.ntmps65
  go_upto_region 1 with fail
  obtain ⟨W, HW⟩ : ∃ W, W = (w.alloc (.cells #[.slice A1 xi.length c1, .slice A2 xo.length c2, .int .i64 n, .slice AE es.length cE] 53)).alloc (.cells #[.slice none 0 0, .slice none 0 0, .int .i64 0, .slice none 0 0] 53) := ⟨_, rfl⟩
  rw [← HW]
  have HWB := Lib.hid (show Below w.heap.size w W from by rw [HW]; exact ((Below.refl _ _).alloc (Nat.le_refl _) _).alloc (by simp) _)
  have hws : w.heap.size + 2 ≤ W.heap.size := by rw [HW]; simp
  have HWG := Lib.hid (show W.heap[w.heap.size]? = some (.cells #[.slice A1 xi.length c1, .slice A2 xo.length c2, .int .i64 n, .slice AE es.length cE] 53 (0, 0)) from by rw [HW]; exact (blk_alloc_lt _ _ _ (by simp)).trans (blk_alloc_new w _))
  have HWR := Lib.hid (show W.heap[w.heap.size + 1]? = some (.cells #[.slice none 0 0, .slice none 0 0, .int .i64 0, .slice none 0 0] 53 (0, 0)) from by rw [HW]; have := blk_alloc_new (w.alloc (.cells #[.slice A1 xi.length c1, .slice A2 xo.length c2, .int .i64 n, .slice AE es.length cE] 53)) (.cells #[.slice none 0 0, .slice none 0 0, .int .i64 0, .slice none 0 0] 53); simpa using this)
  clear HW
  have hg3 := box_cell HWG.out 3
  simp at hg3
  have HW1 := Lib.hid (show Below W.heap.size W (W.alloc (.cells (madeCells #[.slice none 0 0, .slice none 0 0, .int .i64 0, .int .i64 0, .string ByteArray.empty] (es.length * 5)) 70)) from (Below.refl _ _).alloc (Nat.le_refl _) _)
  have hg3b : (W.alloc (.cells (madeCells #[.slice none 0 0, .slice none 0 0, .int .i64 0, .int .i64 0, .string ByteArray.empty] (es.length * 5)) 70)).cell? ⟨w.heap.size, 3, none⟩ = some (.slice AE es.length cE) := (HW1.out.cell (p := ⟨w.heap.size, 3, none⟩) (by dsimp only; omega)).trans hg3
  have HC0 := Lib.hid (show ∃ cs : List Value, CellsAt (W.alloc (.cells (madeCells #[.slice none 0 0, .slice none 0 0, .int .i64 0, .int .i64 0, .string ByteArray.empty] (es.length * 5)) 70)) W.heap.size 70 cs ∧ cs.length = es.length * 5 from ⟨_, cellsAt_new _ _ _, by simp [madeCells]⟩)
  go_wp2
  go_loopw [17, 8, 9] (fun i _ _ wr => ∃ k : Nat, k ≤ es.length ∧ i = .int .i64 k ∧ Hid (Below W.heap.size W wr) ∧ Hid (∃ cs : List Value, CellsAt wr W.heap.size 70 cs ∧ cs.length = es.length * 5) ∧ Hid (OEs wr W.heap.size W.heap.size (mapEs tz es) k)) (fun i _ _ _ => es.length - (intOf i).toNat)
  case atStart => exact ⟨0, Nat.zero_le _, rfl, HW1, HC0, Lib.hid (fun j hj => absurd hj (Nat.not_lt_zero j))⟩
  case round =>
    clear hg3 hg3b HC0 HW1
    obtain ⟨k, hk, rfl, HB3, HC3, HO3⟩ := hrel
    obtain ⟨cs, hcs, hcl⟩ := HC3.out
    have HC4 := Lib.hid hcs
    have HCL := Lib.hid hcl
    have hos := hcs.lt
    have hwr := HB3.out.size
    have HBW := Lib.hid (HWB.out.trans (HB3.out.mono HWB.out.size))
    clear hcs hcl
    by_cases hlt : k < es.length
    · obtain ⟨b, o, B1, d1, B2, d2, rfl, hb, hc0, hc1, hc2, hc3, hc4, r1, r2⟩ := (HE.out.below HBW.out HB.out).at hlt
      have HNE := Lib.hid (mapEs_at (tz := tz) hlt)
      obtain ⟨s1, s2⟩ := HLR.out k hlt
      obtain ⟨a1, a2⟩ := HAE.out k hlt
      obtain ⟨x0, hu0⟩ : ∃ u, wr.cell? ⟨W.heap.size, k * 5, none⟩ = some u := ⟨_, (HC4.out.cell (i := k * 5) (by rw [HCL.out]; omega)).trans (List.getElem?_eq_getElem (by rw [HCL.out]; omega))⟩
      obtain ⟨x1, hu1⟩ : ∃ u, wr.cell? ⟨W.heap.size, k * 5 + 1, none⟩ = some u := ⟨_, (HC4.out.cell (i := k * 5 + 1) (by rw [HCL.out]; omega)).trans (List.getElem?_eq_getElem (by rw [HCL.out]; omega))⟩
      obtain ⟨x2, hu2⟩ : ∃ u, wr.cell? ⟨W.heap.size, k * 5 + 2, none⟩ = some u := ⟨_, (HC4.out.cell (i := k * 5 + 2) (by rw [HCL.out]; omega)).trans (List.getElem?_eq_getElem (by rw [HCL.out]; omega))⟩
      obtain ⟨x3, hu3⟩ : ∃ u, wr.cell? ⟨W.heap.size, k * 5 + 3, none⟩ = some u := ⟨_, (HC4.out.cell (i := k * 5 + 3) (by rw [HCL.out]; omega)).trans (List.getElem?_eq_getElem (by rw [HCL.out]; omega))⟩
      obtain ⟨x4, hu4⟩ : ∃ u, wr.cell? ⟨W.heap.size, k * 5 + 4, none⟩ = some u := ⟨_, (HC4.out.cell (i := k * 5 + 4) (by rw [HCL.out]; omega)).trans (List.getElem?_eq_getElem (by rw [HCL.out]; omega))⟩
      have hkI : (k : Int) < (es.length : Int) := by omega
      generalize es.getD k ed0 = ed at hc0 hc1 hc2 hc3 hc4 r1 r2 HNE s1 s2 a1 a2
      have hbB : B ≤ wr.heap.size := Nat.le_trans HB.out HBW.out.size
      have HRE := Lib.hid (fun (w' : World) (h : Below wr.heap.size wr w') => replaced_any w' B (.slice B1 ed.i.length d1) (.slice B2 ed.o.length d2) (.slice A3 tz.length c3) ed.i ed.o tz (r1.below h hbB) (r2.below h hbB) ((HT.out.below HBW.out HB.out).below h hbB) (Nat.le_trans hbB h.size) (by omega) (by omega) a1 a2)
      have HNE2 := Lib.hid (show (⟨ed.k, ed.v, pickL ed.i tz, pickL ed.o tz⟩ : Ed) = (mapEs tz es).getD k ed0 from HNE.out.symm)
      generalize pickL ed.i tz = zi at HRE HNE2
      generalize pickL ed.o tz = zo at HRE HNE2
      clear r1 r2 a1 a2 HNE
      go_wp2
      obtain ⟨WE, HWEQ⟩ : ∃ x, x = wr.alloc (.cells #[.slice B1 ed.i.length d1, .slice B2 ed.o.length d2, .int .i64 ed.k, .int .i64 ed.v, .string ByteArray.empty] 70) := ⟨_, rfl⟩
      rw [← HWEQ]
      have HEB := Lib.hid (show Below wr.heap.size wr WE from by rw [HWEQ]; exact (Below.refl _ _).alloc (Nat.le_refl _) _)
      have hes : wr.heap.size + 1 ≤ WE.heap.size := by rw [HWEQ]; simp
      have HEE := Lib.hid (show WE.heap[wr.heap.size]? = some (.cells #[.slice B1 ed.i.length d1, .slice B2 ed.o.length d2, .int .i64 ed.k, .int .i64 ed.v, .string ByteArray.empty] 70 (0, 0)) from by rw [HWEQ]; exact blk_alloc_new _ _)
      clear HWEQ hc0 hc1 hc2 hc3 hc4
      have HCEL : Hid (∀ w' : World, Below WE.heap.size WE w' → w'.cell? ⟨W.heap.size, k * 5, none⟩ = some x0 ∧ w'.cell? ⟨W.heap.size, k * 5 + 1, none⟩ = some x1 ∧ w'.cell? ⟨W.heap.size, k * 5 + 2, none⟩ = some x2 ∧ w'.cell? ⟨W.heap.size, k * 5 + 3, none⟩ = some x3 ∧ w'.cell? ⟨W.heap.size, k * 5 + 4, none⟩ = some x4 ∧ ∀ i, w'.frozen? ⟨W.heap.size, i, none⟩ = false) := Lib.hid (fun w' h => by
        have hg : w'.heap[W.heap.size]? = wr.heap[W.heap.size]? := (h.block _ (by omega)).trans (HEB.out.block _ hos)
        have cc : ∀ i, w'.cell? ⟨W.heap.size, i, none⟩ = wr.cell? ⟨W.heap.size, i, none⟩ := fun i => World.cell?_of_block (w := wr) hg
        have hcg := HC4.out.of_block hg
        exact ⟨(cc _).trans hu0, (cc _).trans hu1, (cc _).trans hu2, (cc _).trans hu3, (cc _).trans hu4, fun i => hcg.frozen i⟩)
      clear hu0 hu1 hu2 hu3 hu4
      have HS : Hid (∀ w' : World, Below WE.heap.size WE w' → (fun w' : World => w'.cell? ⟨wr.heap.size, 0, none⟩ = some (.slice B1 ed.i.length d1) ∧ w'.cell? ⟨wr.heap.size, 1, none⟩ = some (.slice B2 ed.o.length d2) ∧ w'.cell? ⟨wr.heap.size, 2, none⟩ = some (.int .i64 ed.k) ∧ w'.cell? ⟨wr.heap.size, 3, none⟩ = some (.int .i64 ed.v) ∧ w'.cell? ⟨wr.heap.size, 4, none⟩ = some (.string ByteArray.empty)) w') := Lib.hid (fun w' h => by
        have hb := (h.block wr.heap.size (by omega)).trans HEE.out
        exact ⟨box_cell hb 0, box_cell hb 1, box_cell hb 2, box_cell hb 3, box_cell hb 4⟩)
      refine wp_region_last (fun w' : World => w'.cell? ⟨wr.heap.size, 0, none⟩ = some (.slice B1 ed.i.length d1) ∧ w'.cell? ⟨wr.heap.size, 1, none⟩ = some (.slice B2 ed.o.length d2) ∧ w'.cell? ⟨wr.heap.size, 2, none⟩ = some (.int .i64 ed.k) ∧ w'.cell? ⟨wr.heap.size, 3, none⟩ = some (.int .i64 ed.v) ∧ w'.cell? ⟨wr.heap.size, 4, none⟩ = some (.string ByteArray.empty)) 10 (by kernel_rfl) (HS.out _ (Below.refl _ _).drew) (fun hHeld => ?_)
      refine wpAnyL_take (i := 0) (v := ?_) rfl (by kernel_rfl) (by kernel_rfl) (fun _ _ _ h => h) (by assumption) (by rfl) ?_ ?_
      rotate_left
      · (intro w hSw; (try dsimp only at hSw); go_simp; (try with_reducible rfl))
      (try simp only [Act.put, List.setIfInBounds_toArray])
      refine wpAnyL_take (i := 1) (v := ?_) rfl (by kernel_rfl) (by kernel_rfl) (fun _ _ _ h => h) (by assumption) (by rfl) ?_ ?_
      rotate_left
      · (intro w hSw; (try dsimp only at hSw); go_simp; (try with_reducible rfl))
      (try simp only [Act.put])
      refine wpAnyL_take (i := 2) (v := ?_) rfl (by kernel_rfl) (by kernel_rfl) (fun _ _ _ h => h) (by assumption) (by rfl) ?_ ?_
      rotate_left
      · (intro w hSw; (try dsimp only at hSw); go_simp; (try with_reducible rfl))
      (try simp only [Act.put])
      refine wpAnyL_take (i := 3) (v := ?_) rfl (by kernel_rfl) (by kernel_rfl) (fun _ _ _ h => h) (by assumption) (by rfl) ?_ ?_
      rotate_left
      · (intro w hSw; (try dsimp only at hSw); go_simp; (try with_reducible rfl))
      (try simp only [Act.put])
      refine wpAnyL_take (i := 4) (v := ?_) rfl (by kernel_rfl) (by kernel_rfl) (fun _ _ _ h => h) (by assumption) (by rfl) ?_ ?_
      rotate_left
      · (intro w hSw; (try dsimp only at hSw); go_simp; (try with_reducible rfl))
      (try simp only [Act.put])
      refine wpAnyL_take (i := 6) (v := ?_) rfl (by kernel_rfl) (by kernel_rfl) (fun _ _ _ h => h) (by assumption) (by rfl) ?_ ?_
      rotate_left
      · (intro w hSw; (try dsimp only at hSw); go_simp; (try with_reducible rfl))
      (try simp only [Act.put])
      refine wpAnyL_take (i := 7) (v := ?_) rfl (by kernel_rfl) (by kernel_rfl) (fun _ _ _ h => h) (by assumption) (by rfl) ?_ ?_
      rotate_left
      · (intro w hSw; (try dsimp only at hSw); go_simp; (try with_reducible rfl))
      (try simp only [Act.put])
      refine wpAnyL_one (i := 5) (by kernel_rfl) rfl (fun K' hK => ?_)
      go_simp
      go_at_call 87
      refine (HRE.out WE.drew HEB.out.drew).mono ?_
      rintro e w6 ⟨v6, v7, rfl, b6, o6, o7⟩
      obtain ⟨A6, c6, rfl⟩ := o6.len
      obtain ⟨A7, c7, rfl⟩ := o7.len
      have HB6 : Hid (Below WE.heap.size WE w6) := Lib.hid ((Below.refl _ _).drew.trans b6)
      have HO6 := Lib.hid (o6.mono (T := fun q => WE.heap.size ≤ q) (fun q hq _ => hq))
      have HO7 := Lib.hid (o7.mono (T := fun q => WE.heap.size ≤ q) (fun q hq _ => hq))
      obtain ⟨hu0, hu1, hu2, hu3, hu4, hf⟩ := HCEL.out w6 HB6.out
      have hl6 : W.heap.size < w6.heap.size := by have := HB6.out.size; omega
      clear b6 o6 o7
      go_simp
      refine hK.out _ _ (HS.out _ HB6.out) (fun hHeld => ?_)
      clear hK K'
      (try simp only [Act.put, List.setIfInBounds_toArray, List.set_cons_zero, List.set_cons_succ])
      refine wpAnyL_take (i := 8) (v := ?_) rfl (by kernel_rfl) (by kernel_rfl) (fun _ _ _ h => h) (by assumption) (by rfl) ?_ ?_
      rotate_left
      · (intro w hSw; (try dsimp only at hSw); go_simp; (try with_reducible rfl))
      (try simp only [Act.put, List.setIfInBounds_toArray])
      refine wpAnyL_take (i := 9) (v := ?_) rfl (by kernel_rfl) (by kernel_rfl) (fun _ _ _ h => h) (by assumption) (by rfl) ?_ ?_
      rotate_left
      · (intro w hSw; (try dsimp only at hSw); go_simp; (try with_reducible rfl))
      (try simp only [Act.put])
      refine wpAnyL_last (by kernel_rfl) (by kernel_rfl) rfl (fun K' hK => ?_)
      go_simp
      refine hK.out _ _ ?_
      clear hK K'
      have HBE := Lib.hid (HB3.out.trans ((HEB.out.trans (HB6.out.mono HEB.out.size)).mono hwr))
      have HC6 := Lib.hid (HC4.out.of_block ((HB6.out.block _ (by omega)).trans (HEB.out.block _ hos)))
      have HCN := Lib.hid (show ∃ cs : List Value, CellsAt (((((w6.setCell ⟨W.heap.size, k * 5, none⟩ (.slice A6 zi.length c6)).setCell ⟨W.heap.size, k * 5 + 1, none⟩ (.slice A7 zo.length c7)).setCell ⟨W.heap.size, k * 5 + 2, none⟩ (.int .i64 ed.k)).setCell ⟨W.heap.size, k * 5 + 3, none⟩ (.int .i64 ed.v)).setCell ⟨W.heap.size, k * 5 + 4, none⟩ (.string ByteArray.empty)) W.heap.size 70 cs ∧ cs.length = es.length * 5 from ⟨_, ((((HC6.out.set (k * 5) (.slice A6 zi.length c6)).set (k * 5 + 1) (.slice A7 zo.length c7)).set (k * 5 + 2) (.int .i64 ed.k)).set (k * 5 + 3) (.int .i64 ed.v)).set (k * 5 + 4) (.string ByteArray.empty), by simp only [List.length_set]; exact HCL.out⟩)
      have HON := Lib.hid (((HO3.out.below (HEB.out.trans (HB6.out.mono HEB.out.size)) hos).put (e := ⟨ed.k, ed.v, zi, zo⟩) HC6.out (by rw [HCL.out]; omega) HNE2.out (HO6.out.read.mono (fun q hq => ⟨by have := hq.1; omega, hq.2, by have := hq.1; omega⟩)) (HO7.out.read.mono (fun q hq => ⟨by have := hq.1; omega, hq.2, by have := hq.1; omega⟩))))
      have HBN := Lib.hid (show Below W.heap.size W (((((w6.setCell ⟨W.heap.size, k * 5, none⟩ (.slice A6 zi.length c6)).setCell ⟨W.heap.size, k * 5 + 1, none⟩ (.slice A7 zo.length c7)).setCell ⟨W.heap.size, k * 5 + 2, none⟩ (.int .i64 ed.k)).setCell ⟨W.heap.size, k * 5 + 3, none⟩ (.int .i64 ed.v)).setCell ⟨W.heap.size, k * 5 + 4, none⟩ (.string ByteArray.empty)) from by repeat' (first | exact HBE.out | apply Below.setCell | (simp; done)))
      go_wp2
      go_roundw
      all_goals first
        | exact ⟨k + 1, by omega, by go_num, HBN, HCN, HON⟩
        | (simp [intOf]; omega)
        | (trace_state; fail)
    · have hke : k = es.length := by omega
      rw [hke] at HO3
      have hkn : ¬ (k : Int) < (es.length : Int) := by omega
      have hgb := (HB3.out.block w.heap.size (by omega)).trans HWG.out
      have hy0 := box_cell hgb 0
      have hy1 := box_cell hgb 1
      have hy2 := box_cell hgb 2
      have hy3 := box_cell hgb 3
      simp at hy0 hy1 hy2 hy3
      have HRR := Lib.hid ((HB3.out.block (w.heap.size + 1) (by omega)).trans HWR.out)
      clear hgb hlt hke
      go_wp2_with fail
      refine (HRP.out wr HBW.out).mono ?_
      rintro e w7 ⟨v6, v7, rfl, b7, o6, o7⟩
      have hrb := (b7.block (w.heap.size + 1) (by omega)).trans HRR.out
      have hx0 := box_cell hrb 0
      have hx1 := box_cell hrb 1
      have hx2 := box_cell hrb 2
      have hx3 := box_cell hrb 3
      have hxf := box_free hrb
      simp at hx0 hx1 hx2 hx3
      obtain ⟨A6, c6, rfl⟩ := o6.len
      obtain ⟨A7, c7, rfl⟩ := o7.len
      have hl7 : w.heap.size + 1 < w7.heap.size := by have := b7.size; omega
      have HB7 := Lib.hid (HBW.out.trans (b7.mono HBW.out.size))
      have HO7 := Lib.hid (HO3.out.below b7 hos)
      have HR6 := Lib.hid o6
      have HR7 := Lib.hid o7
      have hl8 : W.heap.size < w7.heap.size := by have := b7.size; omega
      clear hrb b7 o6 o7
      go_wp2
      have HBF := Lib.hid (show Below w.heap.size w ((((w7.setCell ⟨w.heap.size + 1, 0, none⟩ (.slice A6 (pickL xi tz).length c6)).setCell ⟨w.heap.size + 1, 1, none⟩ (.slice A7 (pickL xo tz).length c7)).setCell ⟨w.heap.size + 1, 2, none⟩ (.int .i64 m)).setCell ⟨w.heap.size + 1, 3, none⟩ (.slice (some ⟨W.heap.size, 0, none⟩) es.length es.length)) from by
        repeat' (first | exact HB7.out | apply Below.setCell | (simp; done)))
      refine bodyPost_ret (v := .agg #[.slice A6 (pickL xi tz).length c6, .slice A7 (pickL xo tz).length c7, .int .i64 m, .slice (some ⟨W.heap.size, 0, none⟩) es.length es.length]) (by simp [results, Try.results65, go_sem, hx0, hx1, hx2, hx3]) rfl ?_
      have HOW := Lib.hid (show OwO (w.heap.size + 2) w7 (.slice A6 (pickL xi tz).length c6) (.slice A7 (pickL xo tz).length c7) (.slice (some ⟨W.heap.size, 0, none⟩) es.length es.length) (mapEs tz es) (pickL xi tz) (pickL xo tz) from by
        refine ⟨HR6.out.read.mono (fun q hq => ⟨by have := hq.1; omega, hq.2⟩), HR7.out.read.mono (fun q hq => ⟨by have := hq.1; omega, hq.2⟩), W.heap.size, W.heap.size, by rw [HML.out], by rw [HML.out]; exact HO7.out, by omega, by omega, hl8⟩)
      exact ⟨_, _, _, rfl, HBF.out, ((((HOW.out.other (by omega) _).other (by omega) _).other (by omega) _).other (by omega) _).mono (by omega)⟩
end Go.Proofs.Ytdcgoeapgboclaa

/-! Classes of wires and their numbers: the program's side. -/
namespace Go.Proofs.Ytdcgoeapgboclaa
open Go Go.RowKit Go.Deep

set_option maxHeartbeats 3200000 in
set_option maxRecDepth 100000 in
theorem lcl_any (w : World) (B N : Nat) (ua ub : Value) (a b : List Int) (ha : RdS w (fun q => q < B) ua a) (hb : RdS w (fun q => q < B) ub b) (hB : B ≤ w.heap.size) (hN : N ≤ 1000) (hla : a.length ≤ 1000) (hab : a.length ≤ b.length) (hlb : b.length ≤ 1000) (hra : inRg N a) (hrb : inRg N b) :
    Calls Try.prog 51 #[.int .i64 N, ua, ub] w (MadeR w (gclK N a b a.length)) := by
  have HB := Lib.hid hB
  obtain ⟨Aa, ca, rfl⟩ := rdS_len ha
  obtain ⟨Ab, cb, rfl⟩ := rdS_len hb
  have HA := Lib.hid ha
  have HBB := Lib.hid hb
  have HRA := Lib.hid hra
  have HRB := Lib.hid hrb
  have HCI := Lib.hid (show ∀ k, k ≤ a.length → inRg N (gclK N a b k) from fun k hk => gclK_in hra hrb k hk (by omega))
  have HWF := Lib.hid (fun (w' : World) => wiresFrom_any w' 0 N (by omega) hN)
  have HG0 := Lib.hid (show gclK N a b 0 = rangeI 0 N from gidK_range N)
  have HRN := Lib.hid (show (rangeI 0 N).length = N from rangeI_len 0 N)
  clear ha hb hB hra hrb
  go_enter Try.func51, Try.ntmps51
  go_wp2_with fail
  refine (HWF.out w).mono ?_
  rintro e w1 ⟨v1, rfl, b1, o1⟩
  have HB1 := Lib.hid b1
  have HX := o1.cases
  clear b1
  rw [← HG0.out] at HX
  rcases HX with ⟨h0, A1, c1, rfl⟩ | ⟨bc, c1, rfl, hbc, hn1, hc1⟩
  · have hN0 : N = 0 := by have := congrArg List.length h0; rw [gclK_len] at this; simpa using this
    have ha0 : a.length = 0 := by
      by_cases h : a.length = 0
      · exact h
      · have := HRA.out 0 (by omega)
        omega
    have HE := Lib.hid (show gclK N a b a.length = [] from by rw [ha0]; exact h0)
    have hai : ¬ (0 : Int) < (a.length : Int) := by omega
    clear h0 o1
    go_wp2
    go_loopw [17, 8, 9, 10, 11, 12, 36] (fun i _ _ _ _ _ _ wr => i = .int .i64 0 ∧ Hid (Below w.heap.size w wr)) (fun i _ _ _ _ _ _ _ => 0)
    case atStart => exact ⟨rfl, HB1⟩
    case round =>
      obtain ⟨rfl, HB2⟩ := hrel
      go_wp2
      go_ret
      rw [HE.out]
      exact ⟨_, rfl, HB2.out, OwR.nil _ _⟩
  · rw [gclK_len] at hn1 ⊢
    have HC1 := Lib.hid (show IR w1 bc (gclK N a b 0) from hc1)
    clear hc1 o1
    go_wp2
    go_loopw [17, 8, 9, 10, 11, 12, 36] (fun i _ _ _ _ _ _ wr => ∃ r : Nat, r ≤ a.length ∧ i = .int .i64 r ∧ Hid (Below w.heap.size w wr) ∧ Hid (IR wr bc (gclK N a b r))) (fun i _ _ _ _ _ _ _ => a.length - (intOf i).toNat)
    case atStart => exact ⟨0, Nat.zero_le _, rfl, HB1, HC1⟩
    case round =>
      clear HB1 HC1
      obtain ⟨r, hr, rfl, HB2, HC2⟩ := hrel
      obtain ⟨wo, rfl⟩ : ∃ x, x = wr := ⟨wr, rfl⟩
      by_cases hlt : r < a.length
      · obtain ⟨b1, o1, rfl, hb1, hc1⟩ := RdS.at (HA.out.below HB2.out HB.out) hlt
        obtain ⟨b2, o2, rfl, hb2, hc2⟩ := RdS.at (HBB.out.below HB2.out HB.out) (k := r) (by omega)
        have ha1 := HRA.out r hlt
        have ha2 := HRB.out r (by omega)
        have HCN := Lib.hid (show gclK N a b (r + 1) = gstK (gclK N a b r) ((gclK N a b r).getD (a.getD r 0).toNat 0) ((gclK N a b r).getD (b.getD r 0).toNat 0) N from rfl)
        obtain ⟨cn, HCN0⟩ : ∃ x, Hid (gclK N a b (r + 1) = x) := ⟨_, Lib.hid rfl⟩
        rw [HCN0.out] at HCN
        have hcl := gclK_len N a b r
        generalize gclK N a b r = cl at HC2 HCN hcl
        generalize a.getD r 0 = x1 at hc1 ha1 HCN
        generalize b.getD r 0 = x2 at hc2 ha2 HCN
        obtain ⟨q1, rfl⟩ : ∃ q : Nat, x1 = (q : Int) := ⟨x1.toNat, by omega⟩
        obtain ⟨q2, rfl⟩ : ∃ q : Nat, x2 = (q : Int) := ⟨x2.toNat, by omega⟩
        rw [Int.toNat_natCast, Int.toNat_natCast] at HCN
        have hq1 : q1 < N := by omega
        have hq2 : q2 < N := by omega
        have hd1 := HC2.out.at (k := q1) (by rw [hcl]; exact hq1)
        have hd2 := HC2.out.at (k := q2) (by rw [hcl]; exact hq2)
        generalize cl.getD q1 0 = y1 at hd1 HCN
        generalize cl.getD q2 0 = y2 at hd2 HCN
        have HCL := Lib.hid hcl
        have hrI : (r : Int) < (a.length : Int) := by omega
        have hrI2 : (r : Int) < (b.length : Int) := by omega
        clear hcl
        go_wp2
        go_region
        go_wp2
        go_loopw [36, 11, 12] (fun i _ _ wr => ∃ j : Nat, j ≤ N ∧ i = .int .i64 j ∧ Hid (Below w.heap.size w wr) ∧ Hid (IR wr bc (gstK cl y1 y2 j))) (fun i _ _ _ => N - (intOf i).toNat)
        case atStart => exact ⟨0, Nat.zero_le _, rfl, Lib.hid HB2.out.drew, Lib.hid HC2.out⟩
        case round =>
          clear HB2 HC2 hd1 hd2 hc1 hc2
          obtain ⟨j, hj, rfl, HB3, HC3⟩ := hrel
          by_cases hltj : j < N
          · have hz := HC3.out.at (k := j) (by rw [gstK_len, HCL.out]; exact hltj)
            obtain ⟨gn, HNX0⟩ : ∃ x, Hid (gstK cl y1 y2 (j + 1) = x) := ⟨_, Lib.hid rfl⟩
            have HNX := Lib.hid (show gstK cl y1 y2 (j + 1) = if (gstK cl y1 y2 j).getD j 0 = max y1 y2 then (gstK cl y1 y2 j).set j (min y1 y2) else gstK cl y1 y2 j from rfl)
            rw [HNX0.out] at HNX
            have hlz := CellsAt.lt HC3.out
            have hfz := CellsAt.frozen HC3.out
            have hjI : (j : Int) < (N : Int) := by omega
            generalize gstK cl y1 y2 j = gs at HC3 HNX hz
            generalize gs.getD j 0 = z at hz HNX
            by_cases hzm : z = max y1 y2
            · rw [if_pos hzm] at HNX
              have HZM := Lib.hid hzm
              go_wp2
              go_roundw
              all_goals first
                | exact ⟨j + 1, by omega, by go_num, Lib.hid (HB3.out.setCell (by dsimp only; omega) _), Lib.hid (by rw [HNX0.out, HNX.out]; exact HC3.out.put j (min y1 y2))⟩
                | (simp [intOf]; omega)
                | (trace_state; fail)
            · rw [if_neg hzm] at HNX
              go_wp2
              go_roundw
              all_goals first
                | exact ⟨j + 1, by omega, by go_num, HB3, Lib.hid (by rw [HNX0.out, HNX.out]; exact HC3.out)⟩
                | (simp [intOf]; omega)
                | (trace_state; fail)
          · obtain rfl : j = N := by omega
            have hjn : ¬ (j : Int) < (j : Int) := by omega
            go_wp2
            go_roundw
            all_goals first
              | exact ⟨r + 1, by omega, by go_num, HB3, Lib.hid (by rw [HCN0.out, HCN.out]; exact HC3.out)⟩
              | (simp [intOf]; omega)
              | (trace_state; fail)
      · have hre : r = a.length := by omega
        have hrn : ¬ (r : Int) < (a.length : Int) := by omega
        rw [hre] at HC2
        clear hre hlt
        go_wp2
        go_ret
        exact ⟨_, rfl, HB2.out, owR_at hbc HC2.out (gclK_len _ _ _ _).symm⟩
/-- How many classes there are. -/
def clsL (ls occ : List Int) : List Int := Lib.compact (srt (pickL occ ls))
def numL (ls occ : List Int) : List Int := ls.map fun c => ((clsL ls occ).countP (· < c) : Nat)
theorem numL_len (ls occ : List Int) : (numL ls occ).length = ls.length := by simp [numL]
set_option maxHeartbeats 3200000 in
set_option maxRecDepth 100000 in
theorem nmb_any (w : World) (B : Nat) (ul uo : Value) (ls occ : List Int) (hl : RdS w (fun q => q < B) ul ls) (ho : RdS w (fun q => q < B) uo occ) (hB : B ≤ w.heap.size) (hn : ls.length ≤ 1000) (hno : occ.length ≤ 100000) (hr : inRg ls.length occ) :
    Calls Try.prog 50 #[ul, uo] w fun e w' => ∃ v, e = .returned (.tuple #[v, .int .i64 (clsL ls occ).length]) ∧ Below w.heap.size w w' ∧ OwR w' tI (fun q => w.heap.size ≤ q) v (numL ls occ) := by
  have HB := Lib.hid hB
  have hmk := make_ints ls.length (by omega)
  obtain ⟨Al, cl, rfl⟩ := rdS_len hl
  obtain ⟨Ao, co, rfl⟩ := rdS_len ho
  have HL := Lib.hid hl
  have HO := Lib.hid ho
  have HEL := Lib.hid (elAt_any w B (.slice Al ls.length cl) (.slice Ao occ.length co) ls occ hl ho hB (by omega) hr)
  have HNM := Lib.hid (show filK (fun j => (((clsL ls occ).countP (· < ls.getD j 0) : Nat) : Int)) ls.length ls.length = numL ls occ from by
    rw [filK_all]
    exact range_map_getD ls (fun c => (((clsL ls occ).countP (· < c) : Nat) : Int)))
  have HPL := Lib.hid (show (pickL occ ls).length = occ.length from pickL_len _ _)
  have HSS := Lib.hid (show (clsL ls occ).Pairwise (· ≤ ·) from (compact_lt (srt_sorted (pickL occ ls))).imp fun h => Int.le_of_lt h)
  have HCD : Hid (clsL ls occ = Lib.compact (srt (pickL occ ls))) := Lib.hid rfl
  generalize clsL ls occ = cs at HNM HSS HCD ⊢
  clear hl ho hB hr
  go_enter Try.func50, Try.ntmps50
  go_wp2_with fail
  refine HEL.out.mono ?_
  rintro e w1 ⟨v1, rfl, b1, o1⟩
  have HB1 := Lib.hid b1
  have HS1 := Lib.hid (sortR_any w1 (fun q => w.heap.size ≤ q) v1 (pickL occ ls) o1 (by rw [HPL.out]; omega))
  clear b1
  go_wp2_with fail
  refine HS1.out.mono ?_
  rintro e w2 ⟨rfl, t2, o2⟩
  have HB2 := Lib.hid (HB1.out.trans (t2.below (B := w.heap.size) HB1.out.size (fun q hq => by
    have h := (o1.blkS hq.1).1
    rw [hq.2]
    exact h)))
  have HS2 := Lib.hid (compactR_any w2 (fun q => w.heap.size ≤ q) v1 (srt (pickL occ ls)) o2 (by rw [srt_len, HPL.out]; omega))
  rw [← HCD.out] at HS2
  clear t2 o1
  go_wp2_with fail
  refine HS2.out.mono ?_
  rintro e w3 ⟨A3, c3, rfl, t3, o3, hl3⟩
  have HB3 := Lib.hid (HB2.out.trans (t3.below (B := w.heap.size) HB2.out.size (fun q hq => by
    have h := (o2.blkS hq.1).1
    rw [hq.2]
    exact h)))
  have hcn : cs.length ≤ 100000 := by rw [srt_len, HPL.out] at hl3; omega
  have HRC := Lib.hid o3.readB
  have h3s := HB3.out.size
  clear t3 o3 o2 hl3
  go_wp2
  go_loopw [22, 8, 9] (fun i _ _ wr => ∃ k : Nat, k ≤ ls.length ∧ i = .int .i64 k ∧ Hid (Below w3.heap.size w3 wr) ∧ Hid (IR wr w3.heap.size (filK (fun j => ((cs.countP (· < ls.getD j 0) : Nat) : Int)) ls.length k))) (fun i _ _ _ => ls.length - (intOf i).toNat)
  case atStart => exact ⟨0, Nat.zero_le _, rfl, Lib.hid ((Below.refl _ _).alloc (Nat.le_refl _) _), Lib.hid (made_ints w3 _)⟩
  case round =>
    obtain ⟨k, hk, rfl, HB4, HC4⟩ := hrel
    have hl4 := CellsAt.lt HC4.out
    have hf4 := CellsAt.frozen HC4.out
    by_cases hlt : k < ls.length
    · obtain ⟨b1, o1, rfl, hb1, hc1⟩ := RdS.at ((HL.out.below HB3.out HB.out).below HB4.out (by have := HB.out; omega)) hlt
      have HSR := Lib.hid (fun (x : Int) => searchR_any wr (fun q => q < w3.heap.size) (.slice A3 cs.length c3) cs x (HRC.out.below HB4.out (Nat.le_refl _)) (by omega) HSS.out)
      obtain ⟨fn, HNX0⟩ : ∃ x, Hid (filK (fun j => ((cs.countP (· < ls.getD j 0) : Nat) : Int)) ls.length (k + 1) = x) := ⟨_, Lib.hid rfl⟩
      have HNX := Lib.hid (show filK (fun j => ((cs.countP (· < ls.getD j 0) : Nat) : Int)) ls.length (k + 1) = (filK (fun j => ((cs.countP (· < ls.getD j 0) : Nat) : Int)) ls.length k).set k ((cs.countP (· < ls.getD k 0) : Nat) : Int) from rfl)
      rw [HNX0.out] at HNX
      have hms := HC4.out.at (k := k) (by rw [filK_len]; exact hlt)
      generalize filK (fun j => ((cs.countP (· < ls.getD j 0) : Nat) : Int)) ls.length k = fl at HC4 HNX hms
      generalize ls.getD k 0 = x at hc1 HNX
      obtain ⟨y, HY⟩ : ∃ y, Hid (cs.countP (· < x) = y) := ⟨_, Lib.hid rfl⟩
      rw [HY.out] at HNX
      have HSX := Lib.hid (HSR.out x)
      rw [HY.out] at HSX
      generalize fl.getD k 0 = m1 at hms
      have hkI : (k : Int) < (ls.length : Int) := by omega
      clear HSR
      go_wp2_with fail
      refine HSX.out.mono ?_
      rintro e w5 ⟨rfl, q5, rfl⟩
      go_wp2
      go_roundw
      all_goals first
        | exact ⟨k + 1, by omega, by go_num, Lib.hid (by repeat' (first | exact HB4.out | apply below_drewN | apply Below.setCell | (dsimp only; omega))), Lib.hid (by rw [HNX0.out, HNX.out]; exact (show IR (wr.drewN q5) w3.heap.size fl from HC4.out).put k y)⟩
        | (simp [intOf]; omega)
        | (trace_state; fail)
    · have hke : k = ls.length := by omega
      rw [hke, HNM.out] at HC4
      have hkn : ¬ (k : Int) < (ls.length : Int) := by omega
      clear hlt hke
      go_wp2
      refine bodyPost_ret (v := .tuple #[.slice (some ⟨w3.heap.size, 0, none⟩) ls.length ls.length, .int .i64 cs.length]) (by simp [results, Try.results50, go_sem]) rfl ?_
      exact ⟨_, rfl, HB3.out.trans (HB4.out.mono h3s), owR_at h3s HC4.out (numL_len _ _).symm⟩
end Go.Proofs.Ytdcgoeapgboclaa

/-! Wires made one: the program's glued. -/
namespace Go.Proofs.Ytdcgoeapgboclaa
open Go Go.RowKit Go.Deep

theorem mem_inRg {N : Nat} {l : List Int} (h : ∀ x, x ∈ l → 0 ≤ x ∧ x < N) : inRg N l := fun _k hk => h _ (getD_mem' hk 0)
theorem inRg_mem {N : Nat} {l : List Int} (h : inRg N l) : ∀ x, x ∈ l → 0 ≤ x ∧ x < N := fun x hx => by
  obtain ⟨k, hk, rfl⟩ := List.getElem_of_mem hx
  have := h k hk
  rwa [List.getD_eq_getElem?_getD, List.getElem?_eq_getElem hk] at this
/-- The number of a wire when the wires at the same places of two lists are one. -/
def pNum (N : Nat) (a b : List Int) (es : List Ed) (xi xo : List Int) : List Int := numL (gclK N a b a.length) (occL es xi xo)
def pCnt (N : Nat) (a b : List Int) (es : List Ed) (xi xo : List Int) : Nat := (clsL (gclK N a b a.length) (occL es xi xo)).length
theorem pNum_len (N : Nat) (a b : List Int) (es : List Ed) (xi xo : List Int) : (pNum N a b es xi xo).length = N := by unfold pNum; rw [numL_len, gclK_len]
set_option maxRecDepth 100000 in
set_option maxHeartbeats 6400000 in
theorem glued_any (w : World) (B : Nat) (ui uo ue ua ub : Value) (N : Nat) (es : List Ed) (xi xo a b : List Int) (hi : RdS w (fun q => q < B) ui xi) (ho : RdS w (fun q => q < B) uo xo) (he : RdO w B ue es) (ha : RdS w (fun q => q < B) ua a) (hb : RdS w (fun q => q < B) ub b) (hB : B ≤ w.heap.size) (hN : N ≤ 1000)
    (hle : es.length ≤ 1000) (hli : xi.length ≤ 1000) (hlo : xo.length ≤ 1000) (hlr : ∀ k, k < es.length → (es.getD k ed0).i.length ≤ 1000 ∧ (es.getD k ed0).o.length ≤ 1000) (hno : (occL es xi xo).length ≤ 100000)
    (hla : a.length ≤ 1000) (hab : a.length ≤ b.length) (hlb : b.length ≤ 1000) (hra : inRg N a) (hrb : inRg N b) (hoc : ∀ x, x ∈ occL es xi xo → 0 ≤ x ∧ x < N) :
    Calls Try.prog 44 #[ogV ui uo N ue, ua, ub] w fun e w' => ∃ v1 v2 v3, e = .returned (ogV v1 v2 (pCnt N a b es xi xo) v3) ∧ Below w.heap.size w w' ∧ OwO w.heap.size w' v1 v2 v3 (mapEs (pNum N a b es xi xo) es) (pickL xi (pNum N a b es xi xo)) (pickL xo (pNum N a b es xi xo)) := by
  obtain ⟨A1, c1, rfl⟩ := rdS_len hi
  obtain ⟨A2, c2, rfl⟩ := rdS_len ho
  obtain ⟨A3, c3, rfl⟩ := rdS_len ha
  obtain ⟨A4, c4, rfl⟩ := rdS_len hb
  obtain ⟨AE, cE, rfl⟩ := he.len
  have hin : inRg N xi ∧ inRg N xo ∧ ∀ k, k < es.length → inRg N (es.getD k ed0).i ∧ inRg N (es.getD k ed0).o := by
    refine ⟨mem_inRg fun x hx => hoc x (mem_occ.2 (Or.inl hx)), mem_inRg fun x hx => hoc x (mem_occ.2 (Or.inr (Or.inl hx))), fun k hk => ⟨mem_inRg fun x hx => hoc x (mem_occ.2 (Or.inr (Or.inr ⟨_, getD_mem' hk ed0, Or.inl hx⟩))), mem_inRg fun x hx => hoc x (mem_occ.2 (Or.inr (Or.inr ⟨_, getD_mem' hk ed0, Or.inr hx⟩)))⟩⟩
  have HLC := Lib.hid (fun (w' : World) (h : Below w.heap.size w w') => lcl_any w' B N (.slice A3 a.length c3) (.slice A4 b.length c4) a b (ha.below h hB) (hb.below h hB) (Nat.le_trans hB h.size) hN hla hab hlb hra hrb)
  have HOC := Lib.hid (fun (w' : World) (h : Below w.heap.size w w') => occ_any w' B (.slice A1 xi.length c1) (.slice A2 xo.length c2) (.slice AE es.length cE) N es xi xo (hi.below h hB) (ho.below h hB) (he.below h hB) (Nat.le_trans hB h.size) (by omega) (by omega))
  have HNB := Lib.hid (fun (w' : World) (B' : Nat) (ul uo : Value) (hl : RdS w' (fun q => q < B') ul (gclK N a b a.length)) (ho : RdS w' (fun q => q < B') uo (occL es xi xo)) (hB' : B' ≤ w'.heap.size) => nmb_any w' B' ul uo (gclK N a b a.length) (occL es xi xo) hl ho hB' (by rw [gclK_len]; exact hN) hno (by rw [gclK_len]; exact mem_inRg hoc))
  have HRN := Lib.hid (fun (w' : World) (B' : Nat) (ut : Value) (h : Below w.heap.size w w') (ht : RdS w' (fun q => q < B') ut (pNum N a b es xi xo)) (hB1 : B ≤ B') (hB' : B' ≤ w'.heap.size) => renumbered_any w' B' (.slice A1 xi.length c1) (.slice A2 xo.length c2) (.slice AE es.length cE) ut N (pCnt N a b es xi xo) es xi xo (pNum N a b es xi xo) ((hi.below h hB).mono (fun q hq => Nat.lt_of_lt_of_le hq hB1)) ((ho.below h hB).mono (fun q hq => Nat.lt_of_lt_of_le hq hB1)) ((he.below h hB).mono hB1) ht hB' hle hli hlo hlr (by rw [pNum_len]; exact hin.1) (by rw [pNum_len]; exact hin.2.1) (by rw [pNum_len]; exact hin.2.2))
  have HPN : Hid (pNum N a b es xi xo = numL (gclK N a b a.length) (occL es xi xo)) := Lib.hid rfl
  have HPC : Hid (pCnt N a b es xi xo = (clsL (gclK N a b a.length) (occL es xi xo)).length) := Lib.hid rfl
  have HBB := Lib.hid hB
  clear hi ho he ha hb hB hlr hra hrb hoc hin hno
  unfold ogV
  unfold ogV at HOC HRN
  go_enter Try.func44, Try.ntmps44
  go_wp2
  obtain ⟨W, HW⟩ : ∃ W, W = (w.alloc (.cells #[.slice A1 xi.length c1, .slice A2 xo.length c2, .int .i64 N, .slice AE es.length cE] 53)).alloc (.cells #[.slice none 0 0, .slice none 0 0, .int .i64 0, .slice none 0 0] 53) := ⟨_, rfl⟩
  rw [← HW]
  have HWB := Lib.hid (show Below w.heap.size w W from by rw [HW]; exact ((Below.refl _ _).alloc (Nat.le_refl _) _).alloc (by simp) _)
  have hws : w.heap.size + 2 ≤ W.heap.size := by rw [HW]; simp
  have HWG := Lib.hid (show W.heap[w.heap.size]? = some (.cells #[.slice A1 xi.length c1, .slice A2 xo.length c2, .int .i64 N, .slice AE es.length cE] 53 (0, 0)) from by rw [HW]; exact (blk_alloc_lt _ _ _ (by simp)).trans (blk_alloc_new w _))
  have HWR := Lib.hid (show W.heap[w.heap.size + 1]? = some (.cells #[.slice none 0 0, .slice none 0 0, .int .i64 0, .slice none 0 0] 53 (0, 0)) from by rw [HW]; have := blk_alloc_new (w.alloc (.cells #[.slice A1 xi.length c1, .slice A2 xo.length c2, .int .i64 N, .slice AE es.length cE] 53)) (.cells #[.slice none 0 0, .slice none 0 0, .int .i64 0, .slice none 0 0] 53); simpa using this)
  clear HW
  have HS : Hid (∀ w' : World, Below W.heap.size W w' → (fun w' : World => w'.cell? ⟨w.heap.size, 0, none⟩ = some (.slice A1 xi.length c1) ∧ w'.cell? ⟨w.heap.size, 1, none⟩ = some (.slice A2 xo.length c2) ∧ w'.cell? ⟨w.heap.size, 2, none⟩ = some (.int .i64 N) ∧ w'.cell? ⟨w.heap.size, 3, none⟩ = some (.slice AE es.length cE)) w') := Lib.hid (fun w' h => by
    have hb := (h.block w.heap.size (by omega)).trans HWG.out
    exact ⟨box_cell hb 0, box_cell hb 1, box_cell hb 2, box_cell hb 3⟩)
  refine wp_region_last (fun w' : World => w'.cell? ⟨w.heap.size, 0, none⟩ = some (.slice A1 xi.length c1) ∧ w'.cell? ⟨w.heap.size, 1, none⟩ = some (.slice A2 xo.length c2) ∧ w'.cell? ⟨w.heap.size, 2, none⟩ = some (.int .i64 N) ∧ w'.cell? ⟨w.heap.size, 3, none⟩ = some (.slice AE es.length cE)) 12 (by kernel_rfl) (HS.out _ (Below.refl _ _).drew) (fun hHeld => ?_)
  refine wpAnyL_take (i := 0) (v := ?_) rfl (by kernel_rfl) (by kernel_rfl) (fun _ _ _ h => h) (by assumption) (by rfl) ?_ ?_
  rotate_left
  · (intro w hSw; (try dsimp only at hSw); go_simp; (try with_reducible rfl))
  (try simp only [Act.put, List.setIfInBounds_toArray])
  refine wpAnyL_take (i := 1) (v := ?_) rfl (by kernel_rfl) (by kernel_rfl) (fun _ _ _ h => h) (by assumption) (by rfl) ?_ ?_
  rotate_left
  · (intro w hSw; (try dsimp only at hSw); go_simp; (try with_reducible rfl))
  (try simp only [Act.put])
  refine wpAnyL_take (i := 2) (v := ?_) rfl (by kernel_rfl) (by kernel_rfl) (fun _ _ _ h => h) (by assumption) (by rfl) ?_ ?_
  rotate_left
  · (intro w hSw; (try dsimp only at hSw); go_simp; (try with_reducible rfl))
  (try simp only [Act.put])
  refine wpAnyL_take (i := 3) (v := ?_) rfl (by kernel_rfl) (by kernel_rfl) (fun _ _ _ h => h) (by assumption) (by rfl) ?_ ?_
  rotate_left
  · (intro w hSw; (try dsimp only at hSw); go_simp; (try with_reducible rfl))
  (try simp only [Act.put])
  refine wpAnyL_take (i := 4) (v := ?_) rfl (by kernel_rfl) (by kernel_rfl) (fun _ _ _ h => h) (by assumption) (by rfl) ?_ ?_
  rotate_left
  · (intro w hSw; (try dsimp only at hSw); go_simp; (try with_reducible rfl))
  (try simp only [Act.put])
  refine wpAnyL_take (i := 6) (v := ?_) rfl (by kernel_rfl) (by kernel_rfl) (fun _ _ _ h => h) (by assumption) (by rfl) ?_ ?_
  rotate_left
  · (intro w hSw; (try dsimp only at hSw); go_simp; (try with_reducible rfl))
  (try simp only [Act.put])
  refine wpAnyL_one (i := 5) (by kernel_rfl) rfl (fun K' hK => ?_)
  go_simp
  go_at_call 51
  refine (HLC.out W.drew HWB.out.drew).mono ?_
  rintro e w3 ⟨v3, rfl, b3, o3⟩
  have HB3 : Hid (Below W.heap.size W w3) := Lib.hid ((Below.refl _ _).drew.trans b3)
  have HR3 := Lib.hid o3.readB
  clear b3 o3
  go_simp
  refine hK.out _ _ (HS.out _ HB3.out) (fun hHeld => ?_)
  clear hK K'
  (try simp only [Act.put, List.setIfInBounds_toArray, List.set_cons_zero, List.set_cons_succ])
  refine wpAnyL_one (i := 7) (by kernel_rfl) rfl (fun K' hK => ?_)
  go_simp
  go_at_call 52
  refine (HOC.out w3 (HWB.out.trans (HB3.out.mono HWB.out.size))).mono ?_
  rintro e w4 ⟨v4, rfl, b4, o4⟩
  have HB4 : Hid (Below W.heap.size W w4) := Lib.hid (HB3.out.trans (b4.mono HB3.out.size))
  have HR4 := Lib.hid o4.readB
  have HR5 := Lib.hid ((HR3.out.below b4 (Nat.le_refl _)).mono (fun q hq => Nat.lt_of_lt_of_le hq b4.size))
  clear b4 o4
  go_simp
  refine hK.out _ _ (HS.out _ HB4.out) (fun hHeld => ?_)
  clear hK K'
  (try simp only [Act.put, List.setIfInBounds_toArray, List.set_cons_zero, List.set_cons_succ])
  refine wpAnyL_one (i := 8) (by kernel_rfl) rfl (fun K' hK => ?_)
  go_simp
  go_at_call 50
  refine (HNB.out w4 w4.heap.size v3 v4 HR5.out HR4.out (Nat.le_refl _)).mono ?_
  rintro e w5 ⟨v5, rfl, b5, o5⟩
  have HB5 : Hid (Below W.heap.size W w5) := Lib.hid (HB4.out.trans (b5.mono HB4.out.size))
  rw [← HPN.out] at o5
  have HR6 := Lib.hid o5.readB
  rw [← HPC.out]
  clear b5 o5
  go_simp
  refine hK.out _ _ (HS.out _ HB5.out) (fun hHeld => ?_)
  clear hK K'
  (try simp only [Act.put, List.setIfInBounds_toArray, List.set_cons_zero, List.set_cons_succ])
  refine wpAnyL_take (i := 9) (v := ?_) rfl (by kernel_rfl) (by kernel_rfl) (fun _ _ _ h => h) (by assumption) (by rfl) ?_ ?_
  rotate_left
  · (intro w hSw; (try dsimp only at hSw); go_simp; (try with_reducible rfl))
  (try simp only [Act.put, List.setIfInBounds_toArray])
  refine wpAnyL_take (i := 10) (v := ?_) rfl (by kernel_rfl) (by kernel_rfl) (fun _ _ _ h => h) (by assumption) (by rfl) ?_ ?_
  rotate_left
  · (intro w hSw; (try dsimp only at hSw); go_simp; (try with_reducible rfl))
  (try simp only [Act.put])
  refine wpAnyL_one (i := 11) (by kernel_rfl) rfl (fun K' hK => ?_)
  have HB5w := Lib.hid (HWB.out.trans (HB5.out.mono HWB.out.size))
  go_simp
  go_at_call 65
  refine (HRN.out w5 w5.heap.size v5 HB5w.out HR6.out (Nat.le_trans HBB.out HB5w.out.size) (Nat.le_refl _)).mono ?_
  rintro e w6 ⟨v6, v7, v8, rfl, b6, ow6⟩
  have HB6 : Hid (Below W.heap.size W w6) := Lib.hid (HB5.out.trans (b6.mono HB5.out.size))
  obtain ⟨A6, c6, rfl⟩ := rdS_len ow6.li
  obtain ⟨A7, c7, rfl⟩ := rdS_len ow6.lo
  obtain ⟨A8, c8, rfl⟩ := ow6.rd.2.2.len
  have HOW := Lib.hid ow6
  have hrb := (HB6.out.block (w.heap.size + 1) (by omega)).trans HWR.out
  have hx0 := box_cell hrb 0
  have hx1 := box_cell hrb 1
  have hx2 := box_cell hrb 2
  have hx3 := box_cell hrb 3
  have hxf := box_free hrb
  simp at hx0 hx1 hx2 hx3
  have hl6 : w.heap.size + 1 < w6.heap.size := by have := HB6.out.size; omega
  clear b6 ow6 hrb
  go_simp
  refine hK.out _ _ (HS.out _ HB6.out) (fun hHeld => ?_)
  clear hK K'
  (try simp only [Act.put, List.setIfInBounds_toArray, List.set_cons_zero, List.set_cons_succ])
  refine wpAnyL_last (by kernel_rfl) (by kernel_rfl) rfl (fun K' hK => ?_)
  go_simp
  refine hK.out _ _ ?_
  clear hK K'
  go_wp2
  have HBF := Lib.hid (HWB.out.trans (HB6.out.mono HWB.out.size))
  refine bodyPost_ret (v := .agg #[.slice A6 (pickL xi (pNum N a b es xi xo)).length c6, .slice A7 (pickL xo (pNum N a b es xi xo)).length c7, .int .i64 (pCnt N a b es xi xo), .slice A8 (mapEs (pNum N a b es xi xo) es).length c8]) (by simp [results, Try.results44, go_sem, hx0, hx1, hx2, hx3]) rfl ?_
  refine ⟨_, _, _, rfl, by repeat' (first | exact HBF.out | apply Below.setCell | (simp; done)), ?_⟩
  have h5 := HB5.out.size
  exact ((((HOW.out.other (by omega) _).other (by omega) _).other (by omega) _).other (by omega) _).mono (by omega)
end Go.Proofs.Ytdcgoeapgboclaa

/-! Wires made one: the graph is valid if it was. -/
namespace Go.Proofs.Ytdcgoeapgboclaa
open Go Go.RowKit Go.Deep

theorem cnt_at : ∀ {D : List Int}, D.Pairwise (· < ·) → ∀ k, k < D.length → D.countP (· < D.getD k 0) = k
  | [], _, k, hk => absurd hk (Nat.not_lt_zero k)
  | d :: D, h, 0, _ => by
    obtain ⟨h1, h2⟩ := List.pairwise_cons.1 h
    rw [List.countP_eq_zero]
    intro x hx
    rcases List.mem_cons.1 hx with rfl | hx
    · simp
    · have := h1 x hx
      simp
      omega
  | d :: D, h, k + 1, hk => by
    obtain ⟨h1, h2⟩ := List.pairwise_cons.1 h
    have hk' : k < D.length := by simpa using hk
    have ih := cnt_at h2 k hk'
    rw [show (d :: D).getD (k + 1) 0 = D.getD k 0 by simp, List.countP_cons, ih]
    rw [if_pos (decide_eq_true (h1 _ (getD_mem' hk' 0)))]
theorem cnt_mem {D : List Int} (h : D.Pairwise (· < ·)) {z : Int} (hz : z ∈ D) : ∃ k, k < D.length ∧ D.getD k 0 = z ∧ D.countP (· < z) = k := by
  obtain ⟨k, hk, e⟩ := List.getElem_of_mem hz
  have e2 : D.getD k 0 = z := by rw [List.getD_eq_getElem?_getD, List.getElem?_eq_getElem hk]; exact e
  exact ⟨k, hk, e2, by rw [← e2]; exact cnt_at h k hk⟩
theorem mem_pickL {l tz : List Int} {y : Int} : y ∈ pickL l tz ↔ ∃ x, x ∈ l ∧ tz.getD x.toNat 0 = y := by
  unfold pickL
  simp only [List.mem_map]
theorem mem_occ_map {tz : List Int} {es : List Ed} {xi xo : List Int} {y : Int} : y ∈ occL (mapEs tz es) (pickL xi tz) (pickL xo tz) ↔ ∃ x, x ∈ occL es xi xo ∧ tz.getD x.toNat 0 = y := by
  rw [mem_occ, mem_pickL, mem_pickL]
  unfold mapEs
  constructor
  · rintro (⟨x, h, e⟩ | ⟨x, h, e⟩ | ⟨e', he, h⟩)
    · exact ⟨x, mem_occ.2 (Or.inl h), e⟩
    · exact ⟨x, mem_occ.2 (Or.inr (Or.inl h)), e⟩
    · obtain ⟨e0, he0, rfl⟩ := List.mem_map.1 he
      rcases h with h | h
      · obtain ⟨x, hx, e⟩ := mem_pickL.1 h
        exact ⟨x, mem_occ.2 (Or.inr (Or.inr ⟨e0, he0, Or.inl hx⟩)), e⟩
      · obtain ⟨x, hx, e⟩ := mem_pickL.1 h
        exact ⟨x, mem_occ.2 (Or.inr (Or.inr ⟨e0, he0, Or.inr hx⟩)), e⟩
  · rintro ⟨x, hx, e⟩
    rcases mem_occ.1 hx with h | h | ⟨e0, he0, h | h⟩
    · exact Or.inl ⟨x, h, e⟩
    · exact Or.inr (Or.inl ⟨x, h, e⟩)
    · exact Or.inr (Or.inr ⟨_, List.mem_map.2 ⟨e0, he0, rfl⟩, Or.inl (mem_pickL.2 ⟨x, h, e⟩)⟩)
    · exact Or.inr (Or.inr ⟨_, List.mem_map.2 ⟨e0, he0, rfl⟩, Or.inr (mem_pickL.2 ⟨x, h, e⟩)⟩)
theorem edP_map (tz : List Int) (e : Ed) : edP (mapE tz e) = edP e := by
  rw [Bool.eq_iff_iff, edP_iff, edP_iff]
  unfold mapE
  simp only [pickL_len]
theorem pNum_at {N : Nat} {a b : List Int} {es : List Ed} {xi xo : List Int} {x : Int} (h0 : 0 ≤ x) (h1 : x < N) : (pNum N a b es xi xo).getD x.toNat 0 = ((clsL (gclK N a b a.length) (occL es xi xo)).countP (· < (gclK N a b a.length).getD x.toNat 0) : Nat) := by
  unfold pNum numL
  rw [map_getD _ _ _ (by rw [gclK_len]; omega) 0]
theorem gl_valid {N : Nat} {a b : List Int} {es : List Ed} {xi xo : List Int} (hv : validB N es xi xo = true) (hab : a.length ≤ b.length) (hra : inRg N a) (hrb : inRg N b) :
    validB (pCnt N a b es xi xo) (mapEs (pNum N a b es xi xo) es) (pickL xi (pNum N a b es xi xo)) (pickL xo (pNum N a b es xi xo)) = true := by
  obtain ⟨⟨v1, v2, v3, v4, v5⟩, v6, v7, v8⟩ := valid_iff.1 hv
  have hin := gclK_in hra hrb a.length (Nat.le_refl _) hab
  have hmem : ∀ z : Int, z ∈ clsL (gclK N a b a.length) (occL es xi xo) ↔ ∃ x, x ∈ occL es xi xo ∧ (gclK N a b a.length).getD x.toNat 0 = z := fun z => by
    unfold clsL
    rw [mem_compact, srt_mem]
    exact mem_pickL
  have hpw : (clsL (gclK N a b a.length) (occL es xi xo)).Pairwise (· < ·) := compact_lt (srt_sorted _)
  have hD : ∀ z, z ∈ clsL (gclK N a b a.length) (occL es xi xo) → 0 ≤ z ∧ z < N := fun z hz => by
    obtain ⟨x, hx, rfl⟩ := (hmem z).1 hz
    have := v7 x hx
    exact hin x.toNat (by rw [gclK_len]; omega)
  have hle := (full_iff _ 0 N hpw hD (by omega)).1
  refine valid_iff.2 ⟨⟨by omega, ?_, by rw [mapEs_len]; exact v3, by rw [pickL_len]; exact v4, by rw [pickL_len]; exact v5⟩, ?_, fun y hy => ?_, fun k h0 h1 => ?_⟩
  · unfold pCnt
    omega
  · rw [List.any_eq_false] at v6 ⊢
    intro e he
    obtain ⟨e0, he0, rfl⟩ := List.mem_map.1 he
    rw [edP_map]
    exact v6 e0 he0
  · obtain ⟨x, hx, rfl⟩ := mem_occ_map.1 hy
    have hx2 := v7 x hx
    rw [pNum_at hx2.1 hx2.2]
    obtain ⟨k, hk, -, hc⟩ := cnt_mem hpw ((hmem _).2 ⟨x, hx, rfl⟩)
    rw [hc]
    unfold pCnt
    omega
  · unfold pCnt at h1
    have hk : k.toNat < (clsL (gclK N a b a.length) (occL es xi xo)).length := by omega
    obtain ⟨x, hx, e⟩ := (hmem _).1 (getD_mem' hk 0)
    have hx2 := v7 x hx
    refine mem_occ_map.2 ⟨x, hx, ?_⟩
    rw [pNum_at hx2.1 hx2.2, e, cnt_at hpw _ hk]
    omega
end Go.Proofs.Ytdcgoeapgboclaa

/-! Wires made one: the model's numbers and the program's are the same at every wire that occurs. -/
namespace Go.Proofs.Ytdcgoeapgboclaa
open Go Go.RowKit Go.Deep

theorem getD_set' {α : Type} (l : List α) (i j : Nat) (v d : α) (hj : j < l.length) : (l.set i v).getD j d = if i = j then v else l.getD j d := by
  rw [List.getD_eq_getElem?_getD, List.getElem?_set, List.getD_eq_getElem?_getD]
  by_cases c : i = j
  · subst c
    rw [if_pos rfl, if_pos rfl, if_pos hj]
    rfl
  · rw [if_neg c, if_neg c]
theorem gstK_at (c : List Int) (x y : Int) : ∀ k j, j < c.length → (gstK c x y k).getD j 0 = if j < k then (if c.getD j 0 = max x y then min x y else c.getD j 0) else c.getD j 0
  | 0, j, _ => by rw [if_neg (Nat.not_lt_zero j)]; rfl
  | k + 1, j, hj => by
    have ih := gstK_at c x y k j hj
    have hl := gstK_len c x y k
    rw [show gstK c x y (k + 1) = if (gstK c x y k).getD k 0 = max x y then (gstK c x y k).set k (min x y) else gstK c x y k from rfl]
    by_cases e : j = k
    · subst e
      rw [if_neg (Nat.lt_irrefl j)] at ih
      rw [if_pos (Nat.lt_succ_self j), ih]
      by_cases d : c.getD j 0 = max x y
      · rw [if_pos d, if_pos d, getD_set' _ _ _ _ _ (by rw [hl]; exact hj), if_pos rfl]
      · rw [if_neg d, if_neg d, ih]
    · have hjk : (j < k + 1) = (j < k) := by simp; omega
      simp only [hjk]
      rw [← ih]
      split
      · rw [getD_set' _ _ _ _ _ (by rw [hl]; exact hj), if_neg (fun h => e h.symm)]
      · rfl
/-- Each class is the class of its own wire. -/
def idem (N : Nat) (c : List Int) : Prop := c.length = N ∧ inRg N c ∧ ∀ k, k < N → c.getD (c.getD k 0).toNat 0 = c.getD k 0
theorem rangeI_getD {N k : Nat} (h : k < N) : (rangeI 0 N).getD k 0 = (k : Int) := by
  simp [rangeI, List.getD_eq_getElem?_getD, h]
theorem gst_idem {N : Nat} {c : List Int} (h : idem N c) {p q : Nat} (hp : p < N) (hq : q < N) : idem N (gstK c (c.getD p 0) (c.getD q 0) N) := by
  obtain ⟨hl, hr, hi⟩ := h
  have hx := hr p (by omega)
  have hy := hr q (by omega)
  have ix := hi p hp
  have iy := hi q hq
  generalize c.getD p 0 = x at *
  generalize c.getD q 0 = y at *
  obtain ⟨x', rfl⟩ : ∃ n : Nat, x = (n : Int) := ⟨x.toNat, by omega⟩
  obtain ⟨y', rfl⟩ : ∃ n : Nat, y = (n : Int) := ⟨y.toNat, by omega⟩
  rw [Int.toNat_natCast] at ix iy
  have hat : ∀ j, j < N → (gstK c x' y' N).getD j 0 = if c.getD j 0 = max (x' : Int) y' then min (x' : Int) y' else c.getD j 0 := fun j hj => by
    rw [gstK_at c x' y' N j (by omega), if_pos hj]
  have hmn : c.getD (min (x' : Int) y').toNat 0 = min (x' : Int) y' := by
    by_cases d : (x' : Int) ≤ y'
    · rw [show min (x' : Int) y' = x' by omega, Int.toNat_natCast]; exact ix
    · rw [show min (x' : Int) y' = y' by omega, Int.toNat_natCast]; exact iy
  refine ⟨by rw [gstK_len]; exact hl, gstK_in hr (by omega) (by omega) N, fun k hk => ?_⟩
  rw [hat k hk]
  have hk2 := hr k (by omega)
  by_cases d : c.getD k 0 = max (x' : Int) y'
  · rw [if_pos d, hat _ (by omega), hmn]
    split <;> rfl
  · rw [if_neg d, hat _ (by omega), hi k hk, if_neg d]
theorem gcl_idem {N : Nat} {a b : List Int} (ha : inRg N a) (hb : inRg N b) : ∀ k, k ≤ a.length → k ≤ b.length → idem N (gclK N a b k)
  | 0, _, _ => by
    rw [show gclK N a b 0 = gidK N N from rfl, gidK_range]
    refine ⟨rangeI_len 0 N, fun k hk => ?_, fun k hk => ?_⟩
    · rw [rangeI_len] at hk
      rw [rangeI_getD hk]
      omega
    · rw [rangeI_getD hk, Int.toNat_natCast, rangeI_getD hk]
  | k + 1, h1, h2 => by
    have ih := gcl_idem ha hb k (by omega) (by omega)
    have p1 := ha k (by omega)
    have p2 := hb k (by omega)
    exact gst_idem ih (by omega) (by omega)
theorem gus_at (N : Nat) (c F T : List Int) (hc : c.length = N) (hr : inRg N c) : ∀ k, k ≤ N → ∀ j, j < N → ((gusK N c F T k).getD j false = true ↔ ∃ i, i < k ∧ 0 < F.getD i 0 + T.getD i 0 ∧ c.getD i 0 = (j : Int))
  | 0, _, j, hj => by
    rw [show gusK N c F T 0 = List.replicate N false from rfl, repl_getD' _ _ _ _ hj]
    constructor
    · intro h; cases h
    · rintro ⟨i, h, _⟩; exact absurd h (Nat.not_lt_zero i)
  | k + 1, hk, j, hj => by
    have ih := gus_at N c F T hc hr k (by omega) j hj
    have hl := gusK_len N c F T k
    have hck := hr k (by omega)
    rw [show gusK N c F T (k + 1) = if 0 < F.getD k 0 + T.getD k 0 then (gusK N c F T k).set (c.getD k 0).toNat true else gusK N c F T k from rfl]
    by_cases d : 0 < F.getD k 0 + T.getD k 0
    · rw [if_pos d, getD_set' _ _ _ _ _ (by omega)]
      by_cases e : (c.getD k 0).toNat = j
      · rw [if_pos e]
        exact ⟨fun _ => ⟨k, by omega, d, by omega⟩, fun _ => rfl⟩
      · rw [if_neg e, ih]
        constructor
        · rintro ⟨i, h1, h2, h3⟩; exact ⟨i, by omega, h2, h3⟩
        · rintro ⟨i, h1, h2, h3⟩
          by_cases f : i = k
          · subst f; exact absurd (by omega) e
          · exact ⟨i, by omega, h2, h3⟩
    · rw [if_neg d, ih]
      constructor
      · rintro ⟨i, h1, h2, h3⟩; exact ⟨i, by omega, h2, h3⟩
      · rintro ⟨i, h1, h2, h3⟩
        by_cases f : i = k
        · subst f; exact absurd h2 d
        · exact ⟨i, by omega, h2, h3⟩
/-- How many numbers below k meet r. -/
def cntB (r : Nat → Bool) : Nat → Nat
  | 0 => 0
  | k + 1 => cntB r k + (if r k then 1 else 0)
theorem gnu_at (N : Nat) (c : List Int) (u : List Bool) (r : Nat → Bool) (hr : ∀ k, k < N → (r k = true ↔ c.getD k 0 = k ∧ u.getD k false = true)) : ∀ k, k ≤ N → (gnuK N c u k).2 = cntB r k ∧ ∀ j, j < k → r j = true → (gnuK N c u k).1.getD j 0 = cntB r j
  | 0, _ => ⟨rfl, fun j hj => absurd hj (Nat.not_lt_zero j)⟩
  | k + 1, hk => by
    obtain ⟨ih1, ih2⟩ := gnu_at N c u r hr k (by omega)
    have hl := gnuK_len N c u k
    have hrk := hr k (by omega)
    rw [show gnuK N c u (k + 1) = if c.getD k 0 = k ∧ u.getD k false = true then ((gnuK N c u k).1.set k (gnuK N c u k).2, (gnuK N c u k).2 + 1) else gnuK N c u k from rfl]
    by_cases d : r k = true
    · rw [if_pos (hrk.1 d)]
      refine ⟨by show (gnuK N c u k).2 + 1 = cntB r k + (if r k then 1 else 0); rw [ih1, if_pos d], fun j hj hrj => ?_⟩
      show ((gnuK N c u k).1.set k (gnuK N c u k).2).getD j 0 = _
      rw [getD_set' _ _ _ _ _ (by omega)]
      by_cases e : k = j
      · subst e; rw [if_pos rfl, ih1]
      · rw [if_neg e]; exact ih2 j (by omega) hrj
    · rw [if_neg (fun h => d (hrk.2 h))]
      refine ⟨by show _ = cntB r k + (if r k then 1 else 0); rw [ih1, if_neg d]; rfl, fun j hj hrj => ?_⟩
      by_cases e : j = k
      · subst e; exact absurd hrj d
      · exact ih2 j (by omega) hrj
theorem gfi_at (N : Nat) (c : List Int) (u : List Bool) (m : List Int) (hi : idem N c) (hm : m.length = N) : ∀ k, k ≤ N → (∀ j, j < N → c.getD j 0 = j → u.getD j false = true → (gfiK c u m k).getD j 0 = m.getD j 0) ∧ ∀ j, j < k → u.getD (c.getD j 0).toNat false = true → (gfiK c u m k).getD j 0 = m.getD (c.getD j 0).toNat 0
  | 0, _ => ⟨fun _ _ _ _ => rfl, fun j hj => absurd hj (Nat.not_lt_zero j)⟩
  | k + 1, hk => by
    obtain ⟨ih1, ih2⟩ := gfi_at N c u m hi hm k (by omega)
    have hl := gfiK_len c u m k
    have hck := hi.2.1 k (by rw [hi.1]; omega)
    have hcc := hi.2.2 k (by omega)
    rw [show gfiK c u m (k + 1) = if u.getD (c.getD k 0).toNat false = true then (gfiK c u m k).set k ((gfiK c u m k).getD (c.getD k 0).toNat 0) else ((gfiK c u m k).set k ((gfiK c u m k).getD (c.getD k 0).toNat 0)).set k (-1) from rfl]
    by_cases d : u.getD (c.getD k 0).toNat false = true
    · rw [if_pos d]
      have hv : (gfiK c u m k).getD (c.getD k 0).toNat 0 = m.getD (c.getD k 0).toNat 0 := ih1 _ (by omega) (by rw [hcc]; omega) d
      refine ⟨fun j hj h1 h2 => ?_, fun j hj h1 => ?_⟩
      · rw [getD_set' _ _ _ _ _ (by omega)]
        by_cases e : k = j
        · subst e; rw [if_pos rfl, hv, h1, Int.toNat_natCast]
        · rw [if_neg e]; exact ih1 j hj h1 h2
      · rw [getD_set' _ _ _ _ _ (by omega)]
        by_cases e : k = j
        · subst e; rw [if_pos rfl, hv]
        · rw [if_neg e]; exact ih2 j (by omega) h1
    · rw [if_neg d]
      refine ⟨fun j hj h1 h2 => ?_, fun j hj h1 => ?_⟩
      · have e : k ≠ j := fun e => by subst e; rw [h1, Int.toNat_natCast] at d; exact d h2
        rw [getD_set' _ _ _ _ _ (by rw [List.length_set]; omega), if_neg e, getD_set' _ _ _ _ _ (by omega), if_neg e]
        exact ih1 j hj h1 h2
      · have e : k ≠ j := fun e => by subst e; exact d h1
        rw [getD_set' _ _ _ _ _ (by rw [List.length_set]; omega), if_neg e, getD_set' _ _ _ _ _ (by omega), if_neg e]
        exact ih2 j (by omega) h1
/-- One number more: it is in the list or not. -/
theorem cnt_next : ∀ {D : List Int}, D.Pairwise (· < ·) → ∀ z : Int, D.countP (· < z + 1) = D.countP (· < z) + (if z ∈ D then 1 else 0)
  | [], _, z => by simp
  | d :: D, h, z => by
    obtain ⟨h1, h2⟩ := List.pairwise_cons.1 h
    have ih := cnt_next h2 z
    rw [List.countP_cons, List.countP_cons, ih]
    by_cases c : z = d
    · subst c
      have : z ∉ D := fun hz => by have := h1 z hz; omega
      rw [if_neg this]
      simp
      omega
    · have e : (z ∈ d :: D) ↔ z ∈ D := by simp [c]
      by_cases m : z ∈ D
      · rw [if_pos m, if_pos (e.2 m)]
        have h5 : d < z := h1 z m
        have h6 : d < z + 1 := by omega
        simp [h5, h6]
      · rw [if_neg m, if_neg (fun h => m (e.1 h))]
        by_cases g : d < z
        · simp [g]; omega
        · have : ¬ d < z + 1 := by omega
          simp [g, this]
theorem cnt_below {D : List Int} (h : D.Pairwise (· < ·)) (h0 : ∀ x, x ∈ D → 0 ≤ x) (r : Nat → Bool) (N : Nat) (hr : ∀ k, k < N → (r k = true ↔ (k : Int) ∈ D)) : ∀ k, k ≤ N → D.countP (· < (k : Int)) = cntB r k
  | 0, _ => by
    rw [show cntB r 0 = 0 from rfl, List.countP_eq_zero]
    intro x hx
    have := h0 x hx
    simp
    omega
  | k + 1, hk => by
    have ih := cnt_below h h0 r N hr k (by omega)
    rw [show cntB r (k + 1) = cntB r k + (if r k then 1 else 0) from rfl, ← ih, show ((k + 1 : Nat) : Int) = (k : Int) + 1 by omega, cnt_next h]
    congr 1
    by_cases d : r k = true
    · rw [if_pos d, if_pos ((hr k (by omega)).1 d)]
    · rw [if_neg d, if_neg (fun h => d ((hr k (by omega)).2 h))]
theorem mem_fromTo {es : List Ed} {xi xo : List Int} {x : Int} : (x ∈ fromL es xi ∨ x ∈ toL es xo) ↔ x ∈ occL es xi xo := by
  rw [mem_occ]
  unfold fromL toL
  simp only [List.mem_append, List.mem_flatten, List.mem_map]
  constructor
  · rintro ((h | ⟨l, ⟨e, he, rfl⟩, h⟩) | (h | ⟨l, ⟨e, he, rfl⟩, h⟩))
    · exact Or.inl h
    · exact Or.inr (Or.inr ⟨e, he, Or.inr h⟩)
    · exact Or.inr (Or.inl h)
    · exact Or.inr (Or.inr ⟨e, he, Or.inl h⟩)
  · rintro (h | h | ⟨e, he, h | h⟩)
    · exact Or.inl (Or.inl h)
    · exact Or.inr (Or.inl h)
    · exact Or.inr (Or.inr ⟨_, ⟨e, he, rfl⟩, h⟩)
    · exact Or.inl (Or.inr ⟨_, ⟨e, he, rfl⟩, h⟩)
theorem occ_count {N k : Nat} {es : List Ed} {xi xo : List Int} (hk : k < N) : 0 < (cntRow N (fromL es xi)).getD k 0 + (cntRow N (toL es xo)).getD k 0 ↔ (k : Int) ∈ occL es xi xo := by
  rw [cntRow_at _ hk, cntRow_at _ hk, ← mem_fromTo]
  have h1 := List.count_pos_iff (a := (k : Int)) (l := fromL es xi)
  have h2 := List.count_pos_iff (a := (k : Int)) (l := toL es xo)
  rw [← h1, ← h2]
  omega
/-- The numbers are the same at a wire that occurs, and so is how many there are. -/
theorem gl_same {N : Nat} {a b : List Int} {es : List Ed} {xi xo : List Int} (hab : a.length ≤ b.length) (hra : inRg N a) (hrb : inRg N b) (hoc : ∀ x, x ∈ occL es xi xo → 0 ≤ x ∧ x < N) :
    glN N a b es xi xo = pCnt N a b es xi xo ∧ ∀ x, x ∈ occL es xi xo → (glNum N a b es xi xo).getD x.toNat 0 = (pNum N a b es xi xo).getD x.toNat 0 := by
  have hid := gcl_idem hra hrb a.length (Nat.le_refl _) hab
  have hc : glCls N a b = gclK N a b a.length := rfl
  have hul := gusK_len N (glCls N a b) (cntRow N (fromL es xi)) (cntRow N (toL es xo)) N
  have hus := gus_at N (glCls N a b) (cntRow N (fromL es xi)) (cntRow N (toL es xo)) hid.1 hid.2.1 N (Nat.le_refl _)
  unfold glN glNum glUsd pNum pCnt
  rw [← hc] at hid ⊢
  generalize glCls N a b = c at *
  generalize gusK N c (cntRow N (fromL es xi)) (cntRow N (toL es xo)) N = u at *
  have hmem : ∀ z : Int, z ∈ clsL c (occL es xi xo) ↔ ∃ x, x ∈ occL es xi xo ∧ c.getD x.toNat 0 = z := fun z => by
    unfold clsL
    rw [mem_compact, srt_mem]
    unfold pickL
    simp only [List.mem_map]
  have hpw : (clsL c (occL es xi xo)).Pairwise (· < ·) := compact_lt (srt_sorted _)
  have hD : ∀ z, z ∈ clsL c (occL es xi xo) → 0 ≤ z ∧ z < N := fun z hz => by
    obtain ⟨x, hx, rfl⟩ := (hmem z).1 hz
    have := hoc x hx
    exact hid.2.1 x.toNat (by rw [hid.1]; omega)
  have hu : ∀ j, j < N → (u.getD j false = true ↔ (j : Int) ∈ clsL c (occL es xi xo)) := fun j hj => by
    rw [hus j hj, hmem]
    constructor
    · rintro ⟨i, h1, h2, h3⟩
      exact ⟨i, (occ_count h1).1 h2, by rw [Int.toNat_natCast]; exact h3⟩
    · rintro ⟨x, hx, h3⟩
      have := hoc x hx
      exact ⟨x.toNat, by omega, (occ_count (by omega)).2 (by rw [show ((x.toNat : Nat) : Int) = x by omega]; exact hx), h3⟩
  have hr : ∀ k, k < N → (u.getD k false = true ↔ c.getD k 0 = k ∧ u.getD k false = true) := fun k hk => by
    refine ⟨fun h => ⟨?_, h⟩, fun h => h.2⟩
    obtain ⟨x, hx, h3⟩ := (hmem _).1 ((hu k hk).1 h)
    have := hoc x hx
    have h4 := hid.2.2 x.toNat (by omega)
    rw [h3, Int.toNat_natCast] at h4
    exact h4
  obtain ⟨g1, g2⟩ := gnu_at N c u (fun k => u.getD k false) hr N (Nat.le_refl _)
  have hcb := cnt_below hpw (fun x hx => (hD x hx).1) (fun k => u.getD k false) N hu
  refine ⟨?_, fun x hx => ?_⟩
  · rw [g1, ← hcb N (Nat.le_refl _), List.countP_eq_length]
    intro z hz
    have := (hD z hz).2
    simpa using this
  · have hx2 := hoc x hx
    have hxc := hid.2.1 x.toNat (by rw [hid.1]; omega)
    have hin : c.getD x.toNat 0 ∈ clsL c (occL es xi xo) := (hmem _).2 ⟨x, hx, rfl⟩
    obtain ⟨-, f2⟩ := gfi_at N c u (gnuK N c u N).1 hid (gnuK_len _ _ _ _) N (Nat.le_refl _)
    have huc : u.getD (c.getD x.toNat 0).toNat false = true := (hu _ (by omega)).2 (by rw [show (((c.getD x.toNat 0).toNat : Nat) : Int) = c.getD x.toNat 0 by omega]; exact hin)
    rw [f2 x.toNat (by omega) huc, g2 _ (by omega) huc]
    unfold numL
    rw [map_getD _ _ _ (by rw [hid.1]; omega) 0]
    have h5 := hcb (c.getD x.toNat 0).toNat (by omega)
    rw [show (((c.getD x.toNat 0).toNat : Nat) : Int) = c.getD x.toNat 0 by omega] at h5
    rw [h5]
theorem pickL_congr {l t1 t2 : List Int} (h : ∀ x, x ∈ l → t1.getD x.toNat 0 = t2.getD x.toNat 0) : pickL l t1 = pickL l t2 := List.map_congr_left h
theorem gl_graph {N : Nat} {a b : List Int} {es : List Ed} {xi xo : List Int} (hab : a.length ≤ b.length) (hra : inRg N a) (hrb : inRg N b) (hoc : ∀ x, x ∈ occL es xi xo → 0 ≤ x ∧ x < N) :
    glN N a b es xi xo = pCnt N a b es xi xo ∧ mapEs (glNum N a b es xi xo) es = mapEs (pNum N a b es xi xo) es ∧ pickL xi (glNum N a b es xi xo) = pickL xi (pNum N a b es xi xo) ∧ pickL xo (glNum N a b es xi xo) = pickL xo (pNum N a b es xi xo) := by
  obtain ⟨h1, h2⟩ := gl_same hab hra hrb hoc
  refine ⟨h1, List.map_congr_left fun e he => ?_, pickL_congr fun x hx => h2 x (mem_occ.2 (Or.inl hx)), pickL_congr fun x hx => h2 x (mem_occ.2 (Or.inr (Or.inl hx)))⟩
  unfold mapE
  rw [pickL_congr fun x hx => h2 x (mem_occ.2 (Or.inr (Or.inr ⟨e, he, Or.inl hx⟩))), pickL_congr fun x hx => h2 x (mem_occ.2 (Or.inr (Or.inr ⟨e, he, Or.inr hx⟩)))]
end Go.Proofs.Ytdcgoeapgboclaa
