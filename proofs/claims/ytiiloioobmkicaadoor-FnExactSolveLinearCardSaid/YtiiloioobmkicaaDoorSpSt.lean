/- The model's state of a reduction: the boxes of the two matrices and of the results. -/
import Derived.Test.YtiiloioobmkicaaDoorSpA
import Derived.Test.YtiiloioobmkicaaDoorRdA
import Derived.Test.YtiiloioobmkicaaDoorMem
namespace Go.Proofs.YtiiloioobmkicaaDoor
set_option maxRecDepth 100000
open Go Go.RowKit Go.Deep

structure MSt (w0 w : World) (Sa St : Nat → Prop) (ba bb : Nat) (c n : Int) (vp va vt : Value) (a t : List (List Int)) : Prop where
  below : Below w0.heap.size w0 w
  p : CellsAt w w0.heap.size tM [.int .i64 c, vp]
  r1 : CellsAt w (w0.heap.size + 1) tM [.int .i64 0, .slice none 0 0]
  r2 : CellsAt w (w0.heap.size + 1 + 1) tM [.int .i64 0, .slice none 0 0]
  xa : CellsAt w ba tM [.int .i64 c, va]
  xb : CellsAt w bb tM [.int .i64 n, vt]
  a : OwG w tI tR Sa va a
  t : OwG w tI tR St vt t
  ha : w0.heap.size + 3 ≤ ba
  hb : w0.heap.size + 3 ≤ bb
  sa : ∀ k, Sa k → w0.heap.size + 3 ≤ k ∧ k ≠ ba ∧ k ≠ bb ∧ ¬ St k ∧ k < w.heap.size
  st : ∀ k, St k → w0.heap.size + 3 ≤ k ∧ k ≠ ba ∧ k ≠ bb ∧ ¬ Sa k ∧ k < w.heap.size
section
variable {w0 w w' : World} {Sa St : Nat → Prop} {ba bb : Nat} {c n : Int} {vp va vt : Value} {a t a2 t2 : List (List Int)}
/-- One of the grids written: the other cells stand as they were. -/
theorem MSt.wroteA (h : MSt w0 w Sa St ba bb c n vp va vt a t) (ht : Touch Sa w w') (ho : OwG w' tI tR Sa va a2) : MSt w0 w' Sa St ba bb c n vp va vt a2 t :=
  ⟨h.below.trans (ht.below h.below.size (fun k hk => by have := (h.sa k hk).1; omega)), h.p.touch ht (fun hk => by have := (h.sa _ hk).1; omega), h.r1.touch ht (fun hk => by have := (h.sa _ hk).1; omega), h.r2.touch ht (fun hk => by have := (h.sa _ hk).1; omega),
   h.xa.touch ht (fun hk => (h.sa _ hk).2.1 rfl), h.xb.touch ht (fun hk => (h.sa _ hk).2.2.1 rfl), ho, h.t.blocks (fun k hk hl => ht.block k hl (h.st k hk).2.2.2.1), h.ha, h.hb, fun k hk => ⟨(h.sa k hk).1, (h.sa k hk).2.1, (h.sa k hk).2.2.1, (h.sa k hk).2.2.2.1, Nat.lt_of_lt_of_le (h.sa k hk).2.2.2.2 ht.size⟩, fun k hk => ⟨(h.st k hk).1, (h.st k hk).2.1, (h.st k hk).2.2.1, (h.st k hk).2.2.2.1, Nat.lt_of_lt_of_le (h.st k hk).2.2.2.2 ht.size⟩⟩
theorem MSt.wroteT (h : MSt w0 w Sa St ba bb c n vp va vt a t) (ht : Touch St w w') (ho : OwG w' tI tR St vt t2) : MSt w0 w' Sa St ba bb c n vp va vt a t2 :=
  ⟨h.below.trans (ht.below h.below.size (fun k hk => by have := (h.st k hk).1; omega)), h.p.touch ht (fun hk => by have := (h.st _ hk).1; omega), h.r1.touch ht (fun hk => by have := (h.st _ hk).1; omega), h.r2.touch ht (fun hk => by have := (h.st _ hk).1; omega),
   h.xa.touch ht (fun hk => (h.st _ hk).2.1 rfl), h.xb.touch ht (fun hk => (h.st _ hk).2.2.1 rfl), h.a.blocks (fun k hk hl => ht.block k hl (h.sa k hk).2.2.2.1), ho, h.ha, h.hb, fun k hk => ⟨(h.sa k hk).1, (h.sa k hk).2.1, (h.sa k hk).2.2.1, (h.sa k hk).2.2.2.1, Nat.lt_of_lt_of_le (h.sa k hk).2.2.2.2 ht.size⟩, fun k hk => ⟨(h.st k hk).1, (h.st k hk).2.1, (h.st k hk).2.2.1, (h.st k hk).2.2.2.1, Nat.lt_of_lt_of_le (h.st k hk).2.2.2.2 ht.size⟩⟩
theorem MSt.drew (h : MSt w0 w Sa St ba bb c n vp va vt a t) : MSt w0 w.drew Sa St ba bb c n vp va vt a t :=
  ⟨h.below.drew, h.p, h.r1, h.r2, h.xa, h.xb, OwG.drew h.a, OwG.drew h.t, h.ha, h.hb, h.sa, h.st⟩
/-- Stores at one block keep what a block reads as. -/
theorem blk_congr {w1 w2 : World} {k : Nat} (h : w1.heap[k]? = w2.heap[k]?) (p : Addr) (v : Value) : (w1.setCell p v).heap[k]? = (w2.setCell p v).heap[k]? := by
  simp only [World.setCell, Array.getElem?_modify, h]
/-- Two rows exchanged in both grids: four stores. -/
theorem MSt.swap (h : MSt w0 w Sa St ba bb c n vp va vt a t) {r i : Nat} (hr : r < a.length) (hi : i < a.length) (hr2 : r < t.length) (hi2 : i < t.length) :
    ∃ g cg g2 cg2 A1 l1 c1 A2 l2 c2 B1 m1 d1 B2 m2 d2, va = .slice (some ⟨g, 0, none⟩) a.length cg ∧ vt = .slice (some ⟨g2, 0, none⟩) t.length cg2 ∧ g ≠ g2 ∧ g < w.heap.size ∧ g2 < w.heap.size ∧ (g ≠ ba ∧ g ≠ bb ∧ g2 ≠ ba ∧ g2 ≠ bb) ∧
      (w.cell? ⟨g, i, none⟩ = some (.slice A1 l1 c1) ∧ w.cell? ⟨g, r, none⟩ = some (.slice A2 l2 c2) ∧ (∀ o, w.frozen? ⟨g, o, none⟩ = false)) ∧
      (w.cell? ⟨g2, i, none⟩ = some (.slice B1 m1 d1) ∧ w.cell? ⟨g2, r, none⟩ = some (.slice B2 m2 d2) ∧ (∀ o, w.frozen? ⟨g2, o, none⟩ = false)) ∧
      MSt w0 ((((w.setCell ⟨g, i, none⟩ (.slice A2 l2 c2)).setCell ⟨g2, i, none⟩ (.slice B2 m2 d2)).setCell ⟨g, r, none⟩ (.slice A1 l1 c1)).setCell ⟨g2, r, none⟩ (.slice B1 m1 d1)) Sa St ba bb c n vp va vt (swapL r i a) (swapL r i t) := by
  obtain ⟨g, cg, A1, l1, c1, A2, l2, c2, e, hg, hgl, hc1, hc2, hfz, ho⟩ := h.a.swap hi hr
  obtain ⟨g2, cg2, B1, m1, d1, B2, m2, d2, e2, hg2, hgl2, hd1, hd2, hfz2, ho2⟩ := h.t.swap hi2 hr2
  have hsa := h.sa g hg
  have hst := h.st g2 hg2
  have hne : g ≠ g2 := fun e => hsa.2.2.2.1 (by rw [e]; exact hg2)
  have hsz : ((((w.setCell ⟨g, i, none⟩ (.slice A2 l2 c2)).setCell ⟨g2, i, none⟩ (.slice B2 m2 d2)).setCell ⟨g, r, none⟩ (.slice A1 l1 c1)).setCell ⟨g2, r, none⟩ (.slice B1 m1 d1)).heap.size = w.heap.size := by simp only [nblk_setCell]
  have hoth : ∀ k, k ≠ g → k ≠ g2 → ((((w.setCell ⟨g, i, none⟩ (.slice A2 l2 c2)).setCell ⟨g2, i, none⟩ (.slice B2 m2 d2)).setCell ⟨g, r, none⟩ (.slice A1 l1 c1)).setCell ⟨g2, r, none⟩ (.slice B1 m1 d1)).heap[k]? = w.heap[k]? := fun k h1 h2 => by
    rw [blk_setCell_other _ _ _ _ (by dsimp only; exact h2), blk_setCell_other _ _ _ _ (by dsimp only; exact h1), blk_setCell_other _ _ _ _ (by dsimp only; exact h2), blk_setCell_other _ _ _ _ (by dsimp only; exact h1)]
  refine ⟨g, cg, g2, cg2, A1, l1, c1, A2, l2, c2, B1, m1, d1, B2, m2, d2, e, e2, hne, hgl, hgl2, ⟨hsa.2.1, hsa.2.2.1, hst.2.1, hst.2.2.1⟩, ⟨hc1, hc2, hfz⟩, ⟨hd1, hd2, hfz2⟩, ⟨?_, h.p.of_block (hoth _ (by omega) (by omega)), h.r1.of_block (hoth _ (by omega) (by omega)), h.r2.of_block (hoth _ (by omega) (by omega)), h.xa.of_block (hoth _ (fun e => hsa.2.1 e.symm) (fun e => hst.2.1 e.symm)), h.xb.of_block (hoth _ (fun e => hsa.2.2.1 e.symm) (fun e => hst.2.2.1 e.symm)), ?_, ?_, h.ha, h.hb, fun k hk => by rw [hsz]; exact h.sa k hk, fun k hk => by rw [hsz]; exact h.st k hk⟩⟩
  · refine (((h.below.setCell ?_ _).setCell ?_ _).setCell ?_ _).setCell ?_ _ <;> (dsimp only; omega)
  · rw [show swapL r i a = swapL i r a from (swapL_comm hr hi).symm]
    refine ho.blocks fun k hk hl => ?_
    have h2 : k ≠ g2 := fun e => (h.sa k hk).2.2.2.1 (by rw [e]; exact hg2)
    rw [blk_setCell_other _ _ _ _ (by dsimp only; exact h2)]
    refine blk_congr ?_ _ _
    rw [blk_setCell_other _ _ _ _ (by dsimp only; exact h2)]
  · rw [show swapL r i t = swapL i r t from (swapL_comm hr2 hi2).symm]
    refine ho2.blocks fun k hk hl => ?_
    have h2 : k ≠ g := fun e => (h.st k hk).2.2.2.1 (by rw [e]; exact hg)
    refine blk_congr ?_ _ _
    rw [blk_setCell_other _ _ _ _ (by dsimp only; exact h2)]
    refine blk_congr ?_ _ _
    rw [blk_setCell_other _ _ _ _ (by dsimp only; exact h2)]
/-- A row lent: written within its own blocks it stands in the grid again. -/
theorem OwG.lend {w : World} {S : Nat → Prop} {v : Value} {rows : List (List Int)} (h : OwG w tI tR S v rows) {r : Nat} (hr : r < rows.length) :
    ∃ (g c : Nat) (A : Option Addr) (cu : Nat) (T : Nat → Prop), v = .slice (some ⟨g, 0, none⟩) rows.length c ∧ w.cell? ⟨g, r, none⟩ = some (.slice A (rows.getD r []).length cu) ∧ OwR w tI T (.slice A (rows.getD r []).length cu) (rows.getD r []) ∧ (∀ k, T k → S k) ∧
      (∀ w' ys, ys.length = (rows.getD r []).length → Touch T w w' → OwR w' tI T (.slice A (rows.getD r []).length cu) ys → OwG w' tI tR S v (rows.set r ys)) ∧
      ∀ s, s < rows.length → s ≠ r → ∃ A2 c2, w.cell? ⟨g, s, none⟩ = some (.slice A2 (rows.getD s []).length c2) ∧ RdS w (fun b => ¬ T b) (.slice A2 (rows.getD s []).length c2) (rows.getD s []) := by
  obtain ⟨g, c, u, e, hg, hgl, hc, hfz, hR, hne, hback, hoth⟩ := h.row hr
  obtain ⟨A, cu, rfl⟩ := hR.len
  refine ⟨g, c, A, cu, rg _ (rows.getD r []), e, hc, hR, fun k hk => ?_, fun w' ys hl ht ho => ?_, fun s hs hsr => ?_⟩
  · rw [hk.2]
    exact (hne hk.1).1
  · refine hback w' ys hl (ho.mono fun k hk _ => ⟨fun e0 => hk.1 (List.length_eq_zero_iff.1 (by rw [← hl, e0]; rfl)), hk.2⟩) fun k hl2 _ hk => ht.block k hl2 hk
  · obtain ⟨u2, h2, h3⟩ := hoth s hs hsr
    obtain ⟨A2, c2, rfl, kc_c2, h4⟩ := h3
    exact ⟨A2, c2, h2, RdS.mono ⟨A2, c2, rfl, kc_c2, h4⟩ fun k hk => hk.2⟩
theorem cells_two {w : World} {b : Nat} {t : TypeId} {x y u v : Value} (h : CellsAt w b t [x, y]) : CellsAt ((w.setCell ⟨b, 0, none⟩ u).setCell ⟨b, 1, none⟩ v) b t [u, v] := (h.set 0 u).set 1 v
/-! Boxes made ahead of a call, behind it. -/
abbrev bxO : Obj := .cells #[.int .i64 0, .slice none 0 0] tM (0, 0)
theorem bxk {X w' : World} {k : Nat} (b : Below X.heap.size X w') (h : X.heap[k]? = some bxO) : w'.heap[k]? = some bxO := (b.block _ (Array.getElem?_eq_some_iff.1 h).1).trans h
theorem bx1 (X : World) : (X.alloc bxO).heap[X.heap.size]? = some bxO := blk_alloc_new _ _
theorem bx21 (X : World) : ((X.alloc bxO).alloc bxO).heap[X.heap.size]? = some bxO := (blk_alloc_lt _ _ _ (by rw [nblk_alloc]; omega)).trans (blk_alloc_new _ _)
theorem bx22 (X : World) : ((X.alloc bxO).alloc bxO).heap[X.heap.size + 1]? = some bxO := by have h := blk_alloc_new (X.alloc bxO) bxO; rw [nblk_alloc] at h; exact h
theorem bxs {X : World} {k : Nat} (h : X.heap[k]? = some bxO) : (X.alloc bxO).heap[k]? = some bxO := (blk_alloc_lt _ _ _ (Array.getElem?_eq_some_iff.1 h).1).trans h
theorem bx_facts {w : World} {k : Nat} (h : w.heap[k]? = some bxO) : w.cell? ⟨k, 0, none⟩ = some (.int .i64 0) ∧ w.cell? ⟨k, 1, none⟩ = some (.slice none 0 0) ∧ w.frozen? ⟨k, 0, none⟩ = false ∧ w.frozen? ⟨k, 1, none⟩ = false ∧ k < w.heap.size :=
  ⟨by simp [World.cell?, h], by simp [World.cell?, h], by simp [World.frozen?, h], by simp [World.frozen?, h], (Array.getElem?_eq_some_iff.1 h).1⟩
end
end Go.Proofs.YtiiloioobmkicaaDoor
