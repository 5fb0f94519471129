/- Blocks of cells that the call owns, rows of ints in them, and grids: rows of rows, each row in a block of its own. -/
import Derived.RowKit3
import Derived.Laws.OwnMore
import Derived.Deep.Heap
import Derived.Below
import Derived.Deep.Draws
import Derived.Laws.NewBlocks
import Derived.Test.YtahlicbjbbpihaaDoorUpd
namespace Go.Proofs.YtahlicbjbbpihaaDoor
set_option maxRecDepth 100000
open Go Go.RowKit Go.Deep

/-- Of the blocks that were there only those in S may have changed. -/
structure Touch (S : Nat → Prop) (w w' : World) : Prop where
  os : w'.os = w.os
  tape : w'.tape = w.tape
  output : w'.output = w.output
  size : w.heap.size ≤ w'.heap.size
  block : ∀ k, k < w.heap.size → ¬ S k → w'.heap[k]? = w.heap[k]?
theorem Touch.refl (S : Nat → Prop) (w : World) : Touch S w w := ⟨rfl, rfl, rfl, Nat.le_refl _, fun _ _ _ => rfl⟩
theorem Touch.trans {S : Nat → Prop} {a b c : World} (h : Touch S a b) (k : Touch S b c) : Touch S a c :=
  ⟨k.os.trans h.os, k.tape.trans h.tape, k.output.trans h.output, Nat.le_trans h.size k.size, fun i hi hs => (k.block i (Nat.lt_of_lt_of_le hi h.size) hs).trans (h.block i hi hs)⟩
theorem Touch.mono {S T : Nat → Prop} {a b : World} (h : Touch S a b) (hs : ∀ k, k < a.heap.size → S k → T k) : Touch T a b := ⟨h.os, h.tape, h.output, h.size, fun k hk ht => h.block k hk (fun c => ht (hs k hk c))⟩
theorem Touch.below {S : Nat → Prop} {B : Nat} {a b : World} (h : Touch S a b) (hB : B ≤ a.heap.size) (hs : ∀ k, S k → B ≤ k) : Below B a b :=
  ⟨h.os, h.tape, h.output, h.size, fun k hk => h.block k (by omega) (fun c => by have := hs k c; omega)⟩
theorem Touch.of_below {S : Nat → Prop} {B : Nat} {a b : World} (h : Below B a b) (hs : ∀ k, B ≤ k → k < a.heap.size → S k) : Touch S a b :=
  ⟨h.os, h.tape, h.output, h.size, fun k hk hn => h.block k (by
    by_cases c : k < B
    · exact c
    · exact absurd (hs k (by omega) hk) hn)⟩
theorem Touch.drewN {S : Nat → Prop} {a b : World} (h : Touch S a b) (n : Nat) : Touch S a (b.drewN n) := ⟨h.os, h.tape, h.output, h.size, h.block⟩
theorem Touch.drew {S : Nat → Prop} {a b : World} (h : Touch S a b) : Touch S a b.drew := ⟨h.os, h.tape, h.output, h.size, h.block⟩
theorem Touch.alloc {S : Nat → Prop} {a b : World} (h : Touch S a b) (o : Obj) : Touch S a (b.alloc o) :=
  h.trans ⟨rfl, rfl, rfl, by rw [nblk_alloc]; omega, fun k hk _ => blk_alloc_lt _ _ _ hk⟩
theorem Touch.setCell {S : Nat → Prop} {a b : World} (h : Touch S a b) {p : Addr} (hp : S p.block ∨ a.heap.size ≤ p.block) (v : Value) : Touch S a (b.setCell p v) :=
  ⟨h.os, h.tape, h.output, by rw [nblk_setCell]; exact h.size, fun k hk hs => by
    rw [blk_setCell_other _ _ _ _ (fun e => by
      rcases hp with hp | hp
      · rw [e] at hs; exact hs hp
      · omega)]
    exact h.block k hk hs⟩

/-- Block b: cells of type t, none frozen; the first of them are vs. -/
def CellsAt (w : World) (b : Nat) (t : TypeId) (vs : List Value) : Prop :=
  ∃ cur : Array Value, w.heap[b]? = some (.cells cur t (0, 0)) ∧ vs.length ≤ cur.size ∧ ∀ j, j < vs.length → cur[j]? = vs[j]?
namespace CellsAt
variable {w w' : World} {b : Nat} {t : TypeId} {vs : List Value}
theorem lt (h : CellsAt w b t vs) : b < w.heap.size := by
  obtain ⟨c, hb, _⟩ := h
  exact (Array.getElem?_eq_some_iff.1 hb).1
theorem of_block (h : CellsAt w b t vs) (e : w'.heap[b]? = w.heap[b]?) : CellsAt w' b t vs := by
  obtain ⟨c, hb, h⟩ := h
  exact ⟨c, e.trans hb, h⟩
theorem cell (h : CellsAt w b t vs) {i : Nat} (hi : i < vs.length) : w.cell? ⟨b, i, none⟩ = vs[i]? := by
  obtain ⟨c, hb, _, hc⟩ := h
  simp [World.cell?, hb, hc i hi]
theorem frozen (h : CellsAt w b t vs) (i : Nat) : w.frozen? ⟨b, i, none⟩ = false := by
  obtain ⟨c, hb, _⟩ := h
  simp [World.frozen?, hb]
theorem set (h : CellsAt w b t vs) (i : Nat) (u : Value) : CellsAt (w.setCell ⟨b, i, none⟩ u) b t (vs.set i u) := by
  obtain ⟨c, hb, hn, hc⟩ := h
  refine ⟨c.setIfInBounds i u, ?_, by simpa using hn, fun j hj => ?_⟩
  · simp [World.setCell, Array.getElem?_modify, hb]
  · rw [List.length_set] at hj
    rw [Array.getElem?_setIfInBounds, List.getElem?_set]
    by_cases e : i = j
    · subst e
      rw [if_pos rfl, if_pos rfl, if_pos (by omega), if_pos hj]
    · rw [if_neg e, if_neg e]
      exact hc j hj
theorem setOther (h : CellsAt w b t vs) {a : Addr} (ha : b ≠ a.block) (u : Value) : CellsAt (w.setCell a u) b t vs := h.of_block (blk_setCell_other _ _ _ _ ha)
theorem alloc (h : CellsAt w b t vs) (o : Obj) : CellsAt (w.alloc o) b t vs := h.of_block (blk_alloc_lt _ _ _ h.lt)
theorem drewN (h : CellsAt w b t vs) (n : Nat) : CellsAt (w.drewN n) b t vs := h
theorem take (h : CellsAt w b t vs) (n : Nat) : CellsAt w b t (vs.take n) := by
  obtain ⟨c, hb, hn, hc⟩ := h
  refine ⟨c, hb, by rw [List.length_take]; omega, fun j hj => ?_⟩
  rw [List.length_take] at hj
  rw [List.getElem?_take_of_lt (by omega)]
  exact hc j (by omega)
theorem touch {S : Nat → Prop} (h : CellsAt w b t vs) (ht : Touch S w w') (hs : ¬ S b) : CellsAt w' b t vs := h.of_block (ht.block _ h.lt hs)
theorem below {B : Nat} (h : CellsAt w b t vs) (hb : Below B w w') (hB : b < B) : CellsAt w' b t vs := h.of_block (hb.block _ hB)
end CellsAt
theorem cellsAt_new (w : World) (c : Array Value) (t : TypeId) : CellsAt (w.alloc (.cells c t)) w.heap.size t c.toList :=
  ⟨c, blk_alloc_new _ _, by simp, fun j _ => by simp⟩

/-- The slice v reads as the ints xs, in a block that S holds of. -/
def RdS (w : World) (S : Nat → Prop) (v : Value) (xs : List Int) : Prop :=
  ∃ A c, v = .slice A xs.length c ∧ ∀ k, k < xs.length → ∃ b o, A = some ⟨b, o, none⟩ ∧ S b ∧ w.cell? ⟨b, o + k, none⟩ = some (.int .i64 (xs.getD k 0))
theorem RdS.mono {w : World} {S T : Nat → Prop} {v : Value} {xs : List Int} (h : RdS w S v xs) (hs : ∀ k, S k → T k) : RdS w T v xs := by
  obtain ⟨A, c, e, h⟩ := h
  refine ⟨A, c, e, fun k hk => ?_⟩
  obtain ⟨b, o, e2, h3, hc⟩ := h k hk
  exact ⟨b, o, e2, hs _ h3, hc⟩
theorem RdS.blocks {w w' : World} {S : Nat → Prop} {v : Value} {xs : List Int} (h : RdS w S v xs) (hb : ∀ k, S k → w'.heap[k]? = w.heap[k]?) : RdS w' S v xs := by
  obtain ⟨A, c, e, h⟩ := h
  refine ⟨A, c, e, fun k hk => ?_⟩
  obtain ⟨b, o, e2, h3, hc⟩ := h k hk
  exact ⟨b, o, e2, h3, (World.cell?_of_block (w := w) (a := ⟨b, o + k, none⟩) (hb b h3)).trans hc⟩
theorem RdS.below {w w' : World} {B B' : Nat} {v : Value} {xs : List Int} (h : RdS w (fun b => b < B) v xs) (hb : Below B' w w') (hB : B ≤ B') : RdS w' (fun b => b < B) v xs :=
  h.blocks fun k hk => hb.block k (Nat.lt_of_lt_of_le hk hB)
theorem RdS.lt {w : World} {S : Nat → Prop} {v : Value} {xs : List Int} (h : RdS w S v xs) : RdS w (fun b => S b ∧ b < w.heap.size) v xs := by
  obtain ⟨A, c, e, h⟩ := h
  refine ⟨A, c, e, fun k hk => ?_⟩
  obtain ⟨b, o, e2, h3, hc⟩ := h k hk
  refine ⟨b, o, e2, ⟨h3, ?_⟩, hc⟩
  by_cases c1 : b < w.heap.size
  · exact c1
  · have : w.heap[b]? = none := by simp; omega
    simp [World.cell?, this] at hc

/-- The ints as cells. -/
def icells (xs : List Int) : List Value := xs.map (Value.int .i64)
theorem icells_len (xs : List Int) : (icells xs).length = xs.length := by simp [icells]
theorem icells_get {xs : List Int} {k : Nat} (h : k < xs.length) : (icells xs)[k]? = some (.int .i64 (xs.getD k 0)) := by
  unfold icells
  rw [List.getElem?_map, List.getElem?_eq_getElem h, List.getD_eq_getElem?_getD, List.getElem?_eq_getElem h]
  rfl
theorem icells_set (xs : List Int) (k : Nat) (u : Int) : (icells xs).set k (.int .i64 u) = icells (xs.set k u) := by simp [icells, List.map_set]

/-- The slice v is a row of its own of the ints xs: empty, or in a block that S holds of. -/
def OwR (w : World) (ti : TypeId) (S : Nat → Prop) (v : Value) (xs : List Int) : Prop :=
  ∃ A c, v = .slice A xs.length c ∧ (xs = [] ∨ ∃ b, A = some ⟨b, 0, none⟩ ∧ S b ∧ CellsAt w b ti (icells xs))
/-- The block of a slice's address. -/
def blkOf : Value → Nat
  | .slice (some a) _ _ => a.block
  | _ => 0
section
variable {w w' : World} {ti : TypeId} {S T : Nat → Prop} {v : Value} {xs : List Int}
theorem OwR.mono (h : OwR w ti S v xs) (hs : ∀ k, S k → k < w.heap.size → T k) : OwR w ti T v xs := by
  obtain ⟨A, c, e, h⟩ := h
  refine ⟨A, c, e, ?_⟩
  rcases h with h | ⟨b, e2, h3, h4⟩
  · exact Or.inl h
  · exact Or.inr ⟨b, e2, hs _ h3 h4.lt, h4⟩
theorem OwR.blocks (h : OwR w ti S v xs) (hb : ∀ k, S k → k < w.heap.size → xs ≠ [] → k = blkOf v → w'.heap[k]? = w.heap[k]?) : OwR w' ti S v xs := by
  obtain ⟨A, c, e, h⟩ := h
  refine ⟨A, c, e, ?_⟩
  rcases h with h | ⟨b, e2, h3, h4⟩
  · exact Or.inl h
  · by_cases hx : xs = []
    · exact Or.inl hx
    · exact Or.inr ⟨b, e2, h3, h4.of_block (hb b h3 h4.lt hx (by rw [e, e2]; rfl))⟩
theorem OwR.read (h : OwR w ti S v xs) : RdS w (fun b => S b ∧ b < w.heap.size) v xs := by
  obtain ⟨A, c, e, h⟩ := h
  refine ⟨A, c, e, fun k hk => ?_⟩
  rcases h with h | ⟨b, e2, h3, h4⟩
  · rw [h] at hk
    exact absurd hk (Nat.not_lt_zero k)
  · refine ⟨b, 0, e2, ⟨h3, h4.lt⟩, ?_⟩
    rw [Nat.zero_add, h4.cell (by rw [icells_len]; exact hk)]
    exact icells_get hk
theorem OwR.readB (h : OwR w ti S v xs) : RdS w (fun b => b < w.heap.size) v xs := h.read.mono fun _ h => h.2
theorem OwR.nil (A : Option Addr) (c : Nat) : OwR w ti S (.slice A 0 c) [] := ⟨A, c, rfl, Or.inl rfl⟩
theorem OwR.len (h : OwR w ti S v xs) : ∃ A c, v = .slice A xs.length c := by
  obtain ⟨A, c, e, _⟩ := h
  exact ⟨A, c, e⟩
/-- Parted: an empty row, or one in a block. -/
theorem OwR.cases (h : OwR w ti S v xs) : (xs = [] ∧ ∃ A c, v = .slice A 0 c) ∨ ∃ b c, v = .slice (some ⟨b, 0, none⟩) xs.length c ∧ S b ∧ 0 < xs.length ∧ CellsAt w b ti (icells xs) := by
  obtain ⟨A, c, e, h⟩ := h
  rcases h with h | ⟨b, e2, h3, h4⟩
  · subst h
    exact Or.inl ⟨rfl, A, c, e⟩
  · by_cases hx : xs = []
    · subst hx
      exact Or.inl ⟨rfl, A, c, e⟩
    · subst e2
      exact Or.inr ⟨b, c, e, h3, List.length_pos_iff.2 hx, h4⟩
end
theorem owR_at {w : World} {ti : TypeId} {S : Nat → Prop} {b c : Nat} {xs : List Int} (hs : S b) (h : CellsAt w b ti (icells xs)) {n : Nat} (hn : n = xs.length) : OwR w ti S (.slice (some ⟨b, 0, none⟩) n c) xs := by
  subst hn
  exact ⟨_, c, rfl, Or.inr ⟨b, rfl, hs, h⟩⟩

/-- Block g holds the slices vs; slice r is a row of its own, rows r; no two share a block. -/
structure GridAt (w : World) (ti ts : TypeId) (S : Nat → Prop) (g : Nat) (vs : List Value) (rows : List (List Int)) : Prop where
  outer : CellsAt w g ts vs
  inS : S g
  len : vs.length = rows.length
  row : ∀ r, r < rows.length → OwR w ti S (vs.getD r .nilFunc) (rows.getD r [])
  off : ∀ r, r < rows.length → rows.getD r [] ≠ [] → blkOf (vs.getD r .nilFunc) ≠ g
  apart : ∀ r s, r < rows.length → s < rows.length → r ≠ s → rows.getD r [] ≠ [] → rows.getD s [] ≠ [] → blkOf (vs.getD r .nilFunc) ≠ blkOf (vs.getD s .nilFunc)
/-- The slice v is a grid of its own: empty, or a block of slices. -/
def OwG (w : World) (ti ts : TypeId) (S : Nat → Prop) (v : Value) (rows : List (List Int)) : Prop :=
  ∃ A c, v = .slice A rows.length c ∧ (rows = [] ∨ ∃ g vs, A = some ⟨g, 0, none⟩ ∧ GridAt w ti ts S g vs rows)
/-- The slice v reads as the rows of ints. -/
def RdG (w : World) (B : Nat) (v : Value) (rows : List (List Int)) : Prop :=
  ∃ A c, v = .slice A rows.length c ∧ ∀ r, r < rows.length → ∃ b o u, A = some ⟨b, o, none⟩ ∧ b < B ∧ w.cell? ⟨b, o + r, none⟩ = some u ∧ RdS w (fun b => b < B) u (rows.getD r [])
theorem RdG.below {w w' : World} {B B' : Nat} {v : Value} {rows : List (List Int)} (h : RdG w B v rows) (hb : Below B' w w') (hB : B ≤ B') : RdG w' B v rows := by
  obtain ⟨A, c, e, h⟩ := h
  refine ⟨A, c, e, fun r hr => ?_⟩
  obtain ⟨b, o, u, e2, h3, h4, h5⟩ := h r hr
  exact ⟨b, o, u, e2, h3, (hb.cell (p := ⟨b, o + r, none⟩) (Nat.lt_of_lt_of_le h3 hB)).trans h4, h5.below hb hB⟩
theorem RdG.mono {w : World} {B B' : Nat} {v : Value} {rows : List (List Int)} (h : RdG w B v rows) (hB : B ≤ B') : RdG w B' v rows := by
  obtain ⟨A, c, e, h⟩ := h
  refine ⟨A, c, e, fun r hr => ?_⟩
  obtain ⟨b, o, u, e2, h3, h4, h5⟩ := h r hr
  exact ⟨b, o, u, e2, Nat.lt_of_lt_of_le h3 hB, h4, h5.mono fun _ hk => Nat.lt_of_lt_of_le hk hB⟩

section
variable {w w' : World} {ti ts : TypeId} {S T : Nat → Prop} {g : Nat} {vs : List Value} {rows : List (List Int)}
theorem getD_some {α : Type} {l : List α} {i : Nat} (h : i < l.length) (d : α) : l[i]? = some (l.getD i d) := by
  rw [List.getD_eq_getElem?_getD, List.getElem?_eq_getElem h]
  rfl
theorem GridAt.mono (h : GridAt w ti ts S g vs rows) (hs : ∀ k, S k → k < w.heap.size → T k) : GridAt w ti ts T g vs rows :=
  ⟨h.outer, hs _ h.inS h.outer.lt, h.len, fun r hr => (h.row r hr).mono hs, h.off, h.apart⟩
/-- All the grid's blocks are as they were. -/
theorem GridAt.blocks (h : GridAt w ti ts S g vs rows) (hb : ∀ k, S k → k < w.heap.size → w'.heap[k]? = w.heap[k]?) : GridAt w' ti ts S g vs rows :=
  ⟨h.outer.of_block (hb _ h.inS h.outer.lt), h.inS, h.len, fun r hr => (h.row r hr).blocks fun k hk hl _ _ => hb k hk hl, h.off, h.apart⟩
theorem GridAt.touch (h : GridAt w ti ts S g vs rows) (ht : Touch T w w') (hs : ∀ k, S k → ¬ T k) : GridAt w' ti ts S g vs rows := h.blocks fun k hk hl => ht.block k hl (hs k hk)
theorem GridAt.cell (h : GridAt w ti ts S g vs rows) {r : Nat} (hr : r < rows.length) : w.cell? ⟨g, r, none⟩ = some (vs.getD r .nilFunc) := by
  rw [h.outer.cell (by rw [h.len]; exact hr)]
  exact getD_some (by rw [h.len]; exact hr) _
/-- A new row at its place: in a block that no other row has. -/
theorem GridAt.put (h : GridAt w ti ts S g vs rows) {r : Nat} (hr : r < rows.length) {v : Value} {xs : List Int} (hT : OwR w ti T v xs) (hd : ∀ k, T k → ¬ S k) :
    GridAt (w.setCell ⟨g, r, none⟩ v) ti ts (fun k => S k ∨ T k) g (vs.set r v) (rows.set r xs) := by
  have hrv : r < vs.length := by rw [h.len]; exact hr
  have hTg : ∀ k, T k → k ≠ g := fun k hk e => by subst e; exact hd _ hk h.inS
  have tb : xs ≠ [] → T (blkOf v) := fun hx => by
    obtain ⟨A, c, e, h2⟩ := hT
    rcases h2 with h2 | ⟨b, e2, h3, h4⟩
    · exact absurd h2 hx
    · rw [e, e2]; exact h3
  have sb : ∀ i, i < rows.length → rows.getD i [] ≠ [] → S (blkOf (vs.getD i .nilFunc)) := fun i hi hx => by
    obtain ⟨A, c, e, h2⟩ := h.row i hi
    rcases h2 with h2 | ⟨b, e2, h3, h4⟩
    · exact absurd h2 hx
    · rw [e, e2]; exact h3
  refine ⟨h.outer.set r v, Or.inl h.inS, by rw [List.length_set, List.length_set, h.len], fun i hi => ?_, fun i hi hx => ?_, fun i j hi hj hij hxi hxj => ?_⟩
  · rw [List.length_set] at hi
    rw [set_getD _ _ _ _ _ hrv, set_getD _ _ _ _ _ hr]
    by_cases c : r = i
    · rw [if_pos c, if_pos c]
      exact (hT.mono (T := fun k => S k ∨ T k) fun k hk _ => Or.inr hk).blocks fun k hk _ hx e => blk_setCell_other _ _ _ _ (hTg k (e ▸ tb hx))
    · rw [if_neg c, if_neg c]
      exact ((h.row i hi).mono (T := fun k => S k ∨ T k) fun k hk _ => Or.inl hk).blocks fun k hk _ hx e => blk_setCell_other _ _ _ _ (by rw [e]; exact h.off i hi hx)
  · rw [List.length_set] at hi
    rw [set_getD _ _ _ _ _ hr] at hx
    rw [set_getD _ _ _ _ _ hrv]
    by_cases c : r = i
    · rw [if_pos c] at hx ⊢
      exact hTg _ (tb hx)
    · rw [if_neg c] at hx ⊢
      exact h.off i hi hx
  · rw [List.length_set] at hi hj
    rw [set_getD _ _ _ _ _ hr] at hxi hxj
    rw [set_getD _ _ _ _ _ hrv, set_getD _ _ _ _ _ hrv]
    by_cases c : r = i
    · rw [if_pos c] at hxi ⊢
      rw [if_neg (by omega)] at hxj ⊢
      intro e
      have := tb hxi
      rw [e] at this
      exact hd _ this (sb j hj hxj)
    · rw [if_neg c] at hxi ⊢
      by_cases c2 : r = j
      · rw [if_pos c2] at hxj ⊢
        intro e
        have := tb hxj
        rw [← e] at this
        exact hd _ this (sb i hi hxi)
      · rw [if_neg c2] at hxj ⊢
        exact h.apart i j hi hj hij hxi hxj
/-- Row r changed in place. -/
theorem GridAt.write (h : GridAt w ti ts S g vs rows) {r : Nat} (hr : r < rows.length) {ys : List Int} (hl : ys.length = (rows.getD r []).length)
    (hT : OwR w' ti S (vs.getD r .nilFunc) ys) (hb : ∀ k, k < w.heap.size → ¬ (rows.getD r [] ≠ [] ∧ k = blkOf (vs.getD r .nilFunc)) → w'.heap[k]? = w.heap[k]?) : GridAt w' ti ts S g vs (rows.set r ys) := by
  have he : ys = [] ↔ rows.getD r [] = [] := by rw [← List.length_eq_zero_iff, hl, List.length_eq_zero_iff]
  refine ⟨h.outer.of_block (hb _ h.outer.lt fun ⟨hx, e⟩ => h.off r hr hx e.symm), h.inS, by rw [List.length_set, h.len], fun i hi => ?_, fun i hi hx => ?_, fun i j hi hj hij hxi hxj => ?_⟩
  · rw [List.length_set] at hi
    rw [set_getD _ _ _ _ _ hr]
    by_cases c : r = i
    · rw [if_pos c, ← c]
      exact hT
    · rw [if_neg c]
      exact (h.row i hi).blocks fun k hk hlt hx e => hb k hlt fun ⟨hx2, e2⟩ => h.apart r i hr hi c hx2 hx (e2.symm.trans e)
  · rw [List.length_set] at hi
    rw [set_getD _ _ _ _ _ hr] at hx
    by_cases c : r = i
    · rw [if_pos c] at hx
      exact h.off i hi (by rw [← c]; exact fun e => hx (he.2 e))
    · rw [if_neg c] at hx
      exact h.off i hi hx
  · rw [List.length_set] at hi hj
    rw [set_getD _ _ _ _ _ hr] at hxi hxj
    refine h.apart i j hi hj hij ?_ ?_
    · by_cases c : r = i
      · rw [if_pos c] at hxi
        rw [← c]
        exact fun e => hxi (he.2 e)
      · rw [if_neg c] at hxi
        exact hxi
    · by_cases c : r = j
      · rw [if_pos c] at hxj
        rw [← c]
        exact fun e => hxj (he.2 e)
      · rw [if_neg c] at hxj
        exact hxj
/-- Row r, not empty: its slice, its block; a store into it. -/
theorem GridAt.rowAt (h : GridAt w ti ts S g vs rows) {r : Nat} (hr : r < rows.length) (hx : 0 < (rows.getD r []).length) :
    ∃ b cap, vs.getD r .nilFunc = .slice (some ⟨b, 0, none⟩) (rows.getD r []).length cap ∧ S b ∧ b ≠ g ∧ CellsAt w b ti (icells (rows.getD r [])) ∧
      ∀ j u, GridAt (w.setCell ⟨b, j, none⟩ (.int .i64 u)) ti ts S g vs (rows.set r ((rows.getD r []).set j u)) := by
  rcases (h.row r hr).cases with ⟨h0, _⟩ | ⟨b, c, e, hs, _, hc⟩
  · rw [h0] at hx
    exact absurd hx (Nat.lt_irrefl _)
  · have hne : rows.getD r [] ≠ [] := List.length_pos_iff.1 hx
    have hoff := h.off r hr hne
    have hblk : blkOf (vs.getD r .nilFunc) = b := by rw [e]; rfl
    rw [hblk] at hoff
    refine ⟨b, c, e, hs, hoff, hc, fun j u => h.write hr (by rw [List.length_set]) ?_ fun k hk hn => blk_setCell_other _ _ _ _ (fun e2 => hn ⟨hne, by rw [hblk]; exact e2⟩)⟩
    rw [e]
    refine owR_at hs ?_ (by rw [List.length_set])
    have := hc.set j (.int .i64 u)
    rwa [icells_set] at this
/-- A new block for row r. -/
theorem GridAt.putNew (h : GridAt w ti ts S g vs rows) (hs : ∀ k, S k → k < w.heap.size) {r : Nat} (hr : r < rows.length) {cs : Array Value} {xs : List Int} {n c : Nat} (hcs : cs.toList = icells xs) (hn : n = xs.length) :
    GridAt ((w.setCell ⟨g, r, none⟩ (.slice (some ⟨w.heap.size, 0, none⟩) n c)).alloc (.cells cs ti)) ti ts (fun k => S k ∨ k = w.heap.size) g (vs.set r (.slice (some ⟨w.heap.size, 0, none⟩) n c)) (rows.set r xs) := by
  rw [← World.setCell_alloc_past _ _ _ _ (hs _ h.inS)]
  have h1 : GridAt (w.alloc (.cells cs ti)) ti ts S g vs rows := h.blocks fun k hk hl => blk_alloc_lt _ _ _ hl
  refine h1.put hr (T := fun k => k = w.heap.size) ?_ (fun k hk hS => by have := hs k hS; omega)
  refine owR_at (S := fun k => k = w.heap.size) rfl ?_ hn
  have := cellsAt_new w cs ti
  rwa [hcs] at this
theorem GridAt.readB (h : GridAt w ti ts S g vs rows) (c : Nat) : RdG w w.heap.size (.slice (some ⟨g, 0, none⟩) rows.length c) rows :=
  ⟨_, c, rfl, fun r hr => ⟨g, 0, _, rfl, h.outer.lt, by rw [Nat.zero_add]; exact h.cell hr, (h.row r hr).readB⟩⟩
end
section
variable {w w' : World} {ti ts : TypeId} {S T : Nat → Prop} {v : Value} {rows : List (List Int)}
theorem OwG.mono (h : OwG w ti ts S v rows) (hs : ∀ k, S k → k < w.heap.size → T k) : OwG w ti ts T v rows := by
  obtain ⟨A, c, e, h⟩ := h
  refine ⟨A, c, e, ?_⟩
  rcases h with h | ⟨g, vs, e2, h3⟩
  · exact Or.inl h
  · exact Or.inr ⟨g, vs, e2, h3.mono hs⟩
theorem OwG.blocks (h : OwG w ti ts S v rows) (hb : ∀ k, S k → k < w.heap.size → w'.heap[k]? = w.heap[k]?) : OwG w' ti ts S v rows := by
  obtain ⟨A, c, e, h⟩ := h
  refine ⟨A, c, e, ?_⟩
  rcases h with h | ⟨g, vs, e2, h3⟩
  · exact Or.inl h
  · exact Or.inr ⟨g, vs, e2, h3.blocks hb⟩
theorem OwG.readB (h : OwG w ti ts S v rows) : RdG w w.heap.size v rows := by
  obtain ⟨A, c, e, h⟩ := h
  rcases h with h | ⟨g, vs, e2, h3⟩
  · subst h
    exact ⟨A, c, e, fun r hr => absurd hr (Nat.not_lt_zero r)⟩
  · subst e2
    rw [e]
    exact h3.readB c
theorem OwG.below {B : Nat} (h : OwG w ti ts S v rows) (hb : Below B w w') (hs : ∀ k, S k → k < w.heap.size → k < B) : OwG w' ti ts S v rows := h.blocks fun k hk hl => hb.block k (hs k hk hl)
end
end Go.Proofs.YtahlicbjbbpihaaDoor
