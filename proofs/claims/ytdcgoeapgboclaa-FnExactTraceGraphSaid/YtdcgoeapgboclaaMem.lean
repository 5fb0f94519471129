/- Heap Grids Marks MatK MxK AppG Slc in one text. -/
import Derived.RowKit3
import Derived.Laws.OwnMore
import Derived.Deep.Heap
import Derived.Below
import Derived.Deep.Draws
import Derived.Laws.NewBlocks
import Derived.Test.YtdcgoeapgboclaaUpd
import Derived.Test.YtdcgoeapgboclaaProg
import Derived.Test.YtdcgoeapgboclaaInts
import Derived.Deep.OwnRows
import Derived.Deep.RegionHeld3
import Derived.RegionTactic
import Derived.Deep.AppendLies
import Derived.OwnWalk
import Derived.Lib.SliceRun
import Derived.Lib.Walk
/-! Blocks of cells that the call owns, rows of ints in them, and grids: rows of rows, each row in a block of its own. -/
namespace Go.Proofs.Ytdcgoeapgboclaa
set_option maxRecDepth 100000
open Go Go.RowKit Go.Deep

/-- Of the blocks that were there only those in S may have changed. -/
structure Touch (S : Nat → Prop) (w w' : World) : Prop where
  os : w'.os = w.os
  tape : w'.tape = w.tape
  output : w'.output = w.output
  size : w.heap.size ≤ w'.heap.size
  block : ∀ k, k < w.heap.size → ¬ S k → w'.heap[k]? = w.heap[k]?
theorem Touch.refl (S : Nat → Prop) (w : World) : Touch S w w := ⟨rfl, rfl, rfl, Nat.le_refl _, fun _ _ _ => rfl⟩
theorem Touch.trans {S : Nat → Prop} {a b c : World} (h : Touch S a b) (k : Touch S b c) : Touch S a c :=
  ⟨k.os.trans h.os, k.tape.trans h.tape, k.output.trans h.output, Nat.le_trans h.size k.size, fun i hi hs => (k.block i (Nat.lt_of_lt_of_le hi h.size) hs).trans (h.block i hi hs)⟩
theorem Touch.mono {S T : Nat → Prop} {a b : World} (h : Touch S a b) (hs : ∀ k, k < a.heap.size → S k → T k) : Touch T a b := ⟨h.os, h.tape, h.output, h.size, fun k hk ht => h.block k hk (fun c => ht (hs k hk c))⟩
theorem Touch.below {S : Nat → Prop} {B : Nat} {a b : World} (h : Touch S a b) (hB : B ≤ a.heap.size) (hs : ∀ k, S k → B ≤ k) : Below B a b :=
  ⟨h.os, h.tape, h.output, h.size, fun k hk => h.block k (by omega) (fun c => by have := hs k c; omega)⟩
theorem Touch.of_below {S : Nat → Prop} {B : Nat} {a b : World} (h : Below B a b) (hs : ∀ k, B ≤ k → k < a.heap.size → S k) : Touch S a b :=
  ⟨h.os, h.tape, h.output, h.size, fun k hk hn => h.block k (by
    by_cases c : k < B
    · exact c
    · exact absurd (hs k (by omega) hk) hn)⟩
theorem Touch.drewN {S : Nat → Prop} {a b : World} (h : Touch S a b) (n : Nat) : Touch S a (b.drewN n) := ⟨h.os, h.tape, h.output, h.size, h.block⟩
theorem Touch.drew {S : Nat → Prop} {a b : World} (h : Touch S a b) : Touch S a b.drew := ⟨h.os, h.tape, h.output, h.size, h.block⟩
theorem Touch.alloc {S : Nat → Prop} {a b : World} (h : Touch S a b) (o : Obj) : Touch S a (b.alloc o) :=
  h.trans ⟨rfl, rfl, rfl, by rw [nblk_alloc]; omega, fun k hk _ => blk_alloc_lt _ _ _ hk⟩
theorem Touch.setCell {S : Nat → Prop} {a b : World} (h : Touch S a b) {p : Addr} (hp : S p.block ∨ a.heap.size ≤ p.block) (v : Value) : Touch S a (b.setCell p v) :=
  ⟨h.os, h.tape, h.output, by rw [nblk_setCell]; exact h.size, fun k hk hs => by
    rw [blk_setCell_other _ _ _ _ (fun e => by
      rcases hp with hp | hp
      · rw [e] at hs; exact hs hp
      · omega)]
    exact h.block k hk hs⟩

/-- Block b: cells of type t, none frozen; the first of them are vs. -/
def CellsAt (w : World) (b : Nat) (t : TypeId) (vs : List Value) : Prop :=
  ∃ cur : Array Value, w.heap[b]? = some (.cells cur t (0, 0)) ∧ vs.length ≤ cur.size ∧ ∀ j, j < vs.length → cur[j]? = vs[j]?
namespace CellsAt
variable {w w' : World} {b : Nat} {t : TypeId} {vs : List Value}
theorem lt (h : CellsAt w b t vs) : b < w.heap.size := by
  obtain ⟨c, hb, _⟩ := h
  exact (Array.getElem?_eq_some_iff.1 hb).1
theorem of_block (h : CellsAt w b t vs) (e : w'.heap[b]? = w.heap[b]?) : CellsAt w' b t vs := by
  obtain ⟨c, hb, h⟩ := h
  exact ⟨c, e.trans hb, h⟩
theorem cell (h : CellsAt w b t vs) {i : Nat} (hi : i < vs.length) : w.cell? ⟨b, i, none⟩ = vs[i]? := by
  obtain ⟨c, hb, _, hc⟩ := h
  simp [World.cell?, hb, hc i hi]
theorem frozen (h : CellsAt w b t vs) (i : Nat) : w.frozen? ⟨b, i, none⟩ = false := by
  obtain ⟨c, hb, _⟩ := h
  simp [World.frozen?, hb]
theorem set (h : CellsAt w b t vs) (i : Nat) (u : Value) : CellsAt (w.setCell ⟨b, i, none⟩ u) b t (vs.set i u) := by
  obtain ⟨c, hb, hn, hc⟩ := h
  refine ⟨c.setIfInBounds i u, ?_, by simpa using hn, fun j hj => ?_⟩
  · simp [World.setCell, Array.getElem?_modify, hb]
  · rw [List.length_set] at hj
    rw [Array.getElem?_setIfInBounds, List.getElem?_set]
    by_cases e : i = j
    · subst e
      rw [if_pos rfl, if_pos rfl, if_pos (by omega), if_pos hj]
    · rw [if_neg e, if_neg e]
      exact hc j hj
theorem setOther (h : CellsAt w b t vs) {a : Addr} (ha : b ≠ a.block) (u : Value) : CellsAt (w.setCell a u) b t vs := h.of_block (blk_setCell_other _ _ _ _ ha)
theorem alloc (h : CellsAt w b t vs) (o : Obj) : CellsAt (w.alloc o) b t vs := h.of_block (blk_alloc_lt _ _ _ h.lt)
theorem drewN (h : CellsAt w b t vs) (n : Nat) : CellsAt (w.drewN n) b t vs := h
theorem take (h : CellsAt w b t vs) (n : Nat) : CellsAt w b t (vs.take n) := by
  obtain ⟨c, hb, hn, hc⟩ := h
  refine ⟨c, hb, by rw [List.length_take]; omega, fun j hj => ?_⟩
  rw [List.length_take] at hj
  rw [List.getElem?_take_of_lt (by omega)]
  exact hc j (by omega)
theorem touch {S : Nat → Prop} (h : CellsAt w b t vs) (ht : Touch S w w') (hs : ¬ S b) : CellsAt w' b t vs := h.of_block (ht.block _ h.lt hs)
theorem below {B : Nat} (h : CellsAt w b t vs) (hb : Below B w w') (hB : b < B) : CellsAt w' b t vs := h.of_block (hb.block _ hB)
end CellsAt
theorem cellsAt_new (w : World) (c : Array Value) (t : TypeId) : CellsAt (w.alloc (.cells c t)) w.heap.size t c.toList :=
  ⟨c, blk_alloc_new _ _, by simp, fun j _ => by simp⟩

/-- The slice v reads as the ints xs, in a block that S holds of. -/
def RdS (w : World) (S : Nat → Prop) (v : Value) (xs : List Int) : Prop :=
  ∃ A c, v = .slice A xs.length c ∧ xs.length ≤ c ∧ ∀ k, k < xs.length → ∃ b o, A = some ⟨b, o, none⟩ ∧ S b ∧ w.cell? ⟨b, o + k, none⟩ = some (.int .i64 (xs.getD k 0))
theorem RdS.mono {w : World} {S T : Nat → Prop} {v : Value} {xs : List Int} (h : RdS w S v xs) (hs : ∀ k, S k → T k) : RdS w T v xs := by
  obtain ⟨A, c, e, kc_c, h⟩ := h
  refine ⟨A, c, e, kc_c, fun k hk => ?_⟩
  obtain ⟨b, o, e2, h3, hc⟩ := h k hk
  exact ⟨b, o, e2, hs _ h3, hc⟩
theorem RdS.blocks {w w' : World} {S : Nat → Prop} {v : Value} {xs : List Int} (h : RdS w S v xs) (hb : ∀ k, S k → w'.heap[k]? = w.heap[k]?) : RdS w' S v xs := by
  obtain ⟨A, c, e, kc_c, h⟩ := h
  refine ⟨A, c, e, kc_c, fun k hk => ?_⟩
  obtain ⟨b, o, e2, h3, hc⟩ := h k hk
  exact ⟨b, o, e2, h3, (World.cell?_of_block (w := w) (a := ⟨b, o + k, none⟩) (hb b h3)).trans hc⟩
theorem RdS.below {w w' : World} {B B' : Nat} {v : Value} {xs : List Int} (h : RdS w (fun b => b < B) v xs) (hb : Below B' w w') (hB : B ≤ B') : RdS w' (fun b => b < B) v xs :=
  h.blocks fun k hk => hb.block k (Nat.lt_of_lt_of_le hk hB)
theorem RdS.lt {w : World} {S : Nat → Prop} {v : Value} {xs : List Int} (h : RdS w S v xs) : RdS w (fun b => S b ∧ b < w.heap.size) v xs := by
  obtain ⟨A, c, e, kc_c, h⟩ := h
  refine ⟨A, c, e, kc_c, fun k hk => ?_⟩
  obtain ⟨b, o, e2, h3, hc⟩ := h k hk
  refine ⟨b, o, e2, ⟨h3, ?_⟩, hc⟩
  by_cases c1 : b < w.heap.size
  · exact c1
  · have : w.heap[b]? = none := by simp; omega
    simp [World.cell?, this] at hc

/-- The ints as cells. -/
def icells (xs : List Int) : List Value := xs.map (Value.int .i64)
theorem icells_len (xs : List Int) : (icells xs).length = xs.length := by simp [icells]
theorem icells_get {xs : List Int} {k : Nat} (h : k < xs.length) : (icells xs)[k]? = some (.int .i64 (xs.getD k 0)) := by
  unfold icells
  rw [List.getElem?_map, List.getElem?_eq_getElem h, List.getD_eq_getElem?_getD, List.getElem?_eq_getElem h]
  rfl
theorem icells_set (xs : List Int) (k : Nat) (u : Int) : (icells xs).set k (.int .i64 u) = icells (xs.set k u) := by simp [icells, List.map_set]

/-- The slice v is a row of its own of the ints xs: empty, or in a block that S holds of. -/
def OwR (w : World) (ti : TypeId) (S : Nat → Prop) (v : Value) (xs : List Int) : Prop :=
  ∃ A c, v = .slice A xs.length c ∧ xs.length ≤ c ∧ (xs = [] ∨ ∃ b, A = some ⟨b, 0, none⟩ ∧ S b ∧ CellsAt w b ti (icells xs))
/-- The block of a slice's address. -/
def blkOf : Value → Nat
  | .slice (some a) _ _ => a.block
  | _ => 0
section
variable {w w' : World} {ti : TypeId} {S T : Nat → Prop} {v : Value} {xs : List Int}
theorem OwR.mono (h : OwR w ti S v xs) (hs : ∀ k, S k → k < w.heap.size → T k) : OwR w ti T v xs := by
  obtain ⟨A, c, e, kc_c, h⟩ := h
  refine ⟨A, c, e, kc_c, ?_⟩
  rcases h with h | ⟨b, e2, h3, h4⟩
  · exact Or.inl h
  · exact Or.inr ⟨b, e2, hs _ h3 h4.lt, h4⟩
theorem OwR.blocks (h : OwR w ti S v xs) (hb : ∀ k, S k → k < w.heap.size → xs ≠ [] → k = blkOf v → w'.heap[k]? = w.heap[k]?) : OwR w' ti S v xs := by
  obtain ⟨A, c, e, kc_c, h⟩ := h
  refine ⟨A, c, e, kc_c, ?_⟩
  rcases h with h | ⟨b, e2, h3, h4⟩
  · exact Or.inl h
  · by_cases hx : xs = []
    · exact Or.inl hx
    · exact Or.inr ⟨b, e2, h3, h4.of_block (hb b h3 h4.lt hx (by rw [e, e2]; rfl))⟩
theorem OwR.read (h : OwR w ti S v xs) : RdS w (fun b => S b ∧ b < w.heap.size) v xs := by
  obtain ⟨A, c, e, kc_c, h⟩ := h
  refine ⟨A, c, e, kc_c, fun k hk => ?_⟩
  rcases h with h | ⟨b, e2, h3, h4⟩
  · rw [h] at hk
    exact absurd hk (Nat.not_lt_zero k)
  · refine ⟨b, 0, e2, ⟨h3, h4.lt⟩, ?_⟩
    rw [Nat.zero_add, h4.cell (by rw [icells_len]; exact hk)]
    exact icells_get hk
theorem OwR.readB (h : OwR w ti S v xs) : RdS w (fun b => b < w.heap.size) v xs := h.read.mono fun _ h => h.2
theorem OwR.nil (A : Option Addr) (c : Nat) : OwR w ti S (.slice A 0 c) [] := ⟨A, c, rfl, Nat.zero_le c, Or.inl rfl⟩
theorem OwR.len (h : OwR w ti S v xs) : ∃ A c, v = .slice A xs.length c := by
  obtain ⟨A, c, e, kc_c, _⟩ := h
  exact ⟨A, c, e⟩
/-- Parted: an empty row, or one in a block. -/
theorem OwR.cases (h : OwR w ti S v xs) : (xs = [] ∧ ∃ A c, v = .slice A 0 c) ∨ ∃ b c, v = .slice (some ⟨b, 0, none⟩) xs.length c ∧ S b ∧ (0 < xs.length ∧ xs.length ≤ c) ∧ CellsAt w b ti (icells xs) := by
  obtain ⟨A, c, e, kc_c, h⟩ := h
  rcases h with h | ⟨b, e2, h3, h4⟩
  · subst h
    exact Or.inl ⟨rfl, A, c, e⟩
  · by_cases hx : xs = []
    · subst hx
      exact Or.inl ⟨rfl, A, c, e⟩
    · subst e2
      exact Or.inr ⟨b, c, e, h3, ⟨List.length_pos_iff.2 hx, kc_c⟩, h4⟩
end
theorem owR_at {w : World} {ti : TypeId} {S : Nat → Prop} {b c : Nat} {xs : List Int} (hs : S b) (h : CellsAt w b ti (icells xs)) {n : Nat} (hn : n = xs.length) (hcap : n ≤ c := by first | exact Nat.le_refl _ | assumption | omega) : OwR w ti S (.slice (some ⟨b, 0, none⟩) n c) xs := by
  subst hn
  exact ⟨_, c, rfl, hcap, Or.inr ⟨b, rfl, hs, h⟩⟩

/-- Block g holds the slices vs; slice r is a row of its own, rows r; no two share a block. -/
structure GridAt (w : World) (ti ts : TypeId) (S : Nat → Prop) (g : Nat) (vs : List Value) (rows : List (List Int)) : Prop where
  outer : CellsAt w g ts vs
  inS : S g
  len : vs.length = rows.length
  row : ∀ r, r < rows.length → OwR w ti S (vs.getD r .nilFunc) (rows.getD r [])
  off : ∀ r, r < rows.length → rows.getD r [] ≠ [] → blkOf (vs.getD r .nilFunc) ≠ g
  apart : ∀ r s, r < rows.length → s < rows.length → r ≠ s → rows.getD r [] ≠ [] → rows.getD s [] ≠ [] → blkOf (vs.getD r .nilFunc) ≠ blkOf (vs.getD s .nilFunc)
/-- The slice v is a grid of its own: empty, or a block of slices. -/
def OwG (w : World) (ti ts : TypeId) (S : Nat → Prop) (v : Value) (rows : List (List Int)) : Prop :=
  ∃ A c, v = .slice A rows.length c ∧ rows.length ≤ c ∧ (rows = [] ∨ ∃ g vs, A = some ⟨g, 0, none⟩ ∧ GridAt w ti ts S g vs rows)
/-- The slice v reads as the rows of ints. -/
def RdG (w : World) (B : Nat) (v : Value) (rows : List (List Int)) : Prop :=
  ∃ A c, v = .slice A rows.length c ∧ rows.length ≤ c ∧ ∀ r, r < rows.length → ∃ b o u, A = some ⟨b, o, none⟩ ∧ b < B ∧ w.cell? ⟨b, o + r, none⟩ = some u ∧ RdS w (fun b => b < B) u (rows.getD r [])
theorem RdG.below {w w' : World} {B B' : Nat} {v : Value} {rows : List (List Int)} (h : RdG w B v rows) (hb : Below B' w w') (hB : B ≤ B') : RdG w' B v rows := by
  obtain ⟨A, c, e, kc_c, h⟩ := h
  refine ⟨A, c, e, kc_c, fun r hr => ?_⟩
  obtain ⟨b, o, u, e2, h3, h4, h5⟩ := h r hr
  exact ⟨b, o, u, e2, h3, (hb.cell (p := ⟨b, o + r, none⟩) (Nat.lt_of_lt_of_le h3 hB)).trans h4, h5.below hb hB⟩
theorem RdG.mono {w : World} {B B' : Nat} {v : Value} {rows : List (List Int)} (h : RdG w B v rows) (hB : B ≤ B') : RdG w B' v rows := by
  obtain ⟨A, c, e, kc_c, h⟩ := h
  refine ⟨A, c, e, kc_c, fun r hr => ?_⟩
  obtain ⟨b, o, u, e2, h3, h4, h5⟩ := h r hr
  exact ⟨b, o, u, e2, Nat.lt_of_lt_of_le h3 hB, h4, h5.mono fun _ hk => Nat.lt_of_lt_of_le hk hB⟩

section
variable {w w' : World} {ti ts : TypeId} {S T : Nat → Prop} {g : Nat} {vs : List Value} {rows : List (List Int)}
theorem getD_some {α : Type} {l : List α} {i : Nat} (h : i < l.length) (d : α) : l[i]? = some (l.getD i d) := by
  rw [List.getD_eq_getElem?_getD, List.getElem?_eq_getElem h]
  rfl
theorem GridAt.mono (h : GridAt w ti ts S g vs rows) (hs : ∀ k, S k → k < w.heap.size → T k) : GridAt w ti ts T g vs rows :=
  ⟨h.outer, hs _ h.inS h.outer.lt, h.len, fun r hr => (h.row r hr).mono hs, h.off, h.apart⟩
/-- All the grid's blocks are as they were. -/
theorem GridAt.blocks (h : GridAt w ti ts S g vs rows) (hb : ∀ k, S k → k < w.heap.size → w'.heap[k]? = w.heap[k]?) : GridAt w' ti ts S g vs rows :=
  ⟨h.outer.of_block (hb _ h.inS h.outer.lt), h.inS, h.len, fun r hr => (h.row r hr).blocks fun k hk hl _ _ => hb k hk hl, h.off, h.apart⟩
theorem GridAt.touch (h : GridAt w ti ts S g vs rows) (ht : Touch T w w') (hs : ∀ k, S k → ¬ T k) : GridAt w' ti ts S g vs rows := h.blocks fun k hk hl => ht.block k hl (hs k hk)
theorem GridAt.cell (h : GridAt w ti ts S g vs rows) {r : Nat} (hr : r < rows.length) : w.cell? ⟨g, r, none⟩ = some (vs.getD r .nilFunc) := by
  rw [h.outer.cell (by rw [h.len]; exact hr)]
  exact getD_some (by rw [h.len]; exact hr) _
/-- A new row at its place: in a block that no other row has. -/
theorem GridAt.put (h : GridAt w ti ts S g vs rows) {r : Nat} (hr : r < rows.length) {v : Value} {xs : List Int} (hT : OwR w ti T v xs) (hd : ∀ k, T k → ¬ S k) :
    GridAt (w.setCell ⟨g, r, none⟩ v) ti ts (fun k => S k ∨ T k) g (vs.set r v) (rows.set r xs) := by
  have hrv : r < vs.length := by rw [h.len]; exact hr
  have hTg : ∀ k, T k → k ≠ g := fun k hk e => by subst e; exact hd _ hk h.inS
  have tb : xs ≠ [] → T (blkOf v) := fun hx => by
    obtain ⟨A, c, e, kc_c, h2⟩ := hT
    rcases h2 with h2 | ⟨b, e2, h3, h4⟩
    · exact absurd h2 hx
    · rw [e, e2]; exact h3
  have sb : ∀ i, i < rows.length → rows.getD i [] ≠ [] → S (blkOf (vs.getD i .nilFunc)) := fun i hi hx => by
    obtain ⟨A, c, e, kc_c, h2⟩ := h.row i hi
    rcases h2 with h2 | ⟨b, e2, h3, h4⟩
    · exact absurd h2 hx
    · rw [e, e2]; exact h3
  refine ⟨h.outer.set r v, Or.inl h.inS, by rw [List.length_set, List.length_set, h.len], fun i hi => ?_, fun i hi hx => ?_, fun i j hi hj hij hxi hxj => ?_⟩
  · rw [List.length_set] at hi
    rw [set_getD _ _ _ _ _ hrv, set_getD _ _ _ _ _ hr]
    by_cases c : r = i
    · rw [if_pos c, if_pos c]
      exact (hT.mono (T := fun k => S k ∨ T k) fun k hk _ => Or.inr hk).blocks fun k hk _ hx e => blk_setCell_other _ _ _ _ (hTg k (e ▸ tb hx))
    · rw [if_neg c, if_neg c]
      exact ((h.row i hi).mono (T := fun k => S k ∨ T k) fun k hk _ => Or.inl hk).blocks fun k hk _ hx e => blk_setCell_other _ _ _ _ (by rw [e]; exact h.off i hi hx)
  · rw [List.length_set] at hi
    rw [set_getD _ _ _ _ _ hr] at hx
    rw [set_getD _ _ _ _ _ hrv]
    by_cases c : r = i
    · rw [if_pos c] at hx ⊢
      exact hTg _ (tb hx)
    · rw [if_neg c] at hx ⊢
      exact h.off i hi hx
  · rw [List.length_set] at hi hj
    rw [set_getD _ _ _ _ _ hr] at hxi hxj
    rw [set_getD _ _ _ _ _ hrv, set_getD _ _ _ _ _ hrv]
    by_cases c : r = i
    · rw [if_pos c] at hxi ⊢
      rw [if_neg (by omega)] at hxj ⊢
      intro e
      have := tb hxi
      rw [e] at this
      exact hd _ this (sb j hj hxj)
    · rw [if_neg c] at hxi ⊢
      by_cases c2 : r = j
      · rw [if_pos c2] at hxj ⊢
        intro e
        have := tb hxj
        rw [← e] at this
        exact hd _ this (sb i hi hxi)
      · rw [if_neg c2] at hxj ⊢
        exact h.apart i j hi hj hij hxi hxj
/-- Row r changed in place. -/
theorem GridAt.write (h : GridAt w ti ts S g vs rows) {r : Nat} (hr : r < rows.length) {ys : List Int} (hl : ys.length = (rows.getD r []).length)
    (hT : OwR w' ti S (vs.getD r .nilFunc) ys) (hb : ∀ k, k < w.heap.size → ¬ (rows.getD r [] ≠ [] ∧ k = blkOf (vs.getD r .nilFunc)) → w'.heap[k]? = w.heap[k]?) : GridAt w' ti ts S g vs (rows.set r ys) := by
  have he : ys = [] ↔ rows.getD r [] = [] := by rw [← List.length_eq_zero_iff, hl, List.length_eq_zero_iff]
  refine ⟨h.outer.of_block (hb _ h.outer.lt fun ⟨hx, e⟩ => h.off r hr hx e.symm), h.inS, by rw [List.length_set, h.len], fun i hi => ?_, fun i hi hx => ?_, fun i j hi hj hij hxi hxj => ?_⟩
  · rw [List.length_set] at hi
    rw [set_getD _ _ _ _ _ hr]
    by_cases c : r = i
    · rw [if_pos c, ← c]
      exact hT
    · rw [if_neg c]
      exact (h.row i hi).blocks fun k hk hlt hx e => hb k hlt fun ⟨hx2, e2⟩ => h.apart r i hr hi c hx2 hx (e2.symm.trans e)
  · rw [List.length_set] at hi
    rw [set_getD _ _ _ _ _ hr] at hx
    by_cases c : r = i
    · rw [if_pos c] at hx
      exact h.off i hi (by rw [← c]; exact fun e => hx (he.2 e))
    · rw [if_neg c] at hx
      exact h.off i hi hx
  · rw [List.length_set] at hi hj
    rw [set_getD _ _ _ _ _ hr] at hxi hxj
    refine h.apart i j hi hj hij ?_ ?_
    · by_cases c : r = i
      · rw [if_pos c] at hxi
        rw [← c]
        exact fun e => hxi (he.2 e)
      · rw [if_neg c] at hxi
        exact hxi
    · by_cases c : r = j
      · rw [if_pos c] at hxj
        rw [← c]
        exact fun e => hxj (he.2 e)
      · rw [if_neg c] at hxj
        exact hxj
/-- Row r, not empty: its slice, its block; a store into it. -/
theorem GridAt.rowAt (h : GridAt w ti ts S g vs rows) {r : Nat} (hr : r < rows.length) (hx : 0 < (rows.getD r []).length) :
    ∃ b cap, vs.getD r .nilFunc = .slice (some ⟨b, 0, none⟩) (rows.getD r []).length cap ∧ S b ∧ b ≠ g ∧ CellsAt w b ti (icells (rows.getD r [])) ∧
      ∀ j u, GridAt (w.setCell ⟨b, j, none⟩ (.int .i64 u)) ti ts S g vs (rows.set r ((rows.getD r []).set j u)) := by
  rcases (h.row r hr).cases with ⟨h0, _⟩ | ⟨b, c, e, hs, ⟨_, kc_c⟩, hc⟩
  · rw [h0] at hx
    exact absurd hx (Nat.lt_irrefl _)
  · have hne : rows.getD r [] ≠ [] := List.length_pos_iff.1 hx
    have hoff := h.off r hr hne
    have hblk : blkOf (vs.getD r .nilFunc) = b := by rw [e]; rfl
    rw [hblk] at hoff
    refine ⟨b, c, e, hs, hoff, hc, fun j u => h.write hr (by rw [List.length_set]) ?_ fun k hk hn => blk_setCell_other _ _ _ _ (fun e2 => hn ⟨hne, by rw [hblk]; exact e2⟩)⟩
    rw [e]
    refine owR_at hs ?_ (by rw [List.length_set])
    have := hc.set j (.int .i64 u)
    rwa [icells_set] at this
/-- A new block for row r. -/
theorem GridAt.putNew (h : GridAt w ti ts S g vs rows) (hs : ∀ k, S k → k < w.heap.size) {r : Nat} (hr : r < rows.length) {cs : Array Value} {xs : List Int} {n c : Nat} (hcs : cs.toList = icells xs) (hn : n = xs.length) (hcap : n ≤ c := by first | exact Nat.le_refl _ | assumption | omega) :
    GridAt ((w.setCell ⟨g, r, none⟩ (.slice (some ⟨w.heap.size, 0, none⟩) n c)).alloc (.cells cs ti)) ti ts (fun k => S k ∨ k = w.heap.size) g (vs.set r (.slice (some ⟨w.heap.size, 0, none⟩) n c)) (rows.set r xs) := by
  rw [← World.setCell_alloc_past _ _ _ _ (hs _ h.inS)]
  have h1 : GridAt (w.alloc (.cells cs ti)) ti ts S g vs rows := h.blocks fun k hk hl => blk_alloc_lt _ _ _ hl
  refine h1.put hr (T := fun k => k = w.heap.size) ?_ (fun k hk hS => by have := hs k hS; omega)
  refine owR_at (S := fun k => k = w.heap.size) rfl ?_ hn
  have := cellsAt_new w cs ti
  rwa [hcs] at this
theorem GridAt.readB (h : GridAt w ti ts S g vs rows) (c : Nat) (hcap : rows.length ≤ c) : RdG w w.heap.size (.slice (some ⟨g, 0, none⟩) rows.length c) rows :=
  ⟨_, c, rfl, hcap, fun r hr => ⟨g, 0, _, rfl, h.outer.lt, by rw [Nat.zero_add]; exact h.cell hr, (h.row r hr).readB⟩⟩
end
section
variable {w w' : World} {ti ts : TypeId} {S T : Nat → Prop} {v : Value} {rows : List (List Int)}
theorem OwG.mono (h : OwG w ti ts S v rows) (hs : ∀ k, S k → k < w.heap.size → T k) : OwG w ti ts T v rows := by
  obtain ⟨A, c, e, kc_c, h⟩ := h
  refine ⟨A, c, e, kc_c, ?_⟩
  rcases h with h | ⟨g, vs, e2, h3⟩
  · exact Or.inl h
  · exact Or.inr ⟨g, vs, e2, h3.mono hs⟩
theorem OwG.blocks (h : OwG w ti ts S v rows) (hb : ∀ k, S k → k < w.heap.size → w'.heap[k]? = w.heap[k]?) : OwG w' ti ts S v rows := by
  obtain ⟨A, c, e, kc_c, h⟩ := h
  refine ⟨A, c, e, kc_c, ?_⟩
  rcases h with h | ⟨g, vs, e2, h3⟩
  · exact Or.inl h
  · exact Or.inr ⟨g, vs, e2, h3.blocks hb⟩
theorem OwG.readB (h : OwG w ti ts S v rows) : RdG w w.heap.size v rows := by
  obtain ⟨A, c, e, kc_c, h⟩ := h
  rcases h with h | ⟨g, vs, e2, h3⟩
  · subst h
    exact ⟨A, c, e, kc_c, fun r hr => absurd hr (Nat.not_lt_zero r)⟩
  · subst e2
    rw [e]
    exact h3.readB c kc_c
theorem OwG.below {B : Nat} (h : OwG w ti ts S v rows) (hb : Below B w w') (hs : ∀ k, S k → k < w.heap.size → k < B) : OwG w' ti ts S v rows := h.blocks fun k hk hl => hb.block k (hs k hk hl)
end
end Go.Proofs.Ytdcgoeapgboclaa

/-! The laws' helpers on slices of ints and on slices of such: sizes, copies, comparisons, marks. -/
namespace Go.Proofs.Ytdcgoeapgboclaa
open Go Go.RowKit Go.Deep

abbrev tI : TypeId := 3
abbrev tR : TypeId := 23
theorem infoI : (Try.prog.info? 3).map (fun i => (i.zero, i.size, i.bytes)) = some (some (.int .i64 0), 1, 8) := by kernel_rfl
theorem infoR : (Try.prog.info? 23).map (fun i => (i.zero, i.size, i.bytes)) = some (some (.slice none 0 0), 1, 24) := by kernel_rfl
/-- make([]int, n) -/
theorem make_ints (n : Nat) (hn : n ≤ 1000000000) (w : World) : (Instr.makeSlice 23 (.int .i64 (n : Int)) (.int .i64 (n : Int))).run Try.prog w = .ok (.slice (some ⟨w.heap.size, 0, none⟩) n n) (w.alloc (.cells (madeCells #[.int .i64 0] n) 3)) :=
  run_make_row' 23 3 (.int .i64 0) 8 Try.underlying23 infoI rfl .i64 .i64 n (by omega) (by omega) w
/-- make([][]int, n) -/
theorem make_rows (n : Nat) (hn : n ≤ 1000000000) (w : World) : (Instr.makeSlice 96 (.int .i64 (n : Int)) (.int .i64 (n : Int))).run Try.prog w = .ok (.slice (some ⟨w.heap.size, 0, none⟩) n n) (w.alloc (.cells (madeCells #[.slice none 0 0] n) 23)) :=
  run_make_row' 96 23 (.slice none 0 0) 24 Try.underlying96 infoR rfl .i64 .i64 n (by omega) (by omega) w
theorem made_ints (w : World) (n : Nat) : CellsAt (w.alloc (.cells (madeCells #[.int .i64 0] n) 3)) w.heap.size tI (icells (List.replicate n 0)) := by
  have := cellsAt_new w (madeCells #[.int .i64 0] n) 3
  rw [toList_madeCells_one] at this
  simpa [icells] using this
theorem repl_getD' {α : Type} (n i : Nat) (z d : α) (h : i < n) : (List.replicate n z).getD i d = z := by
  rw [List.getD_eq_getElem?_getD]
  simp [h]
theorem made_grid (w : World) (n : Nat) (S : Nat → Prop) (hs : S w.heap.size) : GridAt (w.alloc (.cells (madeCells #[.slice none 0 0] n) 23)) tI tR S w.heap.size (List.replicate n (.slice none 0 0)) (List.replicate n []) := by
  have := cellsAt_new w (madeCells #[.slice none 0 0] n) 23
  rw [toList_madeCells_one] at this
  refine ⟨this, hs, by simp, fun r hr => ?_, fun r hr hx => ?_, fun r s hr hs _ hx => ?_⟩
  · rw [List.length_replicate] at hr
    rw [repl_getD' _ _ _ _ hr, repl_getD' _ _ _ _ hr]
    exact OwR.nil none 0
  · rw [List.length_replicate] at hr
    rw [repl_getD' _ _ _ _ hr] at hx
    exact absurd rfl hx
  · rw [List.length_replicate] at hr
    rw [repl_getD' _ _ _ _ hr] at hx
    exact absurd rfl hx

/-- The call made a row of its own of the ints xs, and changed nothing that was there. -/
def MadeR (w : World) (xs : List Int) (e : Ending) (w' : World) : Prop := ∃ v, e = .returned v ∧ Below w.heap.size w w' ∧ OwR w' tI (fun b => w.heap.size ≤ b) v xs
def MadeG (w : World) (rows : List (List Int)) (e : Ending) (w' : World) : Prop := ∃ v, e = .returned v ∧ Below w.heap.size w w' ∧ OwG w' tI tR (fun b => w.heap.size ≤ b) v rows

theorem mapIdx_const_getD (n : Nat) (xs : List Int) (h : n = xs.length) : (List.replicate n (0 : Int)).mapIdx (fun j _ => xs.getD j 0) = xs := by
  subst h
  refine ext_getD 0 (by simp) fun i hi => ?_
  rw [List.length_mapIdx] at hi
  rw [mapIdx_getD _ _ _ hi 0]

set_option maxHeartbeats 400000 in
theorem toIntS_any (w : World) (B : Nat) (v : Value) (xs : List Int) (hv : RdS w (fun b => b < B) v xs) (hB : B ≤ w.heap.size) (hl : xs.length ≤ 1000000000) :
    Calls Try.prog 32 #[v] w (MadeR w xs) := by
  obtain ⟨A, c, rfl, kc_c, hv⟩ := hv
  have hmk := make_ints xs.length hl
  have HV := Lib.hid hv
  have HB := Lib.hid hB
  clear hv hB
  go_enter Try.func32, Try.ntmps32
  go_wp2
  go_loopw [4] (fun i wr => ∃ k : Nat, k ≤ xs.length ∧ i = .int .i64 k ∧ Below w.heap.size w wr ∧ Hid (CellsAt wr w.heap.size tI (icells (upd (fun j _ => xs.getD j 0) k (List.replicate xs.length 0))))) (fun i _ => xs.length - (intOf i).toNat)
  case atStart => exact ⟨0, Nat.zero_le _, rfl, (Below.refl _ _).alloc (Nat.le_refl _) _, Lib.hid (by rw [upd_zero]; exact made_ints w _)⟩
  case round =>
    obtain ⟨k, hk, rfl, hb, HC⟩ := hrel
    by_cases hlt : k < xs.length
    · obtain ⟨b, o, rfl, hbB, hcell⟩ := HV.out k hlt
      have hbN : b < w.heap.size := Nat.lt_of_lt_of_le hbB HB.out
      have hcell2 := (hb.cell (p := ⟨b, o + k, none⟩) hbN).trans hcell
      have HLN := Lib.hid (show k < (icells (upd (fun j _ => xs.getD j 0) k (List.replicate xs.length 0))).length by rw [icells_len, upd_len, List.length_replicate]; exact hlt)
      have hc := (HC.out.cell HLN.out).trans (getD_some HLN.out (.int .i64 0))
      have hf := HC.out.frozen k
      have HST := Lib.hid (HC.out.set k (.int .i64 (xs.getD k 0)))
      generalize hz : xs.getD k 0 = z at hcell hcell2 HST
      have HZ := Lib.hid hz
      clear hz hcell
      generalize (icells (upd (fun j _ => xs.getD j 0) k (List.replicate xs.length 0))).getD k (.int .i64 0) = u at hc
      go_wp2
      go_roundw
      case rel => exact ⟨k + 1, by omega, by go_num, hb.setCell (Nat.le_refl _) _, Lib.hid (by
        have := HST.out
        rw [icells_set, ← HZ.out, upd_step (fun j _ => xs.getD j 0) (by rw [List.length_replicate]; exact hlt) 0] at this
        rw [← HZ.out]
        exact this)⟩
      case measure => simp [intOf]; omega
    · go_wp2
      go_ret
      refine ⟨_, rfl, hb, owR_at (Nat.le_refl _) ?_ rfl⟩
      have := HC.out
      rw [upd_all _ (by rw [List.length_replicate]; omega), mapIdx_const_getD _ _ rfl] at this
      exact this

/-- How many ints the rows hold. -/
def tot (rows : List (List Int)) : Nat := (rows.map List.length).sum
def off (rows : List (List Int)) (j : Nat) : Nat := tot (rows.take j)
theorem off_zero (rows : List (List Int)) : off rows 0 = 0 := by simp [off, tot]
theorem off_all (rows : List (List Int)) : off rows rows.length = tot rows := by simp [off]
theorem off_succ {rows : List (List Int)} {j : Nat} (h : j < rows.length) : off rows (j + 1) = off rows j + (rows.getD j []).length := by
  unfold off tot
  rw [List.take_add_one, List.getElem?_eq_getElem h, List.getD_eq_getElem?_getD, List.getElem?_eq_getElem h, List.map_append, List.sum_append]
  simp
theorem off_le (rows : List (List Int)) : ∀ j, off rows j ≤ tot rows := by
  intro j
  have h : tot rows = off rows j + tot (rows.drop j) := by
    unfold off tot
    rw [← List.sum_append, ← List.map_append, List.take_append_drop]
  omega
theorem row_le {rows : List (List Int)} {j : Nat} (h : j < rows.length) : (rows.getD j []).length ≤ tot rows := by
  have := off_succ h
  have := off_le rows (j + 1)
  omega

theorem tot_const {rows : List (List Int)} {c : Nat} (h : ∀ r, r ∈ rows → r.length = c) : tot rows = rows.length * c := by
  induction rows with
  | nil => simp [tot]
  | cons r rs ih =>
    have h1 := ih (fun x hx => h x (List.mem_cons_of_mem _ hx))
    have h2 := h r (List.mem_cons_self)
    simp only [tot, List.map_cons, List.sum_cons, List.length_cons] at h1 ⊢
    rw [h1, h2, Nat.succ_mul, Nat.add_comm]

def szI (left : Int) (n : Nat) : Int := if left < n then -1 else left - n
theorem szIntS_any (w : World) (A : Option Addr) (n c : Nat) (left : Int) (h0 : 0 ≤ left) (h1 : left ≤ 1000000000) (hn : n ≤ 9223372036854775807) :
    Calls Try.prog 27 #[.slice A n c, .int .i64 left] w fun e w' => e = .returned (.int .i64 (szI left n)) ∧ w = w' := by
  by_cases h : left < n
  · have H := Lib.hid (show szI left n = -1 by unfold szI; rw [if_pos h])
    go_enter Try.func27, Try.ntmps27
    go_wp2
    go_ret
    rw [H.out]
    exact ⟨rfl, rfl⟩
  · have H := Lib.hid (show szI left n = left - n by unfold szI; rw [if_neg h])
    go_enter Try.func27, Try.ntmps27
    go_wp2
    go_ret
    rw [H.out]
    exact ⟨rfl, rfl⟩
/-- Too many, or as many fewer as there are rows and ints. -/
def SzRet (left : Int) (rows : List (List Int)) (w : World) (e : Ending) (w' : World) : Prop := w = w' ∧ (e = .returned (.int .i64 (-1)) ∨ (((rows.length + tot rows : Nat) : Int) ≤ left ∧ e = .returned (.int .i64 (left - (rows.length + tot rows : Nat)))))
end Go.Proofs.Ytdcgoeapgboclaa

/-! The laws' marks on rows and grids that the call owns. -/
namespace Go.Proofs.Ytdcgoeapgboclaa
open Go Go.RowKit Go.Deep

def marksG (k : Int) (rows : List (List Int)) : List (List Int) := rows.mapIdx fun j row => marks (k + off rows j) row.length
theorem marksG_len (k : Int) (rows : List (List Int)) : (marksG k rows).length = rows.length := by simp [marksG]
theorem marksG_get {k : Int} {rows : List (List Int)} {j : Nat} (h : j < rows.length) : (marksG k rows).getD j [] = marks (k + off rows j) (rows.getD j []).length := by
  unfold marksG
  rw [mapIdx_getD _ _ _ h []]

/-- The row's block alone may have changed; no new block. -/
def RowTouch (v : Value) (xs : List Int) (w w' : World) : Prop := Touch (fun q => xs ≠ [] ∧ q = blkOf v) w w' ∧ w'.heap.size = w.heap.size
/-- The row v, marked from k on. -/
def MarkR (w : World) (S : Nat → Prop) (v : Value) (k : Int) (xs : List Int) (e : Ending) (w' : World) : Prop :=
  e = .returned (.int .i64 (k + xs.length)) ∧ RowTouch v xs w w' ∧ OwR w' tI S v (marks k xs.length)
theorem marks_eq_nil (k : Int) (n : Nat) (h : n = 0) : marks k n = [] := by subst h; rfl
set_option maxHeartbeats 400000 in
theorem markR_any (w : World) (S : Nat → Prop) (v : Value) (xs : List Int) (k : Int) (hv : OwR w tI S v xs) (h0 : 0 ≤ k) (hl : k + xs.length ≤ 9223372036854775807) :
    Calls Try.prog 24 #[v, .int .i64 k] w (MarkR w S v k xs) := by
  rcases hv.cases with ⟨rfl, A, c, rfl⟩ | ⟨g, cap, rfl, hs, ⟨hpos, kc_cap⟩, hc0⟩
  · go_enter Try.func24, Try.ntmps24
    go_wp2
    refine wp_loop_rounds 1 ?_
    rw [rounds_succ]
    go_wp2
    go_ret
    exact ⟨by simp, ⟨Touch.refl _ _, rfl⟩, hv⟩
  · have HC := Lib.hid hc0
    have HS := Lib.hid hs
    have HP := Lib.hid hpos
    clear hv hc0 hs hpos
    go_enter Try.func24, Try.ntmps24
    go_wp2
    go_loopw [1, 5] (fun tk ti wr => ∃ i : Nat, i ≤ xs.length ∧ ti = .int .i64 i ∧ tk = .int .i64 (k + i) ∧ Hid (Touch (fun q => q = g) w wr) ∧ Hid (wr.heap.size = w.heap.size) ∧ Hid (CellsAt wr g tI (icells (marks k i ++ xs.drop i)))) (fun _ ti _ => xs.length - (intOf ti).toNat)
    case atStart => exact ⟨0, Nat.zero_le _, rfl, by go_num, Lib.hid (Touch.refl _ _), Lib.hid rfl, HC⟩
    case round =>
      obtain ⟨i, hi, rfl, rfl, HT, HZ, HO⟩ := hrel
      by_cases hlt : i < xs.length
      · have HLN := Lib.hid (show i < (icells (marks k i ++ xs.drop i)).length by rw [icells_len, List.length_append, marks_len, List.length_drop]; omega)
        have hc := (HO.out.cell HLN.out).trans (getD_some HLN.out (.int .i64 0))
        have hf := HO.out.frozen i
        generalize (icells (marks k i ++ xs.drop i)).getD i (.int .i64 0) = z at hc
        have HST := Lib.hid (HO.out.set i (.int .i64 (k + i)))
        go_wp2
        go_roundw
        case rel => exact ⟨i + 1, by omega, by go_num, by go_num, Lib.hid (HT.out.setCell (Or.inl rfl) _), Lib.hid (by rw [nblk_setCell]; exact HZ.out), Lib.hid (by
          have := HST.out
          rw [icells_set, marks_step k xs i hlt] at this
          exact this)⟩
        case measure => simp [intOf]; omega
      · have hin : i = xs.length := by omega
        have HF := Lib.hid (show marks k i ++ xs.drop i = marks k xs.length by rw [hin]; simp)
        have HI := Lib.hid hin
        clear hin
        go_wp2
        go_ret
        refine ⟨congrArg (fun j : Nat => Ending.returned (.int .i64 (k + (j : Int)))) HI.out, ⟨HT.out.mono fun q _ e => ⟨List.length_pos_iff.1 HP.out, e⟩, HZ.out⟩, owR_at HS.out ?_ (marks_len _ _).symm⟩
        rw [← HF.out]
        exact HO.out

/-- The grid v, marked from k on. -/
def MarkG (w : World) (S : Nat → Prop) (v : Value) (k : Int) (rows : List (List Int)) (e : Ending) (w' : World) : Prop :=
  e = .returned (.int .i64 (k + tot rows)) ∧ Touch S w w' ∧ w'.heap.size = w.heap.size ∧ OwG w' tI tR S v (marksG k rows)
theorem OwR.blk {w : World} {ti : TypeId} {S : Nat → Prop} {v : Value} {xs : List Int} (h : OwR w ti S v xs) (hx : xs ≠ []) : S (blkOf v) := by
  obtain ⟨A, c, e, kc_c, h2⟩ := h
  rcases h2 with h2 | ⟨b, e2, h3, h4⟩
  · exact absurd h2 hx
  · rw [e, e2]; exact h3
end Go.Proofs.Ytdcgoeapgboclaa

/-! The laws' helpers on matrices: a struct of a number of columns and a grid. -/
namespace Go.Proofs.Ytdcgoeapgboclaa
open Go Go.RowKit Go.Deep

/-- A matrix as a value: its columns and a slice. -/
def MadeM (w : World) (c : Int) (rows : List (List Int)) (e : Ending) (w' : World) : Prop := ∃ v, e = .returned (.agg #[.int .i64 c, v]) ∧ Below w.heap.size w w' ∧ OwG w' tI tR (fun b => w.heap.size ≤ b) v rows
theorem OwG.len {w : World} {ti ts : TypeId} {S : Nat → Prop} {v : Value} {rows : List (List Int)} (h : OwG w ti ts S v rows) : ∃ A c, v = .slice A rows.length c := by
  obtain ⟨A, c, e, kc_c, _⟩ := h
  exact ⟨A, c, e⟩
theorem RdG.len {w : World} {B : Nat} {v : Value} {rows : List (List Int)} (h : RdG w B v rows) : ∃ A c, v = .slice A rows.length c := by
  obtain ⟨A, c, e, kc_c, _⟩ := h
  exact ⟨A, c, e⟩
theorem decide_and' {a b : Prop} [Decidable a] [Decidable b] : decide (a ∧ b) = (decide a && decide b) := by simp
/-- Too many, or as many fewer as there are rows and ints; a struct was boxed. -/
def SzRetM (left : Int) (rows : List (List Int)) (w : World) (e : Ending) (w' : World) : Prop := Below w.heap.size w w' ∧ (e = .returned (.int .i64 (-1)) ∨ (((rows.length + tot rows : Nat) : Int) ≤ left ∧ e = .returned (.int .i64 (left - (rows.length + tot rows : Nat)))))
/-- The matrix v, marked from k on. -/
def MarkM (w : World) (S : Nat → Prop) (v : Value) (k : Int) (rows : List (List Int)) (e : Ending) (w' : World) : Prop :=
  e = .returned (.int .i64 (k + tot rows)) ∧ Touch S w w' ∧ OwG w' tI tR S v (marksG k rows)
theorem Touch.cellAt {S : Nat → Prop} {w w' : World} (h : Touch S w w') {p : Addr} (hp : p.block < w.heap.size) (hs : ¬ S p.block) : w'.cell? p = w.cell? p := World.cell?_of_block (w := w) (h.block p.block hp hs)
/-! ### What a function returns: its data, in memory of its own. -/
def RetMB (w : World) (c : Int) (rows : List (List Int)) (ok : Bool) (e : Ending) (w' : World) : Prop :=
  ∃ v, e = .returned (.tuple #[.agg #[.int .i64 c, v], .bool ok]) ∧ Below w.heap.size w w' ∧ OwG w' tI tR (fun b => w.heap.size ≤ b) v rows
def RetMMB (w : World) (c0 : Int) (rows0 : List (List Int)) (c1 : Int) (rows1 : List (List Int)) (ok : Bool) (e : Ending) (w' : World) : Prop :=
  ∃ (v0 v1 : Value) (T0 T1 : Nat → Prop), e = .returned (.tuple #[.agg #[.int .i64 c0, v0], .agg #[.int .i64 c1, v1], .bool ok]) ∧ Below w.heap.size w w' ∧ (∀ k, T0 k → w.heap.size ≤ k) ∧ (∀ k, T1 k → w.heap.size ≤ k) ∧ (∀ k, T0 k → T1 k → False) ∧ OwG w' tI tR T0 v0 rows0 ∧ OwG w' tI tR T1 v1 rows1
def RetIB (w : World) (n : Int) (ok : Bool) (e : Ending) (w' : World) : Prop := e = .returned (.tuple #[.int .i64 n, .bool ok]) ∧ Below w.heap.size w w'
def RetRB (w : World) (xs : List Int) (ok : Bool) (e : Ending) (w' : World) : Prop :=
  ∃ v, e = .returned (.tuple #[v, .bool ok]) ∧ Below w.heap.size w w' ∧ OwR w' tI (fun b => w.heap.size ≤ b) v xs
def RetGB (w : World) (rows : List (List Int)) (ok : Bool) (e : Ending) (w' : World) : Prop :=
  ∃ v, e = .returned (.tuple #[v, .bool ok]) ∧ Below w.heap.size w w' ∧ OwG w' tI tR (fun b => w.heap.size ≤ b) v rows

/-! ### Inside a region that draws its order: the world at hand has come from w0, below whose size nothing turned. -/
def MadeM' (w0 w : World) (c : Int) (rows : List (List Int)) (e : Ending) (w' : World) : Prop := ∃ v, e = .returned (.agg #[.int .i64 c, v]) ∧ Hid (Below w.heap.size w w') ∧ Hid (Below w0.heap.size w0 w') ∧ Hid (OwG w' tI tR (fun b => w.heap.size ≤ b) v rows)
theorem held1 {w0 w' : World} {a : Nat} {u0 u1 : Value} (H : Hid (Below w0.heap.size w0 w')) (h0 : w0.cell? ⟨a, 0, none⟩ = some u0) (h1 : w0.cell? ⟨a, 1, none⟩ = some u1) (ha : a < w0.heap.size) :
    w'.cell? ⟨a, 0, none⟩ = some u0 ∧ w'.cell? ⟨a, 1, none⟩ = some u1 ∧ Hid (Below w0.heap.size w0 w') :=
  ⟨(H.out.cell (p := ⟨a, 0, none⟩) ha).trans h0, (H.out.cell (p := ⟨a, 1, none⟩) ha).trans h1, H⟩
theorem held2 {w0 w' : World} {a b : Nat} {u0 u1 u2 u3 : Value} (H : Hid (Below w0.heap.size w0 w')) (h0 : w0.cell? ⟨a, 0, none⟩ = some u0) (h1 : w0.cell? ⟨a, 1, none⟩ = some u1) (ha : a < w0.heap.size)
    (h2 : w0.cell? ⟨b, 0, none⟩ = some u2) (h3 : w0.cell? ⟨b, 1, none⟩ = some u3) (hb : b < w0.heap.size) :
    w'.cell? ⟨a, 0, none⟩ = some u0 ∧ w'.cell? ⟨a, 1, none⟩ = some u1 ∧ w'.cell? ⟨b, 0, none⟩ = some u2 ∧ w'.cell? ⟨b, 1, none⟩ = some u3 ∧ Hid (Below w0.heap.size w0 w') :=
  ⟨(H.out.cell (p := ⟨a, 0, none⟩) ha).trans h0, (H.out.cell (p := ⟨a, 1, none⟩) ha).trans h1, (H.out.cell (p := ⟨b, 0, none⟩) hb).trans h2, (H.out.cell (p := ⟨b, 1, none⟩) hb).trans h3, H⟩
/-- Two matrices are compared, one of which lies where w0 left it, the other one just made. -/
def EqM' (w0 : World) (e : Ending) (w' : World) : Prop := e = .returned (.bool true) ∧ Hid (Below w0.heap.size w0 w')
theorem OwR.below {w w' : World} {ti : TypeId} {S : Nat → Prop} {v : Value} {xs : List Int} {B : Nat} (h : OwR w ti S v xs) (hb : Below B w w') (hs : ∀ k, S k → k < w.heap.size → k < B) : OwR w' ti S v xs := h.blocks fun k hk hl _ _ => hb.block k (hs k hk hl)
end Go.Proofs.Ytdcgoeapgboclaa

/-! Grids of one's own: rows lent, written, read. -/
namespace Go.Proofs.Ytdcgoeapgboclaa
open Go Go.RowKit Go.Deep

theorem upd_repl {α : Type} (n : Nat) (z y : α) : (List.replicate n z).mapIdx (fun _ _ => y) = List.replicate n y := by
  apply List.ext_getElem?
  intro i
  rw [List.getElem?_mapIdx]
  by_cases c : i < n
  · simp [c]
  · simp [c]
theorem CellsAt.drew {w : World} {b : Nat} {t : TypeId} {vs : List Value} (h : CellsAt w b t vs) : CellsAt w.drew b t vs := h
theorem GridAt.drew {w : World} {ti ts : TypeId} {S : Nat → Prop} {g : Nat} {vs : List Value} {rows : List (List Int)} (h : GridAt w ti ts S g vs rows) : GridAt w.drew ti ts S g vs rows := h.blocks fun _ _ _ => rfl
theorem CellsAt.two {w : World} {b : Nat} {t : TypeId} {v0 v1 : Value} (h : CellsAt w b t [v0, v1]) : w.cell? ⟨b, 0, none⟩ = some v0 ∧ w.cell? ⟨b, 1, none⟩ = some v1 ∧ w.frozen? ⟨b, 0, none⟩ = false ∧ w.frozen? ⟨b, 1, none⟩ = false ∧ b < w.heap.size :=
  ⟨h.cell (i := 0) (by simp), h.cell (i := 1) (by simp), h.frozen 0, h.frozen 1, h.lt⟩
theorem cellsAt_new' (w : World) (c : Array Value) (t : TypeId) (vs : List Value) (b : Nat) (hb : b = w.heap.size) (hv : c.toList = vs) : CellsAt (w.alloc (.cells c t)) b t vs := by
  subst hb hv
  exact cellsAt_new w c t

/-! ### Rows of a grid lent to a callee, or written. -/
/-- The block of a row that is not empty. -/
def rg (u : Value) (xs : List Int) : Nat → Prop := fun b => xs ≠ [] ∧ b = blkOf u
theorem OwR.region {w : World} {ti : TypeId} {S : Nat → Prop} {u : Value} {xs : List Int} (h : OwR w ti S u xs) : OwR w ti (rg u xs) u xs ∧ (xs ≠ [] → S (blkOf u) ∧ blkOf u < w.heap.size) := by
  obtain ⟨A, c, e, kc_c, h⟩ := h
  rcases h with h | ⟨b, e2, h3, h4⟩
  · exact ⟨⟨A, c, e, kc_c, Or.inl h⟩, fun hx => absurd h hx⟩
  · by_cases hx : xs = []
    · exact ⟨⟨A, c, e, kc_c, Or.inl hx⟩, fun hx2 => absurd hx hx2⟩
    · have hb : blkOf u = b := by rw [e, e2]; rfl
      exact ⟨⟨A, c, e, kc_c, Or.inr ⟨b, e2, ⟨hx, hb.symm⟩, h4⟩⟩, fun _ => by rw [hb]; exact ⟨h3, h4.lt⟩⟩
theorem OwG.row {w : World} {ti ts : TypeId} {S : Nat → Prop} {v : Value} {rows : List (List Int)} (h : OwG w ti ts S v rows) {r : Nat} (hr : r < rows.length) :
    ∃ g c u, v = .slice (some ⟨g, 0, none⟩) rows.length c ∧ S g ∧ g < w.heap.size ∧ w.cell? ⟨g, r, none⟩ = some u ∧ w.frozen? ⟨g, r, none⟩ = false ∧ OwR w ti (rg u (rows.getD r [])) u (rows.getD r []) ∧
      (rows.getD r [] ≠ [] → S (blkOf u) ∧ blkOf u < w.heap.size ∧ blkOf u ≠ g) ∧
      (∀ w' ys, ys.length = (rows.getD r []).length → OwR w' ti (rg u ys) u ys → (∀ k, k < w.heap.size → S k → ¬ rg u (rows.getD r []) k → w'.heap[k]? = w.heap[k]?) → OwG w' ti ts S v (rows.set r ys)) ∧
      ∀ s, s < rows.length → s ≠ r → ∃ u2, w.cell? ⟨g, s, none⟩ = some u2 ∧ RdS w (fun b => S b ∧ ¬ rg u (rows.getD r []) b) u2 (rows.getD s []) := by
  obtain ⟨A, c, e, kc_c, h⟩ := h
  rcases h with h | ⟨g, vs, e2, h3⟩
  · subst h
    exact absurd hr (Nat.not_lt_zero _)
  · subst e2
    obtain ⟨hro, hrs⟩ := (h3.row r hr).region
    refine ⟨g, c, vs.getD r .nilFunc, e, h3.inS, h3.outer.lt, h3.cell hr, h3.outer.frozen r, hro, fun hx => ⟨(hrs hx).1, (hrs hx).2, h3.off r hr hx⟩, fun w' ys hl ho hb => ?_, fun s hs hsr => ⟨_, h3.cell hs, ?_⟩⟩
    · refine ⟨_, c, by rw [List.length_set]; exact e, by rw [List.length_set]; exact kc_c, Or.inr ⟨g, vs, rfl, ?_⟩⟩
      have he : ys = [] ↔ rows.getD r [] = [] := by rw [← List.length_eq_zero_iff, hl, List.length_eq_zero_iff]
      have hS : ys ≠ [] → S (blkOf (vs.getD r .nilFunc)) := fun hy => (hrs (fun h0 => hy (he.2 h0))).1
      have ho2 : OwR w' ti S (vs.getD r .nilFunc) ys := ho.mono fun k hk _ => by rw [hk.2]; exact hS hk.1
      -- the blocks of S alone are asked for
      refine ⟨h3.outer.of_block (hb _ h3.outer.lt h3.inS fun ⟨hx, e⟩ => h3.off r hr hx e.symm), h3.inS, by rw [List.length_set, h3.len], fun i hi => ?_, fun i hi hx => ?_, fun i j hi hj hij hxi hxj => ?_⟩
      · rw [List.length_set] at hi
        rw [set_getD _ _ _ _ _ hr]
        by_cases c : r = i
        · rw [if_pos c, ← c]
          exact ho2
        · rw [if_neg c]
          exact (h3.row i hi).blocks fun k hk hlt hx e => hb k hlt hk fun ⟨hx2, e2⟩ => h3.apart r i hr hi c hx2 hx (e2.symm.trans e)
      · rw [List.length_set] at hi
        rw [set_getD _ _ _ _ _ hr] at hx
        by_cases c : r = i
        · rw [if_pos c] at hx
          exact h3.off i hi (by rw [← c]; exact fun e => hx (he.2 e))
        · rw [if_neg c] at hx
          exact h3.off i hi hx
      · rw [List.length_set] at hi hj
        rw [set_getD _ _ _ _ _ hr] at hxi hxj
        refine h3.apart i j hi hj hij ?_ ?_
        · by_cases c : r = i
          · rw [if_pos c] at hxi
            rw [← c]
            exact fun e => hxi (he.2 e)
          · rw [if_neg c] at hxi
            exact hxi
        · by_cases c : r = j
          · rw [if_pos c] at hxj
            rw [← c]
            exact fun e => hxj (he.2 e)
          · rw [if_neg c] at hxj
            exact hxj
    · obtain ⟨hso, hss⟩ := (h3.row s hs).region
      exact hso.read.mono fun b hb => ⟨by rw [hb.1.2]; exact (hss hb.1.1).1, fun ⟨hx, e2⟩ => h3.apart s r hs hr hsr hb.1.1 hx (hb.1.2.symm.trans e2)⟩
theorem RdS.touch {w w' : World} {S T : Nat → Prop} {v : Value} {xs : List Int} (h : RdS w S v xs) (ht : Touch T w w') (hs : ∀ b, S b → ¬ T b) : RdS w' S v xs := by
  obtain ⟨A, c, e, kc_c, h⟩ := h
  refine ⟨A, c, e, kc_c, fun k hk => ?_⟩
  obtain ⟨b, o, e2, h3, hc⟩ := h k hk
  refine ⟨b, o, e2, h3, (World.cell?_of_block (w := w) (a := ⟨b, o + k, none⟩) (ht.block b ?_ (hs b h3))).trans hc⟩
  by_cases c1 : b < w.heap.size
  · exact c1
  · have : w.heap[b]? = none := by simp; omega
    simp [World.cell?, this] at hc
theorem RdS.at {w : World} {S : Nat → Prop} {A : Option Addr} {n c : Nat} {xs : List Int} (h : RdS w S (.slice A n c) xs) {k : Nat} (hk : k < xs.length) : ∃ b o, A = some ⟨b, o, none⟩ ∧ S b ∧ w.cell? ⟨b, o + k, none⟩ = some (.int .i64 (xs.getD k 0)) := by
  obtain ⟨A', c', e, kc_cp, h⟩ := h
  obtain ⟨b, o, e2, h3, hc⟩ := h k hk
  injection e with e1
  exact ⟨b, o, e1.trans e2, h3, hc⟩
/-- A row of one's own: what a round of a loop wants to know of element j, and what a store there leaves. -/
theorem OwR.at {w : World} {ti : TypeId} {S : Nat → Prop} {v : Value} {xs : List Int} (h : OwR w ti S v xs) {j : Nat} (hj : j < xs.length) :
    ∃ b c, v = .slice (some ⟨b, 0, none⟩) xs.length c ∧ S b ∧ b < w.heap.size ∧ w.cell? ⟨b, j, none⟩ = some (.int .i64 (xs.getD j 0)) ∧ w.frozen? ⟨b, j, none⟩ = false ∧ ∀ u, OwR (w.setCell ⟨b, j, none⟩ (.int .i64 u)) ti S v (xs.set j u) := by
  rcases h.cases with ⟨h0, _⟩ | ⟨b, c, e, hs, ⟨_, kc_c⟩, hc⟩
  · rw [h0] at hj
    exact absurd hj (Nat.not_lt_zero j)
  · refine ⟨b, c, e, hs, hc.lt, ?_, hc.frozen j, fun u => ?_⟩
    · rw [hc.cell (by rw [icells_len]; exact hj)]
      exact icells_get hj
    · rw [e]
      refine owR_at hs ?_ (by rw [List.length_set])
      have := hc.set j (.int .i64 u)
      rwa [icells_set] at this


/-- All that a loop knows of a grid of its own when it writes element j of row r. -/
theorem OwG.at {w : World} {ti ts : TypeId} {S : Nat → Prop} {v : Value} {rows : List (List Int)} (h : OwG w ti ts S v rows) {r j : Nat} (hr : r < rows.length) (hj : j < (rows.getD r []).length) :
    ∃ g c b c2, v = .slice (some ⟨g, 0, none⟩) rows.length c ∧ S g ∧ g < w.heap.size ∧ w.cell? ⟨g, r, none⟩ = some (.slice (some ⟨b, 0, none⟩) (rows.getD r []).length c2) ∧ S b ∧ b < w.heap.size ∧ b ≠ g ∧
      w.cell? ⟨b, j, none⟩ = some (.int .i64 ((rows.getD r []).getD j 0)) ∧ w.frozen? ⟨b, j, none⟩ = false ∧ ∀ u, OwG (w.setCell ⟨b, j, none⟩ (.int .i64 u)) ti ts S v (rows.set r ((rows.getD r []).set j u)) := by
  obtain ⟨g, c, u, e, hg, hgl, hcell, hfz, ho, hb, hre, _⟩ := h.row hr
  obtain ⟨b, c2, e2, hs, hbl, hc, hf, hset⟩ := ho.at hj
  have hx : rows.getD r [] ≠ [] := hs.1
  obtain ⟨h1, h2, h3⟩ := hb hx
  have hbb : b = blkOf u := hs.2
  refine ⟨g, c, b, c2, e, hg, hgl, by rw [hcell, e2], by rw [hbb]; exact h1, hbl, by rw [hbb]; exact h3, hc, hf, fun x => hre _ _ (by rw [List.length_set]) ?_ ?_⟩
  · refine (hset x).mono fun k hk _ => ⟨?_, hk.2⟩
    intro h0
    exact hx (List.eq_nil_of_length_eq_zero (by rw [← List.length_eq_zero_iff, List.length_set, List.length_eq_zero_iff] at h0; rw [h0]; rfl))
  · intro k hk hS hn
    exact blk_setCell_other _ _ _ _ (fun e3 => hn ⟨hx, by rw [← hbb]; exact e3⟩)
theorem OwG.drew {w : World} {ti ts : TypeId} {S : Nat → Prop} {v : Value} {rows : List (List Int)} (h : OwG w ti ts S v rows) : OwG w.drew ti ts S v rows := h.blocks fun _ _ _ => rfl
theorem sliceEq {A B : Option Addr} {n m c d : Nat} (h : Value.slice A n c = .slice B m d) : A = B ∧ n = m ∧ c = d := by
  injection h with h1 h2 h3
  exact ⟨h1, h2, h3⟩


/-- What a call that returned a matrix left: the struct's data, in memory of its own. -/
theorem MadeM.at {w w' : World} {c : Int} {rows : List (List Int)} {e : Ending} (h : MadeM w c rows e w') : ∃ A c2, e = .returned (.agg #[.int .i64 c, .slice A rows.length c2]) ∧ Below w.heap.size w w' ∧ OwG w' tI tR (fun b => w.heap.size ≤ b) (.slice A rows.length c2) rows := by
  obtain ⟨v, he, hb, ho⟩ := h
  obtain ⟨A, c2, rfl⟩ := ho.len
  exact ⟨A, c2, he, hb, ho⟩
theorem MadeG.at {w w' : World} {rows : List (List Int)} {e : Ending} (h : MadeG w rows e w') : ∃ A c2, e = .returned (.slice A rows.length c2) ∧ Below w.heap.size w w' ∧ OwG w' tI tR (fun b => w.heap.size ≤ b) (.slice A rows.length c2) rows := by
  obtain ⟨v, he, hb, ho⟩ := h
  obtain ⟨A, c2, rfl⟩ := ho.len
  exact ⟨A, c2, he, hb, ho⟩
/-- What a round knows of a grid that came in. -/
theorem RdG.at {w : World} {B : Nat} {A : Option Addr} {n c : Nat} {rows : List (List Int)} (h : RdG w B (.slice A n c) rows) {r : Nat} (hr : r < rows.length) :
    ∃ b o A2 c2, A = some ⟨b, o, none⟩ ∧ b < B ∧ w.cell? ⟨b, o + r, none⟩ = some (.slice A2 (rows.getD r []).length c2) ∧ RdS w (fun b => b < B) (.slice A2 (rows.getD r []).length c2) (rows.getD r []) := by
  obtain ⟨A', c', e, kc_cp, h⟩ := h
  obtain ⟨b, o, u, e2, h3, hc, hs⟩ := h r hr
  injection e with e1
  obtain ⟨A2, c2, rfl, kc_c2, hs2⟩ := hs
  exact ⟨b, o, A2, c2, e1.trans e2, h3, hc, A2, c2, rfl, kc_c2, hs2⟩
theorem lt_of_cell {w : World} {p : Addr} {u : Value} (h : w.cell? p = some u) : p.block < w.heap.size := World.block_lt_of_cell? w _ h
/-- Three boxes made ahead of a call, behind it. -/
theorem boxes3 {w w1 : World} {a b c : Array Value} {ta tb tc : TypeId} {B : Nat} (h : Below B (((w.alloc (.cells a ta)).alloc (.cells b tb)).alloc (.cells c tc)) w1) (hB : B = (((w.alloc (.cells a ta)).alloc (.cells b tb)).alloc (.cells c tc)).heap.size) :
    CellsAt w1 w.heap.size ta a.toList ∧ CellsAt w1 (w.heap.size + 1) tb b.toList ∧ CellsAt w1 (w.heap.size + 1 + 1) tc c.toList ∧ Below w.heap.size w w1 := by
  subst hB
  have e1 := cellsAt_new w a ta
  have e2 := cellsAt_new (w.alloc (.cells a ta)) b tb
  have e3 := cellsAt_new ((w.alloc (.cells a ta)).alloc (.cells b tb)) c tc
  simp only [nblk_alloc] at e2 e3
  refine ⟨((e1.alloc _).alloc _).below h (by simp only [nblk_alloc]; omega), (e2.alloc _).below h (by simp only [nblk_alloc]; omega), e3.below h (by simp only [nblk_alloc]; omega), ?_⟩
  refine Below.trans ?_ (h.mono (by simp only [nblk_alloc]; omega))
  exact ((((Below.refl _ _).alloc (Nat.le_refl _) _).alloc (by simp only [nblk_alloc]; omega) _).alloc (by simp only [nblk_alloc]; omega) _)
theorem boxes2 {w w1 : World} {a b : Array Value} {ta tb : TypeId} {B : Nat} (h : Below B ((w.alloc (.cells a ta)).alloc (.cells b tb)) w1) (hB : B = ((w.alloc (.cells a ta)).alloc (.cells b tb)).heap.size) :
    CellsAt w1 w.heap.size ta a.toList ∧ CellsAt w1 (w.heap.size + 1) tb b.toList ∧ Below w.heap.size w w1 := by
  subst hB
  have e1 := cellsAt_new w a ta
  have e2 := cellsAt_new (w.alloc (.cells a ta)) b tb
  simp only [nblk_alloc] at e2
  refine ⟨(e1.alloc _).below h (by simp only [nblk_alloc]; omega), e2.below h (by simp only [nblk_alloc]; omega), ?_⟩
  refine Below.trans ?_ (h.mono (by simp only [nblk_alloc]; omega))
  exact (((Below.refl _ _).alloc (Nat.le_refl _) _).alloc (by simp only [nblk_alloc]; omega) _)
end Go.Proofs.Ytdcgoeapgboclaa

/-! Grids that grow by append: the outer slice with its room, the rows each in a block of its own. -/
namespace Go.Proofs.Ytdcgoeapgboclaa
open Go Go.RowKit Go.Deep

/-- The slice v, with its room, holds the slices vs; slice r is a row of its own, rows r; no two share a block. -/
structure GridA (w : World) (ti ts : TypeId) (S : Nat → Prop) (v : Value) (vs : List Value) (rows : List (List Int)) : Prop where
  outer : w.ownsRow 0 ts 1 v vs.length vs
  inS : ∀ k, v.ownBlock = some k → S k
  len : vs.length = rows.length
  row : ∀ r, r < rows.length → OwR w ti S (vs.getD r .nilFunc) (rows.getD r [])
  off : ∀ r, r < rows.length → rows.getD r [] ≠ [] → v.ownBlock ≠ some (blkOf (vs.getD r .nilFunc))
  apart : ∀ r s, r < rows.length → s < rows.length → r ≠ s → rows.getD r [] ≠ [] → rows.getD s [] ≠ [] → blkOf (vs.getD r .nilFunc) ≠ blkOf (vs.getD s .nilFunc)
theorem ownsRow_of_block {w w' : World} {b : Nat} {t : TypeId} {k n : Nat} {v : Value} {xs : List Value} (h : w.ownsRow b t k v n xs) (hb : ∀ g, v.ownBlock = some g → g < w.heap.size → w'.heap[g]? = w.heap[g]?) : w'.ownsRow b t k v n xs := by
  refine ⟨h.1, ?_⟩
  rcases h.2 with h2 | ⟨g, cap, cur, rfl, h3, h4, h5⟩
  · exact .inl h2
  · exact .inr ⟨g, cap, cur, rfl, h3, (hb g rfl (Array.getElem?_eq_some_iff.1 h4).1).trans h4, h5⟩
section
variable {w w' : World} {ti ts : TypeId} {S T : Nat → Prop} {v : Value} {vs : List Value} {rows : List (List Int)}
theorem GridA.nil (w : World) (ti ts : TypeId) (S : Nat → Prop) : GridA w ti ts S (.slice none 0 0) [] [] :=
  ⟨World.ownsRow_nil _ _ _ _, fun k h => by simp [Value.ownBlock] at h, rfl, fun r h => absurd h (Nat.not_lt_zero r), fun r h => absurd h (Nat.not_lt_zero r), fun r _ h => absurd h (Nat.not_lt_zero r)⟩
theorem GridA.mono (h : GridA w ti ts S v vs rows) (hs : ∀ k, S k → k < w.heap.size → T k) : GridA w ti ts T v vs rows :=
  ⟨h.outer, fun k hk => hs k (h.inS k hk) (h.outer.lt k hk).2, h.len, fun r hr => (h.row r hr).mono hs, h.off, h.apart⟩
theorem GridA.blocks (h : GridA w ti ts S v vs rows) (hb : ∀ k, S k → k < w.heap.size → w'.heap[k]? = w.heap[k]?) : GridA w' ti ts S v vs rows :=
  ⟨ownsRow_of_block h.outer fun g hg hl => hb g (h.inS g hg) hl, h.inS, h.len, fun r hr => (h.row r hr).blocks fun k hk hl _ _ => hb k hk hl, h.off, h.apart⟩
theorem OwR.blkS {u : Value} {xs : List Int} (h : OwR w ti S u xs) (hx : xs ≠ []) : S (blkOf u) ∧ blkOf u < w.heap.size := (h.region).2 hx
theorem getD_snoc {α : Type} (l : List α) (x d : α) (i : Nat) (h : i < (l ++ [x]).length) : (l ++ [x]).getD i d = if i < l.length then l.getD i d else x := by
  rw [List.length_append, List.length_singleton] at h
  by_cases c : i < l.length
  · rw [if_pos c, List.getD_eq_getElem?_getD, List.getD_eq_getElem?_getD, List.getElem?_append_left c]
  · rw [if_neg c, List.getD_eq_getElem?_getD, List.getElem?_append_right (by omega), show i - l.length = 0 by omega]
    rfl
/-- One row more. -/
theorem GridA.push (h : GridA w ti ts S v vs rows) {u : Value} {xs : List Int} (hT : OwR w ti T u xs) (hd : ∀ k, T k → ¬ S k) {w1 : World} {g cap n : Nat}
    (hown : w1.ownsRow 0 ts 1 (.slice (some ⟨g, 0, none⟩) n cap) n (vs ++ [u])) (hgrow : w.grownBy w1 v.ownBlock) (hat : v.ownBlock = some g ∨ g = w.heap.size) :
    GridA w1 ti ts (fun k => S k ∨ T k ∨ k = w.heap.size) (.slice (some ⟨g, 0, none⟩) n cap) (vs ++ [u]) (rows ++ [xs]) := by
  have hn : n = (vs ++ [u]).length := by have := hown.1; omega
  have hu : xs ≠ [] → T (blkOf u) ∧ blkOf u < w.heap.size := fun hx => hT.blkS hx
  have hrs : ∀ r, r < rows.length → rows.getD r [] ≠ [] → S (blkOf (vs.getD r .nilFunc)) ∧ blkOf (vs.getD r .nilFunc) < w.heap.size := fun r hr hx => (h.row r hr).blkS hx
  have hl : (rows ++ [xs]).length = rows.length + 1 := by simp
  have hl2 : (vs ++ [u]).length = vs.length + 1 := by simp
  have G : ∀ r, r < (rows ++ [xs]).length → (rows ++ [xs]).getD r [] = if r < rows.length then rows.getD r [] else xs := fun r hr => getD_snoc _ _ _ _ hr
  have V : ∀ r, r < (rows ++ [xs]).length → (vs ++ [u]).getD r .nilFunc = if r < rows.length then vs.getD r .nilFunc else u := fun r hr => by
    rw [← h.len]
    exact getD_snoc _ _ _ _ (by rw [hl2, h.len, ← hl]; exact hr)
  refine ⟨by rw [← hn]; exact hown, fun k hk => ?_, by rw [hl2, hl, h.len], fun r hr => ?_, fun r hr hx => ?_, fun r s hr hs hrs' hxr hxs => ?_⟩
  · simp only [Value.ownBlock, Option.some.injEq] at hk
    subst hk
    rcases hat with h1 | h1
    · exact Or.inl (h.inS _ h1)
    · exact Or.inr (Or.inr h1)
  · rw [G r hr, V r hr]
    by_cases c : r < rows.length
    · rw [if_pos c, if_pos c]
      exact ((h.row r c).mono (T := fun k => S k ∨ T k ∨ k = w.heap.size) fun k hk _ => Or.inl hk).blocks fun k hk hlt hx e => hgrow.block k hlt (by rw [e]; exact fun e2 => h.off r c hx e2.symm)
    · rw [if_neg c, if_neg c]
      exact (hT.mono (T := fun k => S k ∨ T k ∨ k = w.heap.size) fun k hk _ => Or.inr (Or.inl hk)).blocks fun k hk hlt hx e => hgrow.block k hlt (fun e2 => by
        have h1 := h.inS k e2.symm
        have h2 := (hu hx).1
        rw [← e] at h2
        exact hd k h2 h1)
  · rw [G r hr] at hx
    rw [V r hr]
    simp only [Value.ownBlock, ne_eq, Option.some.injEq]
    by_cases c : r < rows.length
    · rw [if_pos c] at hx ⊢
      rcases hat with h1 | h1
      · have := h.off r c hx
        rw [h1] at this
        simpa using this
      · have := (hrs r c hx).2
        omega
    · rw [if_neg c] at hx ⊢
      rcases hat with h1 | h1
      · intro e
        have h2 := h.inS g h1
        have h3 := (hu hx).1
        rw [← e] at h3
        exact hd g h3 h2
      · have := (hu hx).2
        omega
  · rw [G r hr] at hxr
    rw [G s hs] at hxs
    rw [V r hr, V s hs]
    by_cases c : r < rows.length
    · rw [if_pos c] at hxr ⊢
      by_cases c2 : s < rows.length
      · rw [if_pos c2] at hxs ⊢
        exact h.apart r s c c2 hrs' hxr hxs
      · rw [if_neg c2] at hxs ⊢
        intro e
        have h1 := (hrs r c hxr).1
        rw [e] at h1
        exact hd _ (hu hxs).1 h1
    · rw [if_neg c] at hxr ⊢
      by_cases c2 : s < rows.length
      · rw [if_pos c2] at hxs ⊢
        intro e
        have h1 := (hrs s c2 hxs).1
        rw [← e] at h1
        exact hd _ (hu hxr).1 h1
      · rw [hl] at hr hs
        omega
theorem GridA.toOwG (h : GridA w ti ts S v vs rows) : OwG w ti ts S v rows := by
  rcases h.outer.2 with ⟨rfl, h0⟩ | ⟨g, cap, cur, hv, _, h4, h5, h6, h7, h8⟩
  · have : rows = [] := List.eq_nil_of_length_eq_zero (by rw [← h.len]; exact h0)
    subst this
    exact ⟨none, 0, rfl, Nat.le_refl 0, Or.inl rfl⟩
  · refine ⟨some ⟨g, 0, none⟩, cap, by rw [hv, h.len], by rw [← h.len]; omega, Or.inr ⟨g, vs, rfl, ?_⟩⟩
    refine ⟨⟨cur, h4, by omega, fun j hj => ?_⟩, h.inS g (by rw [hv]; rfl), h.len, h.row, fun r hr hx => ?_, h.apart⟩
    · have e : vs[j]? = (cur.toList.take (vs.length * 1))[j]? := by rw [h8]
      rw [e, List.getElem?_take_of_lt (by omega)]
      simp
    · have := h.off r hr hx
      rw [hv] at this
      simp only [Value.ownBlock, ne_eq, Option.some.injEq] at this
      exact fun e => this e.symm
theorem GridA.form (h : GridA w ti ts S v vs rows) : ∃ A c, v = .slice A rows.length c := by
  rcases h.outer.2 with ⟨rfl, h0⟩ | ⟨g, cap, cur, hv, _⟩
  · exact ⟨none, 0, by rw [← h.len, h0]⟩
  · exact ⟨_, cap, by rw [hv, h.len]⟩
end
/-- What a cell holds, whatever it is: a region's loads may be taken first under 'the cell holds what it holds', though a store of the same region follows. -/
def cv (w : World) (a : Addr) : Value := (w.cell? a).getD .nilFunc
theorem cv_of {w : World} {a : Addr} {u : Value} (h : w.cell? a = some u) : w.cell? a = some (cv w a) := by unfold cv; rw [h]; rfl
theorem cv_eq {w : World} {a : Addr} {u : Value} (h : w.cell? a = some u) : cv w a = u := by unfold cv; rw [h]; rfl
end Go.Proofs.Ytdcgoeapgboclaa

/-! slices.Clone, slices.Clip, slices.Equal at ints; copies of rows. -/
namespace Go.Proofs.Ytdcgoeapgboclaa
open Go Go.RowKit Go.Deep

theorem owR_of_owns {w : World} {S : Nat → Prop} {v : Value} {xs : List Int} {base : Nat} (h : w.ownsRow base tI 1 v xs.length (icells xs)) (hs : ∀ k, v.ownBlock = some k → S k) : OwR w tI S v xs := by
  rcases h.2 with ⟨rfl, h0⟩ | ⟨g, cap, cur, rfl, _, h4, h5, h6, h7, h8⟩
  · have : xs = [] := List.eq_nil_of_length_eq_zero h0
    subst this
    exact OwR.nil _ _
  · refine ⟨_, cap, rfl, by omega, Or.inr ⟨g, rfl, hs g rfl, cur, h4, by rw [icells_len]; omega, fun j hj => ?_⟩⟩
    have e : (icells xs)[j]? = (cur.toList.take (xs.length * 1))[j]? := by rw [h8]
    rw [icells_len] at hj
    rw [e, List.getElem?_take_of_lt (by omega)]
    simp
set_option maxRecDepth 100000 in
set_option maxHeartbeats 400000 in
theorem clone_any (w : World) (B : Nat) (v : Value) (xs : List Int) (hv : RdS w (fun b => b < B) v xs) (hB : B ≤ w.heap.size) (hl : xs.length ≤ 1000000) :
    Calls Try.prog 63 #[v] w (MadeR w xs) := by
  obtain ⟨i0, hi0, hz0, hz1, hz2⟩ := info_parts infoI
  obtain ⟨A, c, rfl, kc_c, hv⟩ := hv
  have qn : ∀ (w : World) (a : Option Addr) (n c n' c' : Nat), (binOp .eql 23 (.slice a n c) (.slice none n' c')).run Try.prog w = .ok (.bool a.isNone) w := fun w a n c n' c' => Lib.run_eql_slice_nil w _ _ a n c n' c' Try.underlying23
  have HV := Lib.hid hv
  have HB := Lib.hid hB
  cases A with
  | none =>
    have h0 : xs = [] := by
      cases xs with
      | nil => rfl
      | cons x xs => obtain ⟨b, o, e, _⟩ := hv 0 (by simp); cases e
    subst h0
    clear hv hB
    go_enter Try.func63, Try.ntmps63
    go_wp2
    go_ret
    exact ⟨_, rfl, Below.refl _ _, OwR.nil _ _⟩
  | some a =>
    clear hv hB
    go_enter Try.func63, Try.ntmps63
    go_wp2_with (at_builtin; refine wpList_append_own _ rfl (.tmp 5) (.tmp 6) 23 rfl w.heap.size 3 i0 (.int .i64 0) 1 8 Try.underlying23 hi0 hz0 hz1 hz2 rfl (by decide) (.slice (some ⟨w.heap.size, 0, none⟩) 0 0) 0 [] rfl (World.ownsRow_made w #[] 0 (Nat.le_refl _) (Nat.zero_le _) rfl) a xs.length c (icells xs) rfl (by rw [icells_len]; omega) ?c2 (by intro u hu; unfold icells at hu; obtain ⟨x, _, rfl⟩ := List.mem_map.1 hu; rfl) (by unfold maxLen; omega) (by omega) (by simp) ?_)
    case c2 =>
      intro j u hj
      have hjn : j < xs.length := by have := (List.getElem?_eq_some_iff.1 hj).1; rwa [icells_len] at this
      obtain ⟨b, o, e, hb, hc⟩ := HV.out j hjn
      injection e with e
      subst e
      rw [Addr.add_lit]
      refine Lib.cell?_alloc_some _ ?_
      rw [hc]
      rw [icells_get hjn] at hj
      exact hj
    intro v' w1 hown hgrow hnil
    have HO := Lib.hid hown
    have HBN := Lib.hid (((Below.refl w.heap.size w).alloc (Nat.le_refl _) (.cells #[] 3)).grown hgrow (by simp) (by intro k hk; simp [Value.ownBlock] at hk; omega))
    have HBL := Lib.hid (show ∀ k, v'.ownBlock = some k → w.heap.size ≤ k from fun k hk => (hown.lt k hk).1)
    clear hown hgrow hnil
    go_wp2
    go_ret
    exact ⟨v', rfl, HBN.out, owR_of_owns (by simpa using HO.out) HBL.out⟩
set_option maxRecDepth 100000 in
set_option maxHeartbeats 400000 in
theorem l1Own_any (w : World) (B : Nat) (v : Value) (xs : List Int) (hv : RdS w (fun b => b < B) v xs) (hB : B ≤ w.heap.size) (hl : xs.length ≤ 1000000) :
    Calls Try.prog 58 #[v] w (MadeR w xs) := by
  obtain ⟨i0, hi0, hz0, hz1, hz2⟩ := info_parts infoI
  obtain ⟨A, c, rfl, kc_c, hv⟩ := hv
  have qn : ∀ (w : World) (a : Option Addr) (n c n' c' : Nat), (binOp .eql 23 (.slice a n c) (.slice none n' c')).run Try.prog w = .ok (.bool a.isNone) w := fun w a n c n' c' => Lib.run_eql_slice_nil w _ _ a n c n' c' Try.underlying23
  have HV := Lib.hid hv
  have HB := Lib.hid hB
  cases A with
  | none =>
    have h0 : xs = [] := by
      cases xs with
      | nil => rfl
      | cons x xs => obtain ⟨b, o, e, _⟩ := hv 0 (by simp); cases e
    subst h0
    clear hv hB
    go_enter Try.func58, Try.ntmps58
    go_wp2
    go_ret
    exact ⟨_, rfl, (Below.refl _ _).alloc (Nat.le_refl _) _, OwR.nil _ _⟩
  | some a =>
    clear hv hB
    go_enter Try.func58, Try.ntmps58
    go_wp2_with (at_builtin; refine wpList_append_own _ rfl (.tmp 3) (.tmp 4) 23 rfl w.heap.size 3 i0 (.int .i64 0) 1 8 Try.underlying23 hi0 hz0 hz1 hz2 rfl (by decide) (.slice (some ⟨w.heap.size, 0, none⟩) 0 0) 0 [] rfl (World.ownsRow_made w #[] 0 (Nat.le_refl _) (Nat.zero_le _) rfl) a xs.length c (icells xs) rfl (by rw [icells_len]; omega) ?c2 (by intro u hu; unfold icells at hu; obtain ⟨x, _, rfl⟩ := List.mem_map.1 hu; rfl) (by unfold maxLen; omega) (by omega) (by simp) ?_)
    case c2 =>
      intro j u hj
      have hjn : j < xs.length := by have := (List.getElem?_eq_some_iff.1 hj).1; rwa [icells_len] at this
      obtain ⟨b, o, e, hb, hc⟩ := HV.out j hjn
      injection e with e
      subst e
      rw [Addr.add_lit]
      refine Lib.cell?_alloc_some _ ?_
      rw [hc]
      rw [icells_get hjn] at hj
      exact hj
    intro v' w1 hown hgrow hnil
    have HO := Lib.hid hown
    have HBN := Lib.hid (((Below.refl w.heap.size w).alloc (Nat.le_refl _) (.cells #[] 3)).grown hgrow (by simp) (by intro k hk; simp [Value.ownBlock] at hk; omega))
    have HBL := Lib.hid (show ∀ k, v'.ownBlock = some k → w.heap.size ≤ k from fun k hk => (hown.lt k hk).1)
    clear hown hgrow hnil
    go_wp2
    go_ret
    exact ⟨v', rfl, HBN.out, owR_of_owns (by simpa using HO.out) HBL.out⟩
def copyS (rows : List (List Int)) (k : Nat) : List (List Int) := upd (fun j _ => rows.getD j []) k (List.replicate rows.length [])
theorem copyS_end {rows : List (List Int)} {k : Nat} (h : rows.length ≤ k) : copyS rows k = rows := by
  unfold copyS
  rw [upd_all _ (by rw [List.length_replicate]; exact h)]
  exact ext_getD [] (by simp) fun i hi => by
    rw [List.length_mapIdx] at hi
    rw [mapIdx_getD _ _ _ hi []]
/-- A call made a grid of its own, with a block even where it is empty, and room for all its rows. -/
def MadeGc (w : World) (rows : List (List Int)) (e : Ending) (w' : World) : Prop := ∃ g c, e = .returned (.slice (some ⟨g, 0, none⟩) rows.length c) ∧ (rows.length ≤ c ∧ c ≤ 1000000) ∧ Below w.heap.size w w' ∧ OwG w' tI tR (fun b => w.heap.size ≤ b) (.slice (some ⟨g, 0, none⟩) rows.length c) rows
end Go.Proofs.Ytdcgoeapgboclaa
