/- Graphs: the model's graph of a leaf. -/
import Derived.Test.YtdcgoeapgboclaaGrV
namespace Go.Proofs.Ytdcgoeapgboclaa
set_option maxRecDepth 100000
open Go Go.RowKit Go.Deep

/-- Rows of one's own, each in a block of its own. -/
structure Fam (w : World) (B : Nat) (vs : List Value) (rows : List (List Int)) : Prop where
  len : vs.length = rows.length
  row : ∀ r, r < rows.length → RowA w B (vs.getD r .nilFunc) (rows.getD r [])
  apart : ∀ r s, r < rows.length → s < rows.length → r ≠ s → ∀ k, (vs.getD r .nilFunc).ownBlock = some k → (vs.getD s .nilFunc).ownBlock ≠ some k
section
variable {w w' : World} {B : Nat} {vs : List Value} {rows : List (List Int)}
theorem Fam.below (h : Fam w B vs rows) (hb : Below w.heap.size w w') : Fam w' B vs rows := ⟨h.len, fun r hr => RowA.below (h.row r hr) hb, h.apart⟩
theorem Fam.alloc (h : Fam w B vs rows) (o : Obj) : Fam (w.alloc o) B vs rows := h.below ((Below.refl _ _).alloc (Nat.le_refl _) _)
theorem Fam.set (h : Fam w B vs rows) {a : Addr} (ha : a.block < B) (u : Value) : Fam (w.setCell a u) B vs rows :=
  ⟨h.len, fun r hr => ownsRow_of_block (h.row r hr) fun k hk _ => blk_setCell_other _ _ _ _ (by have := (World.ownsRow.lt (h.row r hr) k hk).1; omega), h.apart⟩
theorem Fam.push (h : Fam w B vs rows) {r : Nat} (hr : r < rows.length) {g' n cap : Nat} {xs : List Int} (hown : RowA w' B (.slice (some ⟨g', 0, none⟩) n cap) xs) (hgrow : w.grownBy w' (vs.getD r .nilFunc).ownBlock)
    (hat : (vs.getD r .nilFunc).ownBlock = some g' ∨ g' = w.heap.size) : Fam w' B (vs.set r (.slice (some ⟨g', 0, none⟩) n cap)) (rows.set r xs) := by
  have hrv : r < vs.length := by rw [h.len]; exact hr
  have hown' : ∀ i, i < rows.length → i ≠ r → ∀ k, (vs.getD i .nilFunc).ownBlock = some k → k < w.heap.size ∧ k ≠ g' ∧ w'.heap[k]? = w.heap[k]? := fun i hi hir k hk => by
    have h1 := (World.ownsRow.lt (h.row i hi) k hk).2
    refine ⟨h1, fun e => ?_, hgrow.block k h1 fun e => h.apart i r hi hr hir k hk e.symm⟩
    rcases hat with h2 | h2
    · exact h.apart i r hi hr hir k hk (e ▸ h2)
    · omega
  refine ⟨by rw [List.length_set, List.length_set, h.len], fun i hi => ?_, fun i j hi hj hij k hk => ?_⟩
  · rw [List.length_set] at hi
    rw [set_getD _ _ _ _ _ hrv, set_getD _ _ _ _ _ hr]
    by_cases c : r = i
    · rw [if_pos c, if_pos c]
      exact hown
    · rw [if_neg c, if_neg c]
      exact ownsRow_of_block (h.row i hi) fun k hk _ => (hown' i hi (fun e => c e.symm) k hk).2.2
  · rw [List.length_set] at hi hj
    rw [set_getD _ _ _ _ _ hrv] at hk ⊢
    by_cases c : r = i
    · rw [if_pos c] at hk
      rw [if_neg (by omega)]
      simp only [Value.ownBlock, Option.some.injEq] at hk
      exact fun e => (hown' j hj (by omega) k e).2.1 hk.symm
    · rw [if_neg c] at hk
      by_cases c2 : r = j
      · rw [if_pos c2]
        simp only [Value.ownBlock, ne_eq, Option.some.injEq]
        exact fun e => (hown' i hi (fun e => c e.symm) k hk).2.1 e.symm
      · rw [if_neg c2]
        exact h.apart i j hi hj hij k hk
theorem Fam.nils (w : World) (B n : Nat) : Fam w B (List.replicate n (.slice none 0 0)) (List.replicate n []) := by
  refine ⟨by simp, fun r hr => ?_, fun r s hr hs _ k hk => ?_⟩
  · rw [List.length_replicate] at hr
    rw [repl_getD' _ _ _ _ hr, repl_getD' _ _ _ _ hr]
    exact World.ownsRow_nil _ _ _ _
  · rw [List.length_replicate] at hr
    rw [repl_getD' _ _ _ _ hr] at hk
    simp [Value.ownBlock] at hk
end
def rangeI (a n : Nat) : List Int := (List.range n).map fun k : Nat => ((a + k : Nat) : Int)
theorem rangeI_len (a n : Nat) : (rangeI a n).length = n := by simp [rangeI]
theorem rangeI_next (a n : Nat) : rangeI a (n + 1) = rangeI a n ++ [((a + n : Nat) : Int)] := by simp [rangeI, List.range_succ]
theorem rowA_push {w : World} {B n : Nat} {v : Value} {xs : List Int} {y : Int} (h : w.ownsRow B tI 1 v (n + 1) (icells xs ++ [.int .i64 y])) (hn : xs.length = n) : RowA w B v (xs ++ [y]) := by
  unfold RowA
  rw [List.length_append, List.length_singleton, hn]
  simpa [icells] using h
theorem Touch.grown {S : Nat → Prop} {a b c : World} {o : Option Nat} (h : Touch S a b) (hg : b.grownBy c o) (ho : ∀ q, o = some q → a.heap.size ≤ q) : Touch S a c :=
  ⟨hg.os.trans h.os, hg.tape.trans h.tape, hg.output.trans h.output, Nat.le_trans h.size hg.size, fun k hk hs => (hg.block k (Nat.lt_of_lt_of_le hk h.size) fun e => by have := ho k e.symm; omega).trans (h.block k hk hs)⟩
theorem rangeI_zero (k : Nat) : rangeI 0 (k + 1) = rangeI 0 k ++ [(k : Int)] := by rw [rangeI_next, Nat.zero_add]
/-- The graph that a call returned. -/
def GfRet (w : World) (g : Gf) (x : Ending) (w' : World) : Prop :=
  ∃ AE cE AI cI AO cO, x = .returned (.agg #[.int .i64 g.n, .slice AE g.e.length cE, .slice AI g.i.length cI, .slice AO g.o.length cO]) ∧ Below w.heap.size w w' ∧ RdEs w' (fun q => w.heap.size ≤ q ∧ q < w'.heap.size) (.slice AE g.e.length cE) g.e ∧ RdS w' (fun q => w.heap.size ≤ q ∧ q < w'.heap.size) (.slice AI g.i.length cI) g.i ∧ RdS w' (fun q => w.heap.size ≤ q ∧ q < w'.heap.size) (.slice AO g.o.length cO) g.o
/-- The graph of wires that pass through, as a call returned it: its lists are the call's own. -/
def IdRet (w : World) (n : Nat) (x : Ending) (w' : World) : Prop :=
  ∃ A1 c1 A2 c2, x = .returned (.agg #[.int .i64 n, .slice none 0 0, .slice A1 n c1, .slice A2 n c2]) ∧ Below w.heap.size w w' ∧ OwR w' tI (fun q => w.heap.size ≤ q) (.slice A1 n c1) (rangeI 0 n) ∧ OwR w' tI (fun q => w.heap.size ≤ q) (.slice A2 n c2) (rangeI 0 n)
/-- The graph of a leaf. -/
def leafGf (x : Nd) : Gf :=
  if x.k = 1 then ⟨x.v, [], rangeI 0 x.v.toNat, rangeI 0 x.v.toNat⟩ else if x.k = 2 then ⟨2, [], [0, 1], [1, 0]⟩
  else ⟨(kindW x.k).1 + (kindW x.k).2, [⟨x.k, x.v, rangeI 0 (kindW x.k).1.toNat, rangeI (kindW x.k).1.toNat (kindW x.k).2.toNat⟩], rangeI 0 (kindW x.k).1.toNat, rangeI (kindW x.k).1.toNat (kindW x.k).2.toNat⟩
end Go.Proofs.Ytdcgoeapgboclaa
