/- Grids that grow by append: the outer slice with its room, the rows each in a block of its own. -/
import Derived.Test.YtahlicbjbbpihaaDoorMxK
import Derived.Deep.AppendLies
namespace Go.Proofs.YtahlicbjbbpihaaDoor
set_option maxRecDepth 100000
open Go Go.RowKit Go.Deep

/-- The slice v, with its room, holds the slices vs; slice r is a row of its own, rows r; no two share a block. -/
structure GridA (w : World) (ti ts : TypeId) (S : Nat → Prop) (v : Value) (vs : List Value) (rows : List (List Int)) : Prop where
  outer : w.ownsRow 0 ts 1 v vs.length vs
  inS : ∀ k, v.ownBlock = some k → S k
  len : vs.length = rows.length
  row : ∀ r, r < rows.length → OwR w ti S (vs.getD r .nilFunc) (rows.getD r [])
  off : ∀ r, r < rows.length → rows.getD r [] ≠ [] → v.ownBlock ≠ some (blkOf (vs.getD r .nilFunc))
  apart : ∀ r s, r < rows.length → s < rows.length → r ≠ s → rows.getD r [] ≠ [] → rows.getD s [] ≠ [] → blkOf (vs.getD r .nilFunc) ≠ blkOf (vs.getD s .nilFunc)
theorem ownsRow_of_block {w w' : World} {b : Nat} {t : TypeId} {k n : Nat} {v : Value} {xs : List Value} (h : w.ownsRow b t k v n xs) (hb : ∀ g, v.ownBlock = some g → g < w.heap.size → w'.heap[g]? = w.heap[g]?) : w'.ownsRow b t k v n xs := by
  refine ⟨h.1, ?_⟩
  rcases h.2 with h2 | ⟨g, cap, cur, rfl, h3, h4, h5⟩
  · exact .inl h2
  · exact .inr ⟨g, cap, cur, rfl, h3, (hb g rfl (Array.getElem?_eq_some_iff.1 h4).1).trans h4, h5⟩
section
variable {w w' : World} {ti ts : TypeId} {S T : Nat → Prop} {v : Value} {vs : List Value} {rows : List (List Int)}
theorem GridA.nil (w : World) (ti ts : TypeId) (S : Nat → Prop) : GridA w ti ts S (.slice none 0 0) [] [] :=
  ⟨World.ownsRow_nil _ _ _ _, fun k h => by simp [Value.ownBlock] at h, rfl, fun r h => absurd h (Nat.not_lt_zero r), fun r h => absurd h (Nat.not_lt_zero r), fun r _ h => absurd h (Nat.not_lt_zero r)⟩
theorem GridA.mono (h : GridA w ti ts S v vs rows) (hs : ∀ k, S k → k < w.heap.size → T k) : GridA w ti ts T v vs rows :=
  ⟨h.outer, fun k hk => hs k (h.inS k hk) (h.outer.lt k hk).2, h.len, fun r hr => (h.row r hr).mono hs, h.off, h.apart⟩
theorem GridA.blocks (h : GridA w ti ts S v vs rows) (hb : ∀ k, S k → k < w.heap.size → w'.heap[k]? = w.heap[k]?) : GridA w' ti ts S v vs rows :=
  ⟨ownsRow_of_block h.outer fun g hg hl => hb g (h.inS g hg) hl, h.inS, h.len, fun r hr => (h.row r hr).blocks fun k hk hl _ _ => hb k hk hl, h.off, h.apart⟩
theorem OwR.blkS {u : Value} {xs : List Int} (h : OwR w ti S u xs) (hx : xs ≠ []) : S (blkOf u) ∧ blkOf u < w.heap.size := (h.region).2 hx
theorem getD_snoc {α : Type} (l : List α) (x d : α) (i : Nat) (h : i < (l ++ [x]).length) : (l ++ [x]).getD i d = if i < l.length then l.getD i d else x := by
  rw [List.length_append, List.length_singleton] at h
  by_cases c : i < l.length
  · rw [if_pos c, List.getD_eq_getElem?_getD, List.getD_eq_getElem?_getD, List.getElem?_append_left c]
  · rw [if_neg c, List.getD_eq_getElem?_getD, List.getElem?_append_right (by omega), show i - l.length = 0 by omega]
    rfl
/-- One row more. -/
theorem GridA.push (h : GridA w ti ts S v vs rows) {u : Value} {xs : List Int} (hT : OwR w ti T u xs) (hd : ∀ k, T k → ¬ S k) {w1 : World} {g cap n : Nat}
    (hown : w1.ownsRow 0 ts 1 (.slice (some ⟨g, 0, none⟩) n cap) n (vs ++ [u])) (hgrow : w.grownBy w1 v.ownBlock) (hat : v.ownBlock = some g ∨ g = w.heap.size) :
    GridA w1 ti ts (fun k => S k ∨ T k ∨ k = w.heap.size) (.slice (some ⟨g, 0, none⟩) n cap) (vs ++ [u]) (rows ++ [xs]) := by
  have hn : n = (vs ++ [u]).length := by have := hown.1; omega
  have hu : xs ≠ [] → T (blkOf u) ∧ blkOf u < w.heap.size := fun hx => hT.blkS hx
  have hrs : ∀ r, r < rows.length → rows.getD r [] ≠ [] → S (blkOf (vs.getD r .nilFunc)) ∧ blkOf (vs.getD r .nilFunc) < w.heap.size := fun r hr hx => (h.row r hr).blkS hx
  have hl : (rows ++ [xs]).length = rows.length + 1 := by simp
  have hl2 : (vs ++ [u]).length = vs.length + 1 := by simp
  have G : ∀ r, r < (rows ++ [xs]).length → (rows ++ [xs]).getD r [] = if r < rows.length then rows.getD r [] else xs := fun r hr => getD_snoc _ _ _ _ hr
  have V : ∀ r, r < (rows ++ [xs]).length → (vs ++ [u]).getD r .nilFunc = if r < rows.length then vs.getD r .nilFunc else u := fun r hr => by
    rw [← h.len]
    exact getD_snoc _ _ _ _ (by rw [hl2, h.len, ← hl]; exact hr)
  refine ⟨by rw [← hn]; exact hown, fun k hk => ?_, by rw [hl2, hl, h.len], fun r hr => ?_, fun r hr hx => ?_, fun r s hr hs hrs' hxr hxs => ?_⟩
  · simp only [Value.ownBlock, Option.some.injEq] at hk
    subst hk
    rcases hat with h1 | h1
    · exact Or.inl (h.inS _ h1)
    · exact Or.inr (Or.inr h1)
  · rw [G r hr, V r hr]
    by_cases c : r < rows.length
    · rw [if_pos c, if_pos c]
      exact ((h.row r c).mono (T := fun k => S k ∨ T k ∨ k = w.heap.size) fun k hk _ => Or.inl hk).blocks fun k hk hlt hx e => hgrow.block k hlt (by rw [e]; exact fun e2 => h.off r c hx e2.symm)
    · rw [if_neg c, if_neg c]
      exact (hT.mono (T := fun k => S k ∨ T k ∨ k = w.heap.size) fun k hk _ => Or.inr (Or.inl hk)).blocks fun k hk hlt hx e => hgrow.block k hlt (fun e2 => by
        have h1 := h.inS k e2.symm
        have h2 := (hu hx).1
        rw [← e] at h2
        exact hd k h2 h1)
  · rw [G r hr] at hx
    rw [V r hr]
    simp only [Value.ownBlock, ne_eq, Option.some.injEq]
    by_cases c : r < rows.length
    · rw [if_pos c] at hx ⊢
      rcases hat with h1 | h1
      · have := h.off r c hx
        rw [h1] at this
        simpa using this
      · have := (hrs r c hx).2
        omega
    · rw [if_neg c] at hx ⊢
      rcases hat with h1 | h1
      · intro e
        have h2 := h.inS g h1
        have h3 := (hu hx).1
        rw [← e] at h3
        exact hd g h3 h2
      · have := (hu hx).2
        omega
  · rw [G r hr] at hxr
    rw [G s hs] at hxs
    rw [V r hr, V s hs]
    by_cases c : r < rows.length
    · rw [if_pos c] at hxr ⊢
      by_cases c2 : s < rows.length
      · rw [if_pos c2] at hxs ⊢
        exact h.apart r s c c2 hrs' hxr hxs
      · rw [if_neg c2] at hxs ⊢
        intro e
        have h1 := (hrs r c hxr).1
        rw [e] at h1
        exact hd _ (hu hxs).1 h1
    · rw [if_neg c] at hxr ⊢
      by_cases c2 : s < rows.length
      · rw [if_pos c2] at hxs ⊢
        intro e
        have h1 := (hrs s c2 hxs).1
        rw [← e] at h1
        exact hd _ (hu hxr).1 h1
      · rw [hl] at hr hs
        omega
theorem GridA.toOwG (h : GridA w ti ts S v vs rows) : OwG w ti ts S v rows := by
  rcases h.outer.2 with ⟨rfl, h0⟩ | ⟨g, cap, cur, hv, _, h4, h5, h6, h7, h8⟩
  · have : rows = [] := List.eq_nil_of_length_eq_zero (by rw [← h.len]; exact h0)
    subst this
    exact ⟨none, 0, rfl, Or.inl rfl⟩
  · refine ⟨some ⟨g, 0, none⟩, cap, by rw [hv, h.len], Or.inr ⟨g, vs, rfl, ?_⟩⟩
    refine ⟨⟨cur, h4, by omega, fun j hj => ?_⟩, h.inS g (by rw [hv]; rfl), h.len, h.row, fun r hr hx => ?_, h.apart⟩
    · have e : vs[j]? = (cur.toList.take (vs.length * 1))[j]? := by rw [h8]
      rw [e, List.getElem?_take_of_lt (by omega)]
      simp
    · have := h.off r hr hx
      rw [hv] at this
      simp only [Value.ownBlock, ne_eq, Option.some.injEq] at this
      exact fun e => this e.symm
theorem GridA.form (h : GridA w ti ts S v vs rows) : ∃ A c, v = .slice A rows.length c := by
  rcases h.outer.2 with ⟨rfl, h0⟩ | ⟨g, cap, cur, hv, _⟩
  · exact ⟨none, 0, by rw [← h.len, h0]⟩
  · exact ⟨_, cap, by rw [hv, h.len]⟩
end
/-- What a cell holds, whatever it is: a region's loads may be taken first under 'the cell holds what it holds', though a store of the same region follows. -/
def cv (w : World) (a : Addr) : Value := (w.cell? a).getD .nilFunc
theorem cv_of {w : World} {a : Addr} {u : Value} (h : w.cell? a = some u) : w.cell? a = some (cv w a) := by unfold cv; rw [h]; rfl
theorem cv_eq {w : World} {a : Addr} {u : Value} (h : w.cell? a = some u) : cv w a = u := by unfold cv; rw [h]; rfl
end Go.Proofs.YtahlicbjbbpihaaDoor
