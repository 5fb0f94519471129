/- A grid of one's own whose rows grow by append. -/
import Derived.Test.YtdjgkcnhmfkjoaaDoorRowCat
import Derived.Test.YtdjgkcnhmfkjoaaDoorPushG
namespace Go.Proofs.YtdjgkcnhmfkjoaaDoor
set_option maxRecDepth 100000
open Go Go.RowKit Go.Deep

/-- Block g holds the slices vs; slice r, with its room, is a row of its own, rows r; no two share a block. -/
structure GrO (w : World) (B g : Nat) (vs : List Value) (rows : List (List Int)) : Prop where
  outer : CellsAt w g tR vs
  inB : B ≤ g
  len : vs.length = rows.length
  row : ∀ r, r < rows.length → RowA w B (vs.getD r .nilFunc) (rows.getD r [])
  off : ∀ r, r < rows.length → (vs.getD r .nilFunc).ownBlock ≠ some g
  apart : ∀ r s, r < rows.length → s < rows.length → r ≠ s → ∀ k, (vs.getD r .nilFunc).ownBlock = some k → (vs.getD s .nilFunc).ownBlock ≠ some k
section
variable {w w' : World} {B g : Nat} {vs : List Value} {rows : List (List Int)}
theorem GrO.below (h : GrO w B g vs rows) (hb : Below w.heap.size w w') : GrO w' B g vs rows :=
  ⟨h.outer.below hb h.outer.lt, h.inB, h.len, fun r hr => RowA.below (h.row r hr) hb, h.off, h.apart⟩
theorem GrO.drew (h : GrO w B g vs rows) : GrO w.drew B g vs rows := h.below (Below.refl _ _).drew
theorem GrO.alloc (h : GrO w B g vs rows) (o : Obj) : GrO (w.alloc o) B g vs rows := h.below ((Below.refl _ _).alloc (Nat.le_refl _) _)
theorem GrO.cell (h : GrO w B g vs rows) {r : Nat} (hr : r < rows.length) : w.cell? ⟨g, r, none⟩ = some (vs.getD r .nilFunc) := by
  rw [h.outer.cell (by rw [h.len]; exact hr)]
  exact getD_some (by rw [h.len]; exact hr) _
theorem GrO.read (h : GrO w B g vs rows) (c : Nat) (hcap : rows.length ≤ c) : RdG w w.heap.size (.slice (some ⟨g, 0, none⟩) rows.length c) rows :=
  ⟨_, c, rfl, hcap, fun r hr => ⟨g, 0, _, rfl, h.outer.lt, by rw [Nat.zero_add]; exact h.cell hr, RowA.read (h.row r hr)⟩⟩
/-- Row r has grown: in its own block, or in a new one. -/
theorem GrO.push (h : GrO w B g vs rows) {r : Nat} (hr : r < rows.length) {g' n cap : Nat} {xs : List Int} (hown : RowA w' B (.slice (some ⟨g', 0, none⟩) n cap) xs) (hgrow : w.grownBy w' (vs.getD r .nilFunc).ownBlock)
    (hat : (vs.getD r .nilFunc).ownBlock = some g' ∨ g' = w.heap.size) : GrO (w'.setCell ⟨g, r, none⟩ (.slice (some ⟨g', 0, none⟩) n cap)) B g (vs.set r (.slice (some ⟨g', 0, none⟩) n cap)) (rows.set r xs) := by
  have hrv : r < vs.length := by rw [h.len]; exact hr
  have hg' : g' ≠ g := fun e => by
    rcases hat with h1 | h1
    · exact h.off r hr (e ▸ h1)
    · have := h.outer.lt
      omega
  have hown' : ∀ i, i < rows.length → i ≠ r → ∀ k, (vs.getD i .nilFunc).ownBlock = some k → k < w.heap.size ∧ k ≠ g ∧ k ≠ g' ∧ w'.heap[k]? = w.heap[k]? := fun i hi hir k hk => by
    have h1 := (World.ownsRow.lt (h.row i hi) k hk).2
    refine ⟨h1, fun e => h.off i hi (e ▸ hk), fun e => ?_, hgrow.block k h1 fun e => h.apart i r hi hr hir k hk e.symm⟩
    rcases hat with h2 | h2
    · exact h.apart i r hi hr hir k hk (e ▸ h2)
    · omega
  refine ⟨(h.outer.of_block (hgrow.block g h.outer.lt fun e => h.off r hr e.symm)).set r _, h.inB, by rw [List.length_set, List.length_set, h.len], fun i hi => ?_, fun i hi => ?_, fun i j hi hj hij k hk => ?_⟩
  · rw [List.length_set] at hi
    rw [set_getD _ _ _ _ _ hrv, set_getD _ _ _ _ _ hr]
    by_cases c : r = i
    · rw [if_pos c, if_pos c]
      refine ownsRow_of_block hown fun k hk _ => blk_setCell_other _ _ _ _ ?_
      simp only [Value.ownBlock, Option.some.injEq] at hk
      dsimp only
      omega
    · rw [if_neg c, if_neg c]
      exact ownsRow_of_block (h.row i hi) fun k hk _ => (blk_setCell_other _ _ _ _ (hown' i hi (fun e => c e.symm) k hk).2.1).trans (hown' i hi (fun e => c e.symm) k hk).2.2.2
  · rw [List.length_set] at hi
    rw [set_getD _ _ _ _ _ hrv]
    by_cases c : r = i
    · rw [if_pos c]
      simp only [Value.ownBlock, ne_eq, Option.some.injEq]
      exact hg'
    · rw [if_neg c]
      exact h.off i hi
  · rw [List.length_set] at hi hj
    rw [set_getD _ _ _ _ _ hrv] at hk ⊢
    by_cases c : r = i
    · rw [if_pos c] at hk
      rw [if_neg (by omega)]
      simp only [Value.ownBlock, Option.some.injEq] at hk
      exact fun e => (hown' j hj (by omega) k e).2.2.1 hk.symm
    · rw [if_neg c] at hk
      by_cases c2 : r = j
      · rw [if_pos c2]
        simp only [Value.ownBlock, ne_eq, Option.some.injEq]
        exact fun e => (hown' i hi (fun e => c e.symm) k hk).2.2.1 e.symm
      · rw [if_neg c2]
        exact h.apart i j hi hj hij k hk
theorem getD_repl {α : Type} (n r : Nat) (x d : α) (h : r < n) : (List.replicate n x).getD r d = x := by
  rw [List.getD_eq_getElem?_getD, List.getElem?_replicate_of_lt h]
  rfl
theorem GrO.made (w : World) (n : Nat) : GrO (w.alloc (.cells (madeCells #[.slice none 0 0] n) 40)) w.heap.size w.heap.size (List.replicate n (.slice none 0 0)) (List.replicate n []) := by
  refine ⟨?_, Nat.le_refl _, by simp, fun r hr => ?_, fun r hr => ?_, fun r s hr hs _ k hk => ?_⟩
  · have := cellsAt_new w (madeCells #[.slice none 0 0] n) 40
    rw [toList_madeCells_one] at this
    exact this
  · rw [List.length_replicate] at hr
    rw [getD_repl _ _ _ _ hr, getD_repl _ _ _ _ hr]
    exact World.ownsRow_nil _ _ _ _
  · rw [List.length_replicate] at hr
    rw [getD_repl _ _ _ _ hr]
    simp [Value.ownBlock]
  · rw [List.length_replicate] at hr
    rw [getD_repl _ _ _ _ hr] at hk
    simp [Value.ownBlock] at hk
end
section
variable {ops : Array Oper} {rest : List Oper} {o : Oper} {a : Act} {Q : Exit → Act → World → Prop}
theorem step_pushRow {K : Act → World → Prop} {E : Prop} (hgd : o.guard = none) (s x : Operand) (ho : o.op = .call { callee := .builtin .append, args := #[s, x], argTypes := #[40, 40] }) (w : World) (B : Nat) (v : Value) (xs : List Int) (y : Int) (b c : Nat)
    (hs : a.eval s = v) (hown : RowA w B v xs) (hx : a.eval x = .slice (some ⟨b, 0, none⟩) 1 c) (hc : w.cell? ⟨b, 0, none⟩ = some (.int .i64 y)) (hB : B ≤ w.heap.size) (hn : xs.length + 1 ≤ 1000000)
    (h : ∀ g cap w', RowA w' B (.slice (some ⟨g, 0, none⟩) (xs.length + 1) cap) (xs ++ [y]) → w.grownBy w' v.ownBlock → (v.ownBlock = some g ∨ g = w.heap.size) → K (a.put o.dst (.slice (some ⟨g, 0, none⟩) (xs.length + 1) cap)) w') : if Region.wanted o (yielded ops a.tmps) = true then Oper.wp Tryd.prog o a w K Q else E := by
  obtain ⟨i0, hi0, hz0, hz1, hz2⟩ := info_parts infoI
  refine step_append_lies w hgd s x _ ho B tI i0 _ 1 8 Tryd.underlying40 hi0 hz0 hz1 hz2 rfl (by omega) v xs.length (icells xs) hs hown ⟨b, 0, none⟩ 1 c [.int .i64 y] hx rfl (fun j u hj => ?_) (fun u hu => ?_) (by omega) (by unfold maxLen; omega) (by omega) hB _ rfl (fun g cap w' h1 h2 h3 _ => h g cap w' ?_ h2 h3)
  · match j, hj with
    | 0, hj =>
      simp at hj
      subst hj
      simpa [Addr.add] using hc
  · simp at hu
    subst hu
    rfl
  · unfold RowA
    rw [List.length_append, List.length_singleton]
    simpa [icells] using h1
end
end Go.Proofs.YtdjgkcnhmfkjoaaDoor
