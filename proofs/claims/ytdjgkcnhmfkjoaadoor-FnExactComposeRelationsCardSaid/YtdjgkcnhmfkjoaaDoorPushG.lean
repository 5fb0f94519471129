/- A new row appended to a grid of one's own: in a plain step, and at a step of a region that draws its order. -/
import Derived.Test.YtdjgkcnhmfkjoaaDoorMem
namespace Go.Proofs.YtdjgkcnhmfkjoaaDoor
set_option maxRecDepth 100000
open Go Go.RowKit Go.Deep

/-- A grid of one's own, in blocks from B on that are there. -/
def GridB (w : World) (B : Nat) (v : Value) (vs : List Value) (rows : List (List Int)) : Prop := GridA w tI tR (fun q => B ≤ q ∧ q < w.heap.size) v vs rows
theorem GridB.nil (w : World) (B : Nat) : GridB w B (.slice none 0 0) [] [] := GridA.nil _ _ _ _
theorem GridB.below {w w' : World} {B : Nat} {v : Value} {vs : List Value} {rows : List (List Int)} (h : GridB w B v vs rows) (hb : Below w.heap.size w w') : GridA w' tI tR (fun q => B ≤ q ∧ q < w.heap.size) v vs rows :=
  GridA.blocks (w' := w') h fun q hq _ => hb.block q hq.2
theorem GridB.own {w : World} {B : Nat} {v : Value} {vs : List Value} {rows : List (List Int)} (h : GridB w B v vs rows) : OwG w tI tR (fun q => B ≤ q) v rows := OwG.mono (T := fun q => B ≤ q) (GridA.toOwG h) fun _ hq _ => hq.1
theorem pushG_next {w : World} {B N : Nat} {v : Value} {vs : List Value} {rows : List (List Int)} {u : Value} {xs : List Int} (hG : GridA w tI tR (fun q => B ≤ q ∧ q < N) v vs rows) (hu : OwR w tI (fun q => N ≤ q ∧ q < w.heap.size) u xs) (hBN : B ≤ N) (hN : N ≤ w.heap.size)
    {g cap : Nat} {w' : World} (hown : w'.ownsRow 0 tR 1 (.slice (some ⟨g, 0, none⟩) (vs.length + 1) cap) (vs.length + 1) (vs ++ [u])) (hgrow : w.grownBy w' v.ownBlock) (hat : v.ownBlock = some g ∨ g = w.heap.size) :
    GridB w' B (.slice (some ⟨g, 0, none⟩) (vs.length + 1) cap) (vs ++ [u]) (rows ++ [xs]) ∧ Below B w w' := by
  have hbl : Below B w w' := (Below.refl B w).grown hgrow (Nat.le_trans hBN hN) (fun q hq => (hG.inS q hq).1)
  refine ⟨GridA.mono (hG.push hu (fun k h1 h2 => by omega) hown hgrow hat) fun k hk hl => ⟨?_, hl⟩, hbl⟩
  rcases hk with h | h | h
  · exact h.1
  · omega
  · omega
section
variable {ops : Array Oper} {rest : List Oper} {o : Oper} {a : Act} {Q : Exit → Act → World → Prop}
theorem wpList_pushG (hgd : o.guard = none) (s x : Operand) (ho : o.op = .call { callee := .builtin .append, args := #[s, x], argTypes := #[22, 22] }) (w : World) (B N : Nat) (v : Value) (vs : List Value) (rows : List (List Int)) (b c : Nat) (A2 : Option Addr) (n2 c2 : Nat) (xs : List Int)
    (hs : a.eval s = v) (hG : GridA w tI tR (fun q => B ≤ q ∧ q < N) v vs rows) (hx : a.eval x = .slice (some ⟨b, 0, none⟩) 1 c) (hc : w.cell? ⟨b, 0, none⟩ = some (.slice A2 n2 c2)) (hu : OwR w tI (fun q => N ≤ q ∧ q < w.heap.size) (.slice A2 n2 c2) xs) (hBN : B ≤ N) (hN : N ≤ w.heap.size) (hn : rows.length + 1 ≤ 1000000)
    (h : ∀ v' vs' w', GridB w' B v' vs' (rows ++ [xs]) → Below B w w' → wpList Tryd.prog ops Q rest (a.put o.dst v') w') : wpList Tryd.prog ops Q (o :: rest) a w := by
  obtain ⟨i0, hi0, hz0, hz1, hz2⟩ := info_parts infoR
  refine wpList_append_lies w hgd s x _ ho 0 tR i0 _ 1 24 Tryd.underlying22 hi0 hz0 hz1 hz2 rfl (by omega) v vs.length vs hs hG.outer ⟨b, 0, none⟩ 1 c [.slice A2 n2 c2] hx rfl (fun j u hj => ?_) (fun u hu => ?_) (by omega) (by rw [hG.len]; unfold maxLen; omega) (by rw [hG.len]; omega) (Nat.zero_le _) _ rfl (fun g cap w' hown hgrow hat _ => ?_)
  · match j, hj with
    | 0, hj =>
      simp at hj
      subst hj
      simpa [Addr.add] using hc
  · simp at hu
    subst hu
    rfl
  · obtain ⟨h1, h2⟩ := pushG_next hG hu hBN hN hown hgrow hat
    exact h _ _ w' h1 h2
theorem step_pushG {K : Act → World → Prop} {E : Prop} (hgd : o.guard = none) (s x : Operand) (ho : o.op = .call { callee := .builtin .append, args := #[s, x], argTypes := #[22, 22] }) (w : World) (B N : Nat) (v : Value) (vs : List Value) (rows : List (List Int)) (b c : Nat) (A2 : Option Addr) (n2 c2 : Nat) (xs : List Int)
    (hs : a.eval s = v) (hG : GridA w tI tR (fun q => B ≤ q ∧ q < N) v vs rows) (hx : a.eval x = .slice (some ⟨b, 0, none⟩) 1 c) (hc : w.cell? ⟨b, 0, none⟩ = some (.slice A2 n2 c2)) (hu : OwR w tI (fun q => N ≤ q ∧ q < w.heap.size) (.slice A2 n2 c2) xs) (hBN : B ≤ N) (hN : N ≤ w.heap.size) (hn : rows.length + 1 ≤ 1000000)
    (h : ∀ v' vs' w', GridB w' B v' vs' (rows ++ [xs]) → Below B w w' → K (a.put o.dst v') w') : if Region.wanted o (yielded ops a.tmps) = true then Oper.wp Tryd.prog o a w K Q else E := by
  obtain ⟨i0, hi0, hz0, hz1, hz2⟩ := info_parts infoR
  refine step_append_lies w hgd s x _ ho 0 tR i0 _ 1 24 Tryd.underlying22 hi0 hz0 hz1 hz2 rfl (by omega) v vs.length vs hs hG.outer ⟨b, 0, none⟩ 1 c [.slice A2 n2 c2] hx rfl (fun j u hj => ?_) (fun u hu => ?_) (by omega) (by rw [hG.len]; unfold maxLen; omega) (by rw [hG.len]; omega) (Nat.zero_le _) _ rfl (fun g cap w' hown hgrow hat _ => ?_)
  · match j, hj with
    | 0, hj =>
      simp at hj
      subst hj
      simpa [Addr.add] using hc
  · simp at hu
    subst hu
    rfl
  · obtain ⟨h1, h2⟩ := pushG_next hG hu hBN hN hown hgrow hat
    exact h _ _ w' h1 h2
end
end Go.Proofs.YtdjgkcnhmfkjoaaDoor
