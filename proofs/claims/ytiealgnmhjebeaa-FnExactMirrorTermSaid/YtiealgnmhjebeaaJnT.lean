/- SeqTerm, ParTerm: two terms joined: the program and the model. -/
import Derived.Test.YtiealgnmhjebeaaApT
import Derived.Test.YtiealgnmhjebeaaCkT
import Derived.Test.YtiealgnmhjebeaaRetTermB
namespace Go.Proofs.Ytiealgnmhjebeaa
set_option maxRecDepth 100000
open Go Go.RowKit Go.Deep

def jnOk (k : Int) (x y : List Nd) : Bool := tyOk x && tyOk y && tyOk (x ++ (y ++ [jointN k]))
def jnL (k : Int) (x y : List Nd) : List Nd := if jnOk k x y = true then x ++ (y ++ [jointN k]) else []
theorem jn_some {k : Int} {x y : List Nd} {A C : Tr} (hk : k = 15 ∨ k = 16) (ha : treeOf x = some A) (hc : treeOf y = some C) : jnOk k x y = (decide (x.length + y.length + 1 ≤ 400) && (joinT k A C).isSome) := by
  unfold jnOk tyOk
  rw [ha, hc, join_tree ha hc hk]
  by_cases h : x.length + y.length + 1 ≤ 400
  · rw [if_pos h, decide_eq_true h]
    rfl
  · rw [if_neg h, decide_eq_false h]
    rfl
theorem jn_nodes {k : Int} {A C t : Tr} (hk : k = 15 ∨ k = 16) (h : joinT k A C = some t) : nodesOf t = nodesOf A ++ (nodesOf C ++ [jointN k]) := by
  unfold joinT at h
  rcases hk with rfl | rfl
  · rw [if_pos rfl] at h
    split at h
    · obtain rfl := Option.some.inj h
      rfl
    · cases h
  · rw [if_neg (by decide)] at h
    split at h
    · obtain rfl := Option.some.inj h
      rfl
    · cases h
theorem LfN.join {w : World} {B : Nat} {v va vb : Value} {k : Int} {x y : List Nd} {B1 B2 : Nat} {w1 w2 : World} (hx : LfN w1 B1 va x) (hy : LfN w2 B2 vb y) (hl : x.length + y.length + 1 ≤ 9223372036854775807) (h : RdN w (fun b => b < B) v (x ++ (y ++ [jointN k]))) : LfN w B v (x ++ (y ++ [jointN k])) := by
  refine ⟨h, by simp; omega, fun j hj => ?_⟩
  by_cases h1 : j < x.length
  · rw [List.getD_eq_getElem?_getD, List.getElem?_append_left h1, ← List.getD_eq_getElem?_getD]
    exact hx.2.2 j h1
  · rw [List.getD_eq_getElem?_getD, List.getElem?_append_right (by omega)]
    by_cases h2 : j - x.length < y.length
    · rw [List.getElem?_append_left h2, ← List.getD_eq_getElem?_getD]
      exact hy.2.2 _ h2
    · rw [List.getElem?_append_right (by omega)]
      have h3 : j - x.length - y.length = 0 := by simp at hj; omega
      rw [h3]
      exact Nat.zero_le _
theorem OwnN.join {w : World} {S : Nat → Prop} {v : Value} {k : Int} {x y : List Nd} (h : OwN w S v (x ++ (y ++ [jointN k]))) (hl : x.length + y.length + 1 ≤ 400) {B1 B2 : Nat} {w1 w2 : World} {va vb : Value} (hx : LfN w1 B1 va x) (hy : LfN w2 B2 vb y) : OwnN w S v (x ++ (y ++ [jointN k])) := by
  have h2 := LfN.join (k := k) hx hy (by omega) h.readB
  exact ⟨h, by unfold cntN; simp; omega, h2.2.2⟩
theorem ownN_nil' (w : World) (S : Nat → Prop) : OwnN w S (.slice none 0 0) [] := ⟨⟨none, 0, rfl, Nat.le_refl _, Or.inl rfl⟩, Nat.zero_le _, fun k hk => absurd hk (Nat.not_lt_zero k)⟩
end Go.Proofs.Ytiealgnmhjebeaa
