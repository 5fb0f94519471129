/- One row of another's appended to rows of another's. -/
import Derived.Test.YtdjgkcnhmfkjoaaDoorJoin
namespace Go.Proofs.YtdjgkcnhmfkjoaaDoor
set_option maxRecDepth 100000
open Go Go.RowKit Go.Deep

theorem wpList_joinOne {ops : Array Oper} {rest : List Oper} {o : Oper} {a : Act} {Q : Exit → Act → World → Prop} (hgd : o.guard = none) (s x : Operand)
    (ho : o.op = .call { callee := .builtin .append, args := #[s, x], argTypes := #[22, 22] }) (w : World) (B : Nat) (v : Value) (vs : List Value) (rows : List (List Int)) (b c : Nat) (u : Value) (xs : List Int)
    (hs : a.eval s = v) (hJ : JoinA w B v vs rows) (hx : a.eval x = .slice (some ⟨b, 0, none⟩) 1 c) (hc : w.cell? ⟨b, 0, none⟩ = some u) (hu : RdS w (fun q => q < B) u xs) (hB : B ≤ w.heap.size) (hn : rows.length + 1 ≤ 1000000)
    (h : ∀ v' vs' w', JoinA w' B v' vs' (rows ++ [xs]) → Below B w w' → wpList Tryd.prog ops Q rest (a.put o.dst v') w') : wpList Tryd.prog ops Q (o :: rest) a w := by
  obtain ⟨i0, hi0, hz0, hz1, hz2⟩ := info_parts infoR
  obtain ⟨A2, c2, rfl, kc, hu'⟩ := hu
  have hu2 : RdS w (fun q => q < B) (.slice A2 xs.length c2) xs := ⟨A2, c2, rfl, kc, hu'⟩
  refine wpList_append_lies w hgd s x _ ho B tR i0 _ 1 24 Tryd.underlying22 hi0 hz0 hz1 hz2 rfl (by omega) v vs.length vs hs hJ.outer ⟨b, 0, none⟩ 1 c [.slice A2 xs.length c2] hx rfl (fun j u hj => ?_) (fun u hu => ?_) (by omega) (by rw [hJ.len]; unfold maxLen; omega) (by rw [hJ.len]; omega) hB _ rfl (fun g cap w' hown hgrow _ _ => ?_)
  · match j, hj with
    | 0, hj =>
      simp at hj
      subst hj
      simpa [Addr.add] using hc
  · simp at hu
    subst hu
    rfl
  · have hbl : Below B w w' := (Below.refl B w).grown hgrow hB (fun q hq => (World.ownsRow.lt hJ.outer q hq).1)
    refine h _ (vs ++ [.slice A2 xs.length c2]) w' ⟨by rw [List.length_append, List.length_singleton]; exact hown, by rw [List.length_append, List.length_append, hJ.len]; rfl, fun r hr => ?_⟩ hbl
    rw [List.length_append, List.length_singleton] at hr
    by_cases c1 : r < rows.length
    · rw [getD_app_l _ _ _ (by rw [hJ.len]; exact c1), getD_app_l _ _ _ c1]
      exact (hJ.row r c1).below hbl (Nat.le_refl _)
    · rw [getD_app_r _ _ _ (by rw [hJ.len]; omega), getD_app_r _ _ _ (by omega), hJ.len, show r - rows.length = 0 by omega]
      exact hu2.below hbl (Nat.le_refl _)
theorem JoinA.below {w w' : World} {B : Nat} {v : Value} {vs : List Value} {rows : List (List Int)} (h : JoinA w B v vs rows) (hb : Below w.heap.size w w') (hB : B ≤ w.heap.size) : JoinA w' B v vs rows := by
  refine ⟨ownsRow_of_block h.outer fun g _ hl => hb.block g hl, h.len, fun r hr => ?_⟩
  exact (h.row r hr).blocks fun q hq => hb.block q (Nat.lt_of_lt_of_le hq hB)
end Go.Proofs.YtdjgkcnhmfkjoaaDoor
