/- Rows joined: grids that share their rows with the arguments. -/
import Derived.Test.YtdcgoeapgboclaaRow
import Derived.Lib.AppendZeros
import Derived.Laws.OwnMore
namespace Go.Proofs.Ytdcgoeapgboclaa
set_option maxRecDepth 100000
open Go Go.RowKit Go.Deep

/-- An append of nothing. -/
theorem run_append_zero {P : Program} {w : World} (base : Nat) (t ty e : TypeId) (i : TypeInfo) (size : Nat) (ht : P.underlying t = some (.slice e)) (hi : P.info? e = some i)
    (v : Value) (n : Nat) (xs : List Value) (hown : w.ownsRow base e size v n xs) (A : Option Addr) (c : Nat) :
    (Builtin.append_ #[t, t] ty #[v, .slice A 0 c]).run P w = .ok v w := by
  rcases hown.2 with ⟨rfl, rfl⟩ | ⟨g, cap, cur, rfl, _, _, hnc, _⟩
  · cases A <;> simp [Builtin.append_, run_underlying ht, sizeOf, typeInfo, hi, Builtin.lenOf, Builtin.firstCells, loadCells, loadCellsFrom]
  · cases A <;> simp [Builtin.append_, run_underlying ht, sizeOf, typeInfo, hi, Builtin.lenOf, Builtin.firstCells, hnc, loadCells, loadCellsFrom, storeCells]
theorem getD_app_l {α : Type} (xs ys : List α) (d : α) {i : Nat} (h : i < xs.length) : (xs ++ ys).getD i d = xs.getD i d := by
  rw [List.getD_eq_getElem?_getD, List.getD_eq_getElem?_getD, List.getElem?_append_left h]
theorem getD_app_r {α : Type} (xs ys : List α) (d : α) {i : Nat} (h : xs.length ≤ i) : (xs ++ ys).getD i d = ys.getD (i - xs.length) d := by
  rw [List.getD_eq_getElem?_getD, List.getD_eq_getElem?_getD, List.getElem?_append_right h]
/-- The values of a grid's rows. -/
def rowVals (w : World) (b o n : Nat) : List Value := (List.range n).map fun r => (w.cell? ⟨b, o + r, none⟩).getD .nilFunc
theorem rowVals_len (w : World) (b o n : Nat) : (rowVals w b o n).length = n := by simp [rowVals]
theorem rowVals_get {w : World} {b o n r : Nat} {u : Value} (hr : r < n) (h : w.cell? ⟨b, o + r, none⟩ = some u) : (rowVals w b o n).getD r .nilFunc = u := by
  unfold rowVals
  rw [List.getD_eq_getElem?_getD]
  simp [hr, h]
/-- A row of slices of one's own that read as rows of another. -/
structure JoinA (w : World) (B : Nat) (v : Value) (vs : List Value) (rows : List (List Int)) : Prop where
  outer : w.ownsRow B tR 1 v vs.length vs
  len : vs.length = rows.length
  row : ∀ r, r < rows.length → RdS w (fun b => b < B) (vs.getD r .nilFunc) (rows.getD r [])
theorem JoinA.empty (w : World) (B : Nat) (hB : B ≤ w.heap.size) : JoinA (w.alloc (.cells #[] tR)) B (.slice (some ⟨w.heap.size, 0, none⟩) 0 0) [] [] := ⟨World.ownsRow_lit (base := B) (size := 1) w #[] 0 hB (by unfold maxLen; omega) rfl, rfl, fun _ h => absurd h (Nat.not_lt_zero _)⟩
theorem JoinA.read {w : World} {B : Nat} {v : Value} {vs : List Value} {rows : List (List Int)} (h : JoinA w B v vs rows) (hB : B ≤ w.heap.size) : RdG w w.heap.size v rows := by
  have hl := h.len
  rcases h.outer.2 with ⟨rfl, h0⟩ | ⟨g, cap, cur, rfl, hg, hb, hnc, hc, hs, ht⟩
  · rw [hl] at h0
    exact ⟨none, 0, by rw [h0], by omega, fun r hr => absurd hr (by omega)⟩
  · refine ⟨_, cap, by rw [hl], by omega, fun r hr => ?_⟩
    have hlt : g < w.heap.size := (Array.getElem?_eq_some_iff.1 hb).1
    refine ⟨g, 0, vs.getD r .nilFunc, rfl, hlt, ?_, (h.row r hr).mono (fun b hb => Nat.lt_of_lt_of_le hb hB)⟩
    rw [Nat.zero_add, cell_of_row w g r cur tR (0, 0) hb]
    have h2 : vs.getD r .nilFunc = vs[r]'(by omega) := by rw [List.getD_eq_getElem?_getD, List.getElem?_eq_getElem (by omega)]; rfl
    have h3 : cur.toList[r]? = vs[r]? := by
      have h4 : (cur.toList.take (vs.length * 1))[r]? = cur.toList[r]? := by rw [List.getElem?_take, if_pos (by omega)]
      rw [← h4, ht]
    rw [h2, ← Array.getElem?_toList, h3, List.getElem?_eq_getElem (by omega)]
/-- Rows appended to rows of another's. -/
theorem wpList_join {ops : Array Oper} {rest : List Oper} {o : Oper} {a : Act} {Q : Exit → Act → World → Prop} (hgd : o.guard = none) (s x : Operand)
    (ho : o.op = .call { callee := .builtin .append, args := #[s, x], argTypes := #[96, 96] }) (w : World) (B : Nat) (v : Value) (vs : List Value) (rows S : List (List Int)) (A : Option Addr) (c : Nat)
    (hs : a.eval s = v) (hJ : JoinA w B v vs rows) (hx : a.eval x = .slice A S.length c) (hS : RdG w B (.slice A S.length c) S) (hB : B ≤ w.heap.size) (hn : rows.length + S.length ≤ 1000000)
    (h : ∀ v' vs' w', JoinA w' B v' vs' (rows ++ S) → Below B w w' → wpList Try.prog ops Q rest (a.put o.dst v') w') : wpList Try.prog ops Q (o :: rest) a w := by
  obtain ⟨i0, hi0, hz0, hz1, hz2⟩ := info_parts infoR
  by_cases h0 : S.length = 0
  · rw [h0] at hx
    have e : S = [] := List.length_eq_zero_iff.1 h0
    exact Lib.wpList_append_run w hgd s x _ _ ho _ _ hs hx v w (run_append_zero B _ _ tR i0 1 Try.underlying96 hi0 v vs.length vs hJ.outer A c) (h v vs w (by rw [e, List.append_nil]; exact hJ) (Below.refl _ _))
  · obtain ⟨A', c', e, kc_cp, hS⟩ := hS
    obtain ⟨rfl, -, rfl⟩ := sliceEq e
    obtain ⟨b, o1, u0, rfl, hb, -, -⟩ := hS 0 (by omega)
    have hS2 : ∀ r, r < S.length → ∃ u, w.cell? ⟨b, o1 + r, none⟩ = some u ∧ (rowVals w b o1 S.length).getD r .nilFunc = u ∧ RdS w (fun b => b < B) u (S.getD r []) := fun r hr => by
      obtain ⟨b', o', u, e1, -, h2, h3⟩ := hS r hr
      obtain ⟨rfl, rfl⟩ : b = b' ∧ o1 = o' := by simpa using e1
      exact ⟨u, h2, rowVals_get hr h2, h3⟩
    have hlen := rowVals_len w b o1 S.length
    refine wpList_append_lies w hgd s x _ ho B tR i0 _ 1 24 Try.underlying96 hi0 hz0 hz1 hz2 rfl (by omega) v vs.length vs hs hJ.outer ⟨b, o1, none⟩ S.length c (rowVals w b o1 S.length) hx (by rw [hlen, Nat.mul_one]) (fun j u hj => ?_) (fun u hu => ?_) (by omega) (by rw [hJ.len]; unfold maxLen; omega) (by rw [hJ.len]; omega) hB w.heap.size rfl (fun g cap w' hown hgrow _ _ => ?_)
    · have hj' : j < S.length := by rw [← hlen]; exact (List.getElem?_eq_some_iff.1 hj).1
      obtain ⟨u', h1, h2, -⟩ := hS2 j hj'
      rw [List.getD_eq_getElem?_getD, hj] at h2
      have h3 : u = u' := h2
      subst h3
      have hadd : (⟨b, o1, none⟩ : Addr).add j = ⟨b, o1 + j, none⟩ := by unfold Addr.add; split <;> simp_all
      rw [hadd]
      exact h1
    · obtain ⟨j, hj, rfl⟩ := List.getElem_of_mem hu
      rw [hlen] at hj
      obtain ⟨u', h1, h2, A2, c2, rfl, kc_c2, -⟩ := hS2 j hj
      have h3 : (rowVals w b o1 S.length)[j] = .slice A2 (S.getD j []).length c2 := by rw [← h2, List.getD_eq_getElem?_getD, List.getElem?_eq_getElem (by rw [hlen]; exact hj)]; rfl
      rw [h3]
      rfl
    · have hbl : Below B w w' := (Below.refl B w).grown hgrow hB (fun q hq => (World.ownsRow.lt hJ.outer q hq).1)
      refine h _ (vs ++ rowVals w b o1 S.length) w' ⟨by rw [List.length_append, hlen]; exact hown, by rw [List.length_append, List.length_append, hJ.len, hlen], fun r hr => ?_⟩ hbl
      rw [List.length_append] at hr
      by_cases c1 : r < rows.length
      · rw [getD_app_l _ _ _ (by rw [hJ.len]; exact c1), getD_app_l _ _ _ c1]
        exact (hJ.row r c1).below hbl (Nat.le_refl _)
      · rw [getD_app_r _ _ _ (by rw [hJ.len]; omega), getD_app_r _ _ _ (by omega), hJ.len]
        obtain ⟨u', -, h2, h3⟩ := hS2 (r - rows.length) (by omega)
        rw [h2]
        exact h3.below hbl (Nat.le_refl _)
end Go.Proofs.Ytdcgoeapgboclaa
