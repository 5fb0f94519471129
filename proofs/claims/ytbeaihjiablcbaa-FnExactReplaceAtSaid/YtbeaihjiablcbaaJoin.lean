/- Rows joined: grids that share their rows with the arguments. -/
import Derived.Test.YtbeaihjiablcbaaVecF
import Derived.Lib.AppendZeros
import Derived.Laws.OwnMore
namespace Go.Proofs.Ytbeaihjiablcbaa
set_option maxRecDepth 100000
open Go Go.RowKit Go.Deep

/-- An append of nothing. -/
theorem run_append_zero {P : Program} {w : World} (base : Nat) (t ty e : TypeId) (i : TypeInfo) (size : Nat) (ht : P.underlying t = some (.slice e)) (hi : P.info? e = some i)
    (v : Value) (n : Nat) (xs : List Value) (hown : w.ownsRow base e size v n xs) (A : Option Addr) (c : Nat) :
    (Builtin.append_ #[t, t] ty #[v, .slice A 0 c]).run P w = .ok v w := by
  rcases hown.2 with ⟨rfl, rfl⟩ | ⟨g, cap, cur, rfl, _, _, hnc, _⟩
  · cases A <;> simp [Builtin.append_, run_underlying ht, sizeOf, typeInfo, hi, Builtin.lenOf, Builtin.firstCells, loadCells, loadCellsFrom]
  · cases A <;> simp [Builtin.append_, run_underlying ht, sizeOf, typeInfo, hi, Builtin.lenOf, Builtin.firstCells, hnc, loadCells, loadCellsFrom, storeCells]
theorem getD_app_l {α : Type} (xs ys : List α) (d : α) {i : Nat} (h : i < xs.length) : (xs ++ ys).getD i d = xs.getD i d := by
  rw [List.getD_eq_getElem?_getD, List.getD_eq_getElem?_getD, List.getElem?_append_left h]
theorem getD_app_r {α : Type} (xs ys : List α) (d : α) {i : Nat} (h : xs.length ≤ i) : (xs ++ ys).getD i d = ys.getD (i - xs.length) d := by
  rw [List.getD_eq_getElem?_getD, List.getD_eq_getElem?_getD, List.getElem?_append_right h]
/-- The values of a grid's rows. -/
def rowVals (w : World) (b o n : Nat) : List Value := (List.range n).map fun r => (w.cell? ⟨b, o + r, none⟩).getD .nilFunc
theorem rowVals_len (w : World) (b o n : Nat) : (rowVals w b o n).length = n := by simp [rowVals]
theorem rowVals_get {w : World} {b o n r : Nat} {u : Value} (hr : r < n) (h : w.cell? ⟨b, o + r, none⟩ = some u) : (rowVals w b o n).getD r .nilFunc = u := by
  unfold rowVals
  rw [List.getD_eq_getElem?_getD]
  simp [hr, h]
/-- A row of slices of one's own that read as rows of another. -/
structure JoinA (w : World) (B : Nat) (v : Value) (vs : List Value) (rows : List (List Int)) : Prop where
  outer : w.ownsRow B tR 1 v vs.length vs
  len : vs.length = rows.length
  row : ∀ r, r < rows.length → RdS w (fun b => b < B) (vs.getD r .nilFunc) (rows.getD r [])
theorem JoinA.empty (w : World) (B : Nat) (hB : B ≤ w.heap.size) : JoinA (w.alloc (.cells #[] tR)) B (.slice (some ⟨w.heap.size, 0, none⟩) 0 0) [] [] := ⟨World.ownsRow_lit (base := B) (size := 1) w #[] 0 hB (by unfold maxLen; omega) rfl, rfl, fun _ h => absurd h (Nat.not_lt_zero _)⟩
theorem JoinA.read {w : World} {B : Nat} {v : Value} {vs : List Value} {rows : List (List Int)} (h : JoinA w B v vs rows) (hB : B ≤ w.heap.size) : RdG w w.heap.size v rows := by
  have hl := h.len
  rcases h.outer.2 with ⟨rfl, h0⟩ | ⟨g, cap, cur, rfl, hg, hb, hnc, hc, hs, ht⟩
  · rw [hl] at h0
    exact ⟨none, 0, by rw [h0], by omega, fun r hr => absurd hr (by omega)⟩
  · refine ⟨_, cap, by rw [hl], by omega, fun r hr => ?_⟩
    have hlt : g < w.heap.size := (Array.getElem?_eq_some_iff.1 hb).1
    refine ⟨g, 0, vs.getD r .nilFunc, rfl, hlt, ?_, (h.row r hr).mono (fun b hb => Nat.lt_of_lt_of_le hb hB)⟩
    rw [Nat.zero_add, cell_of_row w g r cur tR (0, 0) hb]
    have h2 : vs.getD r .nilFunc = vs[r]'(by omega) := by rw [List.getD_eq_getElem?_getD, List.getElem?_eq_getElem (by omega)]; rfl
    have h3 : cur.toList[r]? = vs[r]? := by
      have h4 : (cur.toList.take (vs.length * 1))[r]? = cur.toList[r]? := by rw [List.getElem?_take, if_pos (by omega)]
      rw [← h4, ht]
    rw [h2, ← Array.getElem?_toList, h3, List.getElem?_eq_getElem (by omega)]
end Go.Proofs.Ytbeaihjiablcbaa
