/- mapRows: what a function makes of each row; the function by its contract. -/
import Derived.Test.YtdcgoeapgboclaaJoin
namespace Go.Proofs.Ytdcgoeapgboclaa
set_option maxRecDepth 100000
open Go Go.RowKit Go.Deep

theorem rdS_len {w : World} {S : Nat → Prop} {v : Value} {xs : List Int} (h : RdS w S v xs) : ∃ A c, v = .slice A xs.length c := by
  obtain ⟨A, c, e, _⟩ := h
  exact ⟨A, c, e⟩
/-- A block of slices of one's own; the first k of them read as rows, in other blocks. -/
structure MapAt (w : World) (g : Nat) (vs : List Value) (rows : List (List Int)) (k : Nat) : Prop where
  outer : CellsAt w g tR vs
  len : vs.length = rows.length
  row : ∀ j, j < k → RdS w (fun b => b ≠ g ∧ b < w.heap.size) (vs.getD j .nilFunc) (rows.getD j [])
theorem MapAt.below {w w' : World} {g : Nat} {vs : List Value} {rows : List (List Int)} {k : Nat} (h : MapAt w g vs rows k) (hb : Below w.heap.size w w') : MapAt w' g vs rows k :=
  ⟨h.outer.below hb h.outer.lt, h.len, fun j hj => ((h.row j hj).blocks (w' := w') fun _ hq => hb.block _ hq.2).mono fun _ hq => ⟨hq.1, Nat.lt_of_lt_of_le hq.2 hb.size⟩⟩
theorem MapAt.put {w : World} {g : Nat} {vs : List Value} {rows : List (List Int)} {k : Nat} (h : MapAt w g vs rows k) (hk : k < rows.length) {u : Value} (hu : RdS w (fun b => b ≠ g ∧ b < w.heap.size) u (rows.getD k [])) :
    MapAt (w.setCell ⟨g, k, none⟩ u) g (vs.set k u) rows (k + 1) := by
  have hkv : k < vs.length := by rw [h.len]; exact hk
  have tr : ∀ {v : Value} {xs : List Int}, RdS w (fun b => b ≠ g ∧ b < w.heap.size) v xs → RdS (w.setCell ⟨g, k, none⟩ u) (fun b => b ≠ g ∧ b < (w.setCell ⟨g, k, none⟩ u).heap.size) v xs := fun hv =>
    (hv.blocks (w' := w.setCell ⟨g, k, none⟩ u) fun q hq => blk_setCell_other _ _ _ _ hq.1).mono fun q hq => ⟨hq.1, by rw [nblk_setCell]; exact hq.2⟩
  refine ⟨h.outer.set k u, by rw [List.length_set, h.len], fun j hj => ?_⟩
  rw [set_getD _ _ _ _ _ hkv]
  by_cases c : k = j
  · rw [if_pos c, ← c]
    exact tr hu
  · rw [if_neg c]
    exact tr (h.row j (by omega))
theorem MapAt.read {w : World} {g : Nat} {vs : List Value} {rows : List (List Int)} (h : MapAt w g vs rows rows.length) (c : Nat) (hc : rows.length ≤ c) : RdG w w.heap.size (.slice (some ⟨g, 0, none⟩) rows.length c) rows :=
  ⟨_, c, rfl, hc, fun r hr => ⟨g, 0, vs.getD r .nilFunc, rfl, h.outer.lt, by
    rw [Nat.zero_add, h.outer.cell (by rw [h.len]; exact hr)]
    exact getD_some (by rw [h.len]; exact hr) _, (h.row r hr).mono fun q hq => hq.2⟩⟩
/-- New rows that can be read. -/
def MapB (w : World) (rows : List (List Int)) (e : Ending) (w' : World) : Prop := ∃ v, e = .returned v ∧ Below w.heap.size w w' ∧ RdG w' w'.heap.size v rows
/-- A part of a row, or a new row, off the block g. -/
def PartB (w : World) (g : Nat) (xs : List Int) (e : Ending) (w' : World) : Prop := ∃ v, e = .returned v ∧ Below w.heap.size w w' ∧ RdS w' (fun b => b ≠ g ∧ b < w'.heap.size) v xs
end Go.Proofs.Ytdcgoeapgboclaa
