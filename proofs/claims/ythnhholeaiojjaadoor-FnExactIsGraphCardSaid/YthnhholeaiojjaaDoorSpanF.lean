/- Spans and relations from rows: both sides. -/
import Derived.Test.YthnhholeaiojjaaDoorSpA
import Derived.Test.YthnhholeaiojjaaDoorRdList
import Derived.Test.YthnhholeaiojjaaDoorRetSpaceB
import Derived.Test.YthnhholeaiojjaaDoorRetRelationB
namespace Go.Proofs.YthnhholeaiojjaaDoor
set_option maxRecDepth 100000
open Go Go.RowKit Go.Deep

theorem rows_bad {p n : Int} {rows : List (List Int)} {j : Nat} (hj : j < rows.length) (h : rowB p n (rows.getD j []) = false) : rows.all (rowB p n) = false := by
  cases e : rows.all (rowB p n) with
  | false => rfl
  | true =>
    have := List.all_eq_true.1 e _ (getD_mem' hj [])
    rw [h] at this
    cases this
theorem rows_good {p n : Int} {rows : List (List Int)} (h : ∀ j, j < rows.length → rowB p n (rows.getD j []) = true) : rows.all (rowB p n) = true := by
  refine List.all_eq_true.2 fun r hr => ?_
  obtain ⟨i, hi, rfl⟩ := List.getElem_of_mem hr
  have := h i hi
  rwa [List.getD_eq_getElem?_getD, List.getElem?_eq_getElem hi] at this
theorem rows_mat {p : Int} {c : Nat} {rows : List (List Int)} (h : rows.all (rowB p c) = true) : Mat p rows.length c rows := by
  refine ⟨rfl, fun r hr => ?_⟩
  have h2 := List.all_eq_true.1 h r hr
  unfold rowB at h2
  simp only [Bool.and_eq_true, decide_eq_true_eq, List.all_eq_true, el_iff] at h2
  exact ⟨by omega, h2.2⟩
theorem areL_rows (p n : Int) (rows : List (List Int)) (hf : fld p = true) : areL p n rows = rows.all (rowB p n) := by unfold areL; rw [hf]; rfl
theorem mat_sz {p : Int} {n c : Nat} {m : List (List Int)} (hn : n ≤ 24) (hc : c ≤ 24) (h : Mat p n c m) : szG m ≤ 1099511627776 := by
  have h3 : tot m = n * c := by rw [tot_const (c := c) (fun r hr => (h.2 r hr).1), h.1]
  have h4 : n * c ≤ 24 * 24 := Nat.mul_le_mul hn hc
  unfold szG
  rw [h3, h.1]
  omega
theorem rref_sz {p : Int} (hf : fld p = true) {n c : Nat} {rows : List (List Int)} (hc : c ≤ 24) (h : Mat p n c rows) : szG (rref p rows c) ≤ 1099511627776 := by
  have h2 := rref_mat hf h
  have h3 := rref_le hf h
  exact mat_sz (by omega) hc h2

/-- SpanOf: whether it succeeds, and what it returns. -/
def spanOk (p n : Int) (rows : List (List Int)) : Bool := fld p && decide (0 ≤ n) && decide (n ≤ 24) && decide (rows.length ≤ 48) && rows.all (rowB p n)
def spanC (p n : Int) (rows : List (List Int)) : Int := if spanOk p n rows then n else 0
def spanR (p n : Int) (rows : List (List Int)) : List (List Int) := if spanOk p n rows then rref p rows n.toNat else []
theorem span_no {p n : Int} {rows : List (List Int)} (h : spanOk p n rows = false) : spanC p n rows = 0 ∧ spanR p n rows = [] := by simp [spanC, spanR, h]
theorem span_yes {p : Int} {c : Nat} {rows : List (List Int)} (h : spanOk p c rows = true) : spanC p c rows = c ∧ spanR p c rows = rref p rows c := by simp [spanC, spanR, h]
/-- RelationFrom. -/
def relOk (p l r : Int) (rows : List (List Int)) : Bool := fld p && decide (0 ≤ l) && decide (0 ≤ r) && decide (r ≤ 24 - l) && decide (rows.length ≤ 48) && rows.all (rowB p (l + r))
def relL (p l r : Int) (rows : List (List Int)) : Int := if relOk p l r rows then l else 0
def relG (p l r : Int) (rows : List (List Int)) : Int := if relOk p l r rows then r else 0
def relR (p l r : Int) (rows : List (List Int)) : List (List Int) := if relOk p l r rows then rref p rows (l + r).toNat else []
theorem rel_no {p l r : Int} {rows : List (List Int)} (h : relOk p l r rows = false) : relL p l r rows = 0 ∧ relG p l r rows = 0 ∧ relR p l r rows = [] := by simp [relL, relG, relR, h]
theorem rel_yes {p : Int} {l r : Nat} {rows : List (List Int)} (h : relOk p l r rows = true) : relL p l r rows = l ∧ relG p l r rows = r ∧ relR p l r rows = rref p rows (l + r) := by
  refine ⟨by simp [relL, h], by simp [relG, h], ?_⟩
  unfold relR
  rw [if_pos h, show ((l : Int) + (r : Int)).toNat = l + r by omega]
def sidesB (l r : Int) : Bool := decide (0 ≤ l) && decide (0 ≤ r) && decide (r ≤ 24 - l)
theorem CellsAt.three {w : World} {b : Nat} {ty : TypeId} {v0 v1 v2 : Value} (h : CellsAt w b ty [v0, v1, v2]) : w.cell? ⟨b, 0, none⟩ = some v0 ∧ w.cell? ⟨b, 1, none⟩ = some v1 ∧ w.cell? ⟨b, 2, none⟩ = some v2 ∧ w.frozen? ⟨b, 0, none⟩ = false ∧ w.frozen? ⟨b, 1, none⟩ = false ∧ w.frozen? ⟨b, 2, none⟩ = false ∧ b < w.heap.size :=
  ⟨h.cell (i := 0) (by simp), h.cell (i := 1) (by simp), h.cell (i := 2) (by simp), h.frozen 0, h.frozen 1, h.frozen 2, h.lt⟩
/-- A call made a space. -/
def MadeSp (w : World) (c : Int) (rows : List (List Int)) (e : Ending) (w' : World) : Prop := ∃ v, e = .returned (.agg #[.int .i64 c, v]) ∧ Below w.heap.size w w' ∧ OwG w' tI tR (fun b => w.heap.size ≤ b) v rows
/-- A call made a relation. -/
def MadeRl (w : World) (l r : Int) (rows : List (List Int)) (e : Ending) (w' : World) : Prop := ∃ v, e = .returned (.agg #[.int .i64 l, .int .i64 r, v]) ∧ Below w.heap.size w w' ∧ OwG w' tI tR (fun b => w.heap.size ≤ b) v rows
end Go.Proofs.YthnhholeaiojjaaDoor
