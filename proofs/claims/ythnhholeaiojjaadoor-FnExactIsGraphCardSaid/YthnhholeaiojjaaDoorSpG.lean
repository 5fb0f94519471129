/- Whether a space is valid: the model's side. -/
import Derived.Test.YthnhholeaiojjaaDoorSpanF
namespace Go.Proofs.YthnhholeaiojjaaDoor
set_option maxRecDepth 100000
open Go Go.RowKit Go.Deep

/-- Whether a space is valid. -/
def isSp (p c : Int) (rows : List (List Int)) : Bool := fld p && decide (0 ≤ c) && decide (c ≤ 24) && decide ((rows.length : Int) ≤ c) && rows.all (rowB p c) && decide (rref p rows c.toNat = rows)
theorem isSp_no {p c : Int} {rows : List (List Int)} (h : fld p = false ∨ c < 0 ∨ 24 < c ∨ c < (rows.length : Int) ∨ rows.all (rowB p c) = false ∨ rref p rows c.toNat ≠ rows) : isSp p c rows = false := by
  cases e : isSp p c rows with
  | false => rfl
  | true =>
    unfold isSp at e
    simp only [Bool.and_eq_true, decide_eq_true_eq] at e
    obtain ⟨⟨⟨⟨⟨h1, h2⟩, h3⟩, h4⟩, h5⟩, h6⟩ := e
    rw [h1, h5] at h
    simp at h
    rcases h with h | h | h | h
    · omega
    · omega
    · omega
    · exact absurd h6 h
theorem isSp_parts {p c : Int} {rows : List (List Int)} (h : isSp p c rows = true) : fld p = true ∧ ∃ n : Nat, c = n ∧ n ≤ 24 ∧ rows.length ≤ n ∧ IsRed p rows.length n rows ∧ rref p rows n = rows := by
  unfold isSp at h
  simp only [Bool.and_eq_true, decide_eq_true_eq] at h
  obtain ⟨⟨⟨⟨⟨h1, h2⟩, h3⟩, h4⟩, h5⟩, h6⟩ := h
  obtain ⟨n, rfl⟩ : ∃ n : Nat, c = n := ⟨c.toNat, by omega⟩
  rw [Int.toNat_natCast] at h6
  exact ⟨h1, n, rfl, by omega, by omega, (rref_iff h1 (rows_mat h5)).1 h6, h6⟩
theorem isSp_yes {p : Int} {n : Nat} {rows : List (List Int)} (hf : fld p = true) (hn : n ≤ 24) (hl : rows.length ≤ n) (ha : rows.all (rowB p n) = true) (h : IsRed p rows.length n rows) : isSp p n rows = true := by
  unfold isSp
  simp only [Bool.and_eq_true, decide_eq_true_eq]
  refine ⟨⟨⟨⟨⟨hf, by omega⟩, by omega⟩, by omega⟩, ha⟩, ?_⟩
  rw [Int.toNat_natCast]
  exact rref_of_red hf h
theorem isSp_last {p : Int} {n : Nat} {rows : List (List Int)} (hf : fld p = true) (hn : n ≤ 24) (hl : rows.length ≤ n) (ha : rows.all (rowB p n) = true) : isSp p n rows = decide (rref p rows n = rows) := by
  unfold isSp
  rw [hf, ha, Int.toNat_natCast, show decide ((0 : Int) ≤ n) = true by simp, show decide ((n : Int) ≤ 24) = true by simp; omega, show decide ((rows.length : Int) ≤ n) = true by simp; omega]
  simp
end Go.Proofs.YthnhholeaiojjaaDoor
