/- SpRow SpHelp SpSpan in one text. -/
import Derived.Test.YthnhholeaiojjaaDoorMem
import Derived.Test.YthnhholeaiojjaaDoorMath
import Derived.Test.YthnhholeaiojjaaDoorMxB
import Derived.StillTailTactics
import Derived.Test.YthnhholeaiojjaaDoorRdA
import Derived.Deep.RegionLaw
import Derived.Deep.CutRange
/-! The model's operations on rows, and its copy of a matrix. -/
namespace Go.Proofs.YthnhholeaiojjaaDoor
set_option maxRecDepth 100000
open Go Go.RowKit Go.Deep

theorem less_eq {p k x y : Int} (hk0 : 0 < k) (hk1 : k < p) : (x + p - k * y % p) % p = (x + (p - k) % p * y) % p := by
  obtain ⟨q, hq⟩ := div_mod p (k * y)
  rw [Int.emod_eq_of_lt (a := p - k) (by omega) (by omega), hq]
  rw [show x + p - (k * y + p * q) = (x + (p - k) * y) + p * (1 - q - y) by grind, Int.add_mul_emod_self_left]
theorem less_eq2 {p k x y : Int} (hk0 : 0 < k) (hk1 : k < p) : (x + p - k * y) % p = (x + (p - k) % p * y) % p := by
  rw [Int.emod_eq_of_lt (a := p - k) (by omega) (by omega)]
  rw [show x + p - k * y = (x + (p - k) * y) + p * (1 - y) by grind, Int.add_mul_emod_self_left]
end Go.Proofs.YthnhholeaiojjaaDoor

/-! One row of a grid changed element by element; the first rows of a grid; the room of a grid that grew. -/
namespace Go.Proofs.YthnhholeaiojjaaDoor
open Go Go.RowKit Go.Deep

/-- Row r with its first k elements changed. -/
def rowS (rows : List (List Int)) (r : Nat) (g : Nat → Int → Int) (k : Nat) : List (List Int) := rows.set r (upd g k (rows.getD r []))
section
variable {rows : List (List Int)} {r k : Nat} {g : Nat → Int → Int}
theorem rowS_len : (rowS rows r g k).length = rows.length := by simp [rowS]
theorem rowS_at (h : r < rows.length) : (rowS rows r g k).getD r [] = upd g k (rows.getD r []) := by
  unfold rowS
  rw [set_getD _ _ _ _ _ h, if_pos rfl]
theorem rowS_ne {m : Nat} (h : r < rows.length) (hm : m ≠ r) : (rowS rows r g k).getD m [] = rows.getD m [] := by
  unfold rowS
  rw [set_getD _ _ _ _ _ h, if_neg (fun e => hm e.symm)]
theorem rowS_zero (h : r < rows.length) : rowS rows r g 0 = rows := by
  unfold rowS
  rw [upd_zero]
  refine ext_getD [] (by simp) fun j _ => ?_
  rw [set_getD _ _ _ _ _ h]
  split
  · rename_i e; rw [e]
  · rfl
theorem rowS_end (hk : (rows.getD r []).length ≤ k) : rowS rows r g k = rows.set r ((rows.getD r []).mapIdx g) := by
  unfold rowS
  rw [upd_all _ hk]
theorem rowS_next (h : r < rows.length) (hk : k < (rows.getD r []).length) : (rowS rows r g k).set r (((rowS rows r g k).getD r []).set k (g k ((rows.getD r []).getD k 0))) = rowS rows r g (k + 1) := by
  rw [rowS_at h, upd_step _ hk 0]
  unfold rowS
  rw [List.set_set]
theorem rowS_el (h : r < rows.length) : ((rowS rows r g k).getD r []).getD k 0 = (rows.getD r []).getD k 0 := by
  rw [rowS_at h, upd_getD _ (Nat.le_refl k)]
theorem rowS_rowlen (h : r < rows.length) : ((rowS rows r g k).getD r []).length = (rows.getD r []).length := by rw [rowS_at h, upd_len]
end
/-- The first rows of a grid. -/
theorem OwG.take {w : World} {ti ts : TypeId} {S : Nat → Prop} {A : Option Addr} {n c : Nat} {rows : List (List Int)} (h : OwG w ti ts S (.slice A n c) rows) {r : Nat} (hr : r ≤ rows.length) : OwG w ti ts S (.slice A r c) (rows.take r) := by
  obtain ⟨A', c', e, kc_cp, h⟩ := h
  obtain ⟨rfl, rfl, rfl⟩ := sliceEq e
  have hl : (rows.take r).length = r := by rw [List.length_take]; omega
  refine ⟨A, c, by rw [hl], by rw [hl]; omega, ?_⟩
  rcases h with h | ⟨g, vs, e2, h⟩
  · left
    rw [h, List.take_nil]
  · refine Or.inr ⟨g, vs.take r, e2, h.outer.take r, h.inS, by rw [List.length_take, hl, h.len]; omega, fun i hi => ?_, fun i hi hx => ?_, fun i j hi hj hij hxi hxj => ?_⟩
    · rw [hl] at hi
      rw [take_getD _ hi, take_getD _ hi]
      exact h.row i (by omega)
    · rw [hl] at hi
      rw [take_getD _ hi] at hx ⊢
      exact h.off i (by omega) hx
    · rw [hl] at hi hj
      rw [take_getD _ hi] at hxi ⊢
      rw [take_getD _ hj] at hxj ⊢
      exact h.apart i j (by omega) (by omega) hij hxi hxj
theorem OwG.cap {w : World} {ti ts : TypeId} {S : Nat → Prop} {A : Option Addr} {n c : Nat} {rows : List (List Int)} (h : OwG w ti ts S (.slice A n c) rows) (c2 : Nat) (kc_c2 : rows.length ≤ c2) : OwG w ti ts S (.slice A n c2) rows := by
  obtain ⟨A', c', e, kc_cp, h⟩ := h
  obtain ⟨rfl, rfl, rfl⟩ := sliceEq e
  exact ⟨A, c2, rfl, kc_c2, h⟩
/-- A grid that grew by append: its slice, with room. -/
theorem GridA.room {w : World} {ti ts : TypeId} {S : Nat → Prop} {v : Value} {vs : List Value} {rows : List (List Int)} (h : GridA w ti ts S v vs rows) : ∃ A c, v = .slice A rows.length c ∧ rows.length ≤ c ∧ c ≤ maxLen := by
  rcases h.outer.2 with ⟨rfl, h0⟩ | ⟨g, cap, cur, hv, _, _, hc, hm, _⟩
  · exact ⟨none, 0, by rw [← h.len, h0], by rw [← h.len, h0]; exact Nat.le_refl _, Nat.zero_le _⟩
  · exact ⟨_, cap, by rw [hv, h.len], by rw [← h.len]; exact hc, hm⟩
theorem scale_mapIdx (p k : Int) (r : List Int) : r.mapIdx (fun _ x => k * x % p) = scale p k r := rfl
theorem axpy_mapIdx (p k : Int) (r s : List Int) : r.mapIdx (fun j x => (x + k * s.getD j 0) % p) = axpy p r k s := rfl
end Go.Proofs.YthnhholeaiojjaaDoor

/-! The model's reduced basis of a span. -/
namespace Go.Proofs.YthnhholeaiojjaaDoor
open Go Go.RowKit Go.Deep

end Go.Proofs.YthnhholeaiojjaaDoor
