/- The parts of a pair: first, second, exchanged. -/
import Derived.Test.YtiiloioobmkicaaMapR
import Derived.Test.YtiiloioobmkicaaRowCat
import Derived.Test.YtiiloioobmkicaaSpanF
import Derived.Test.YtiiloioobmkicaaMath
namespace Go.Proofs.Ytiiloioobmkicaa
set_option maxRecDepth 100000
open Go Go.RowKit Go.Deep

theorem rdS_take {w : World} {S : Nat → Prop} {A : Option Addr} {n c l : Nat} {xs : List Int} (h : RdS w S (.slice A n c) xs) (hl : l ≤ xs.length) : RdS w S (.slice A l c) (xs.take l) := by
  obtain ⟨A', c', e, kc, h⟩ := h
  obtain ⟨rfl, -, rfl⟩ := sliceEq e
  have hlen : (xs.take l).length = l := by rw [List.length_take]; omega
  refine ⟨A, c, by rw [hlen], by omega, fun k hk => ?_⟩
  rw [hlen] at hk
  obtain ⟨b, o, e2, hs, hc⟩ := h k (by omega)
  refine ⟨b, o, e2, hs, ?_⟩
  have : (xs.take l).getD k 0 = xs.getD k 0 := by rw [List.getD_eq_getElem?_getD, List.getD_eq_getElem?_getD, List.getElem?_take_of_lt hk]
  rw [this]
  exact hc
theorem rdS_drop {w : World} {S : Nat → Prop} {A : Option Addr} {n c l : Nat} {xs : List Int} (h : RdS w S (.slice A n c) xs) (hl : l ≤ xs.length) : RdS w S (.slice (A.map (·.add l)) (xs.length - l) (c - l)) (xs.drop l) := by
  obtain ⟨A', c', e, kc, h⟩ := h
  obtain ⟨rfl, -, rfl⟩ := sliceEq e
  refine ⟨_, c - l, by rw [List.length_drop], by rw [List.length_drop]; omega, fun k hk => ?_⟩
  rw [List.length_drop] at hk
  obtain ⟨b, o, rfl, hs, hc⟩ := h (l + k) (by omega)
  refine ⟨b, o + l, by simp [Addr.add], hs, ?_⟩
  have : (xs.drop l).getD k 0 = xs.getD (l + k) 0 := by rw [List.getD_eq_getElem?_getD, List.getD_eq_getElem?_getD, List.getElem?_drop]
  rw [this, Nat.add_assoc]
  exact hc
theorem rdS_none {w : World} {S : Nat → Prop} {A : Option Addr} {c : Nat} {xs : List Int} (h : xs = []) : RdS w S (.slice A 0 c) xs := by
  subst h
  exact ⟨A, c, rfl, Nat.zero_le c, fun k hk => absurd hk (Nat.not_lt_zero k)⟩
theorem rows_len' {p : Int} {n c : Nat} {R : List (List Int)} (h : Mat p n c R) {l : Nat} (hl : l ≤ c) : ∀ j, j < R.length → l ≤ (R.getD j []).length := fun j hj => by
  rw [(h.row (by rw [← h.1]; exact hj)).1]
  exact hl
end Go.Proofs.Ytiiloioobmkicaa
