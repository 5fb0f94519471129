/- Sums of matrices: both sides. -/
import Derived.Test.YtahlicbjbbpihaaDoorSlc
import Derived.Test.YtahlicbjbbpihaaDoorMxMul
import Derived.Test.YtahlicbjbbpihaaDoorRetMatrixB
import Derived.Test.YtahlicbjbbpihaaDoorMxTurn
import Derived.StillTailTactics
namespace Go.Proofs.YtahlicbjbbpihaaDoor
set_option maxRecDepth 100000
open Go Go.RowKit Go.Deep

def addOk (p ca cb : Int) (a b : List (List Int)) : Bool := isMat p ca a && isMat p cb b && decide (ca = cb) && decide ((a.length : Int) = (b.length : Int))
def addM (p : Int) (a b : List (List Int)) : List (List Int) := a.mapIdx fun r x => axpy p x 1 (b.getD r [])
def addOkC (p ca cb : Int) (a b : List (List Int)) : Int := if addOk p ca cb a b then ca else 0
def addOkR (p ca cb : Int) (a b : List (List Int)) : List (List Int) := if addOk p ca cb a b then addM p a b else []
def addOkB (p ca cb : Int) (a b : List (List Int)) : Bool := addOk p ca cb a b
theorem addM_mat {p : Int} (hp : 2 ≤ p) {n c : Nat} {a b : List (List Int)} (h : Mat p n c a) : Mat p n c (addM p a b) := by
  refine ⟨by simp [addM, h.1], fun r hr => ?_⟩
  obtain ⟨i, hi, rfl⟩ := List.getElem_of_mem hr
  simp only [addM, List.getElem_mapIdx]
  refine ⟨?_, axpy_bd hp⟩
  rw [axpy_len]
  exact (h.2 _ (List.getElem_mem _)).1
theorem addM_sz {p : Int} {n c : Nat} {m : List (List Int)} (hn : n ≤ 24) (hc : c ≤ 24) (h : Mat p n c m) : szG m ≤ 1099511627776 := by
  have h3 : tot m = n * c := by rw [tot_const (c := c) (fun r hr => (h.2 r hr).1), h.1]
  have h4 : n * c ≤ 24 * 24 := Nat.mul_le_mul hn hc
  unfold szG
  rw [h3, h.1]
  omega
/-- The model's sum, as it grows: the first k rows done. -/
def addS (p : Int) (c : Nat) (a b : List (List Int)) (k : Nat) : List (List Int) := upd (fun r _ => axpy p (a.getD r []) 1 (b.getD r [])) k (List.replicate a.length (List.replicate c 0))
def addIn (p : Int) (c : Nat) (a b : List (List Int)) (k j : Nat) : List (List Int) := (addS p c a b k).set k (upd (fun j _ => ((a.getD k []).getD j 0 + (b.getD k []).getD j 0) % p) j (List.replicate c 0))
theorem addS_len (p : Int) (c : Nat) (a b : List (List Int)) (k : Nat) : (addS p c a b k).length = a.length := by unfold addS; rw [upd_len, List.length_replicate]
theorem addS_row {p : Int} {c : Nat} {a b : List (List Int)} {k : Nat} (h : k < a.length) : (addS p c a b k).getD k [] = List.replicate c 0 := by
  unfold addS
  rw [upd_getD _ (Nat.le_refl k), repl_getD' _ _ _ _ h]
theorem addS_end {p : Int} {c : Nat} {a b : List (List Int)} {k : Nat} (h : a.length ≤ k) : addS p c a b k = addM p a b := by
  unfold addS addM
  rw [upd_all _ (by rw [List.length_replicate]; exact h)]
  refine ext_getD [] (by simp) fun i hi => ?_
  rw [List.length_mapIdx, List.length_replicate] at hi
  rw [mapIdx_getD _ _ _ (by simpa using hi) [], mapIdx_getD _ _ _ hi []]
theorem addIn_len (p : Int) (c : Nat) (a b : List (List Int)) (k j : Nat) : (addIn p c a b k j).length = a.length := by unfold addIn; rw [List.length_set, addS_len]
theorem addIn_row {p : Int} {c : Nat} {a b : List (List Int)} {k : Nat} (h : k < a.length) (j : Nat) : (addIn p c a b k j).getD k [] = upd (fun j _ => ((a.getD k []).getD j 0 + (b.getD k []).getD j 0) % p) j (List.replicate c 0) := by
  unfold addIn
  rw [set_getD _ _ _ _ _ (by rw [addS_len]; exact h), if_pos rfl]
theorem addIn_row_len {p : Int} {c : Nat} {a b : List (List Int)} {k : Nat} (h : k < a.length) (j : Nat) : ((addIn p c a b k j).getD k []).length = c := by rw [addIn_row h, upd_len, List.length_replicate]
theorem set_self {α : Type} (xs : List α) (k : Nat) (d : α) : xs.set k (xs.getD k d) = xs := by
  apply List.ext_getElem?
  intro i
  rw [List.getElem?_set]
  by_cases c : k = i
  · subst c
    rw [if_pos rfl]
    by_cases h : k < xs.length
    · rw [if_pos h, List.getD_eq_getElem?_getD, List.getElem?_eq_getElem h]
      rfl
    · rw [if_neg h, List.getElem?_eq_none (by omega)]
  · rw [if_neg c]
theorem addIn_start {p : Int} {c : Nat} {a b : List (List Int)} {k : Nat} (h : k < a.length) : addIn p c a b k 0 = addS p c a b k := by
  unfold addIn
  rw [upd_zero, ← addS_row (p := p) (b := b) h, set_self]
theorem addIn_next {p : Int} {c : Nat} {a b : List (List Int)} {k j : Nat} (h : k < a.length) (hj : j < c) : (addIn p c a b k j).set k (((addIn p c a b k j).getD k []).set j (((a.getD k []).getD j 0 + (b.getD k []).getD j 0) % p)) = addIn p c a b k (j + 1) := by
  rw [addIn_row h]
  unfold addIn
  rw [List.set_set, ← upd_step (fun j _ => ((a.getD k []).getD j 0 + (b.getD k []).getD j 0) % p) (by rw [List.length_replicate]; exact hj) 0]
theorem addIn_end {p : Int} {c : Nat} {a b : List (List Int)} {k j : Nat} (h : k < a.length) (hl : (a.getD k []).length = c) (hj : c ≤ j) : addIn p c a b k j = addS p c a b (k + 1) := by
  unfold addIn
  have e : upd (fun j _ => ((a.getD k []).getD j 0 + (b.getD k []).getD j 0) % p) j (List.replicate c 0) = axpy p (a.getD k []) 1 (b.getD k []) := by
    rw [upd_all _ (by rw [List.length_replicate]; exact hj)]
    refine ext_getD 0 (by rw [List.length_mapIdx, List.length_replicate, axpy_len, hl]) fun i hi => ?_
    rw [List.length_mapIdx, List.length_replicate] at hi
    rw [mapIdx_getD _ _ _ (by rw [List.length_replicate]; exact hi) 0, axpy_get (by rw [hl]; exact hi), Int.one_mul]
  rw [e]
  unfold addS
  rw [upd_step (fun r _ => axpy p (a.getD r []) 1 (b.getD r [])) (by rw [List.length_replicate]; exact h) []]
end Go.Proofs.YtahlicbjbbpihaaDoor
