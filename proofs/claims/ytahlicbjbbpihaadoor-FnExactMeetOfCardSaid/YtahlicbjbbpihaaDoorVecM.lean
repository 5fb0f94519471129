/- Coordinates over a reduced list, and what is left of a vector without them. Plain mathematics. -/
import Derived.Test.YtahlicbjbbpihaaDoorNullM
namespace Go.Proofs.YtahlicbjbbpihaaDoor
set_option maxRecDepth 100000
/-- The elements at the leading indices. -/
def coords (R : List (List Int)) (v : List Int) : List Int := R.map fun b => v.getD (lead0 b) 0
theorem coords_len (R : List (List Int)) (v : List Int) : (coords R v).length = R.length := by simp [coords]
theorem coords_get {R : List (List Int)} {v : List Int} {i : Nat} (h : i < R.length) : (coords R v).getD i 0 = v.getD (lead0 (R.getD i [])) 0 := by unfold coords; rw [map_getD _ _ _ h []]
theorem coords_el {p : Int} {n c : Nat} {R : List (List Int)} (h : IsRed p n c R) {v : List Int} (hv : Vec p c v) : ∀ x, x ∈ coords R v → 0 ≤ x ∧ x < p := by
  intro x hx
  obtain ⟨i, hi, rfl⟩ := mem_getD 0 hx
  rw [coords_len] at hi
  rw [coords_get hi]
  exact hv.el (h.lt i (by rw [← h.mat.1]; exact hi))
/-- Whether a reduced list spans a vector. -/
def hasV (p : Int) (c : Nat) (R : List (List Int)) (v : List Int) : Bool := decide (vmul p c (coords R v) R = v)
/-- The vector without the first k rows' parts, and these parts. -/
def restV (p : Int) (R : List (List Int)) (v : List Int) : Nat → List Int
  | 0 => v
  | k + 1 => axpy p (restV p R v k) (p - (restV p R v k).getD (lead0 (R.getD k [])) 0) (R.getD k [])
def accV (p : Int) (c : Nat) (R : List (List Int)) (v : List Int) : Nat → List Int
  | 0 => List.replicate c 0
  | k + 1 => axpy p (accV p c R v k) (v.getD (lead0 (R.getD k [])) 0) (R.getD k [])
section
variable {p : Int} {n c : Nat} {R : List (List Int)} {v : List Int}
theorem restV_vec (hp : 2 ≤ p) (hv : Vec p c v) : ∀ k, Vec p c (restV p R v k)
  | 0 => hv
  | k + 1 => Vec.axpy hp (restV_vec hp hv k).1 _ _
theorem accV_vec (hp : 2 ≤ p) : ∀ k, Vec p c (accV p c R v k)
  | 0 => Vec.zero hp c
  | k + 1 => Vec.axpy hp (accV_vec hp k).1 _ _
theorem restV_lead (hp : 2 ≤ p) (h : IsRed p n c R) (hv : Vec p c v) : ∀ k, k ≤ n → ∀ i, k ≤ i → i < n → (restV p R v k).getD (lead0 (R.getD i [])) 0 = v.getD (lead0 (R.getD i [])) 0
  | 0, _, _, _, _ => rfl
  | k + 1, hk, i, hi, hin => by
    have hl := h.lt i hin
    have hu := h.unit i hin k (by omega)
    rw [if_neg (by omega)] at hu
    unfold at2 at hu
    have hvk := restV_vec (R := R) hp hv k
    unfold restV
    rw [axpy_get (by rw [hvk.1]; exact hl), hu, Int.mul_zero, Int.add_zero, hvk.mod hl]
    exact restV_lead hp h hv k (by omega) i (by omega) hin
theorem rest_acc (hp : 2 ≤ p) (h : IsRed p n c R) (hv : Vec p c v) : ∀ k, k ≤ n → ∀ j, j < c → ((restV p R v k).getD j 0 + (accV p c R v k).getD j 0) % p = v.getD j 0
  | 0, _, j, hj => by
    unfold restV accV
    rw [repl_getD, Int.add_zero]
    exact hv.mod hj
  | k + 1, hk, j, hj => by
    have ih := rest_acc hp h hv k (by omega) j hj
    have hr := restV_lead hp h hv k (by omega) k (Nat.le_refl k) (by omega)
    unfold restV accV
    rw [axpy_get (by rw [(restV_vec hp hv k).1]; exact hj), axpy_get (by rw [(accV_vec hp k).1]; exact hj), add_mod_l, add_mod_r, hr]
    rw [show (restV p R v k).getD j 0 + (p - v.getD (lead0 (R.getD k [])) 0) * (R.getD k []).getD j 0 + ((accV p c R v k).getD j 0 + v.getD (lead0 (R.getD k [])) 0 * (R.getD k []).getD j 0) = ((restV p R v k).getD j 0 + (accV p c R v k).getD j 0) + p * (R.getD k []).getD j 0 by grind, Int.add_mul_emod_self_left]
    exact ih
theorem accV_comb (h : R.length = n) : ∀ k, k ≤ n → comb p (accV p c R v k) ((coords R v).drop k) (R.drop k) = vmul p c (coords R v) R
  | 0, _ => by rw [List.drop_zero, List.drop_zero]; rfl
  | k + 1, hk => by
    have ih := accV_comb h k (by omega)
    rw [comb_step (i := k) (by rw [coords_len]; omega) (by omega), coords_get (by omega)] at ih
    exact ih
theorem accV_end (h : R.length = n) : accV p c R v n = vmul p c (coords R v) R := by rw [← accV_comb h n (Nat.le_refl n), comb_end (by rw [coords_len]; omega)]
/-- Nothing is left exactly of what is spanned. -/
theorem hasV_rest (hp : 2 ≤ p) (h : IsRed p n c R) (hv : Vec p c v) : hasV p c R v = decide (restV p R v n = List.replicate c 0) := by
  unfold hasV
  rw [Bool.eq_iff_iff, decide_eq_true_eq, decide_eq_true_eq, ← accV_end h.mat.1]
  have hk := rest_acc hp h hv n (Nat.le_refl n)
  constructor
  · intro e
    refine Vec.ext (restV_vec hp hv n) (Vec.zero hp c) fun j hj => ?_
    have h1 := hk j hj
    rw [e] at h1
    have h2 := (restV_vec (R := R) hp hv n).el hj
    have h3 := hv.el hj
    rw [repl_getD]
    by_cases c1 : (restV p R v n).getD j 0 + v.getD j 0 < p
    · rw [Int.emod_eq_of_lt (by omega) c1] at h1
      omega
    · rw [show (restV p R v n).getD j 0 + v.getD j 0 = ((restV p R v n).getD j 0 + v.getD j 0 - p) + p * 1 by omega, Int.add_mul_emod_self_left, Int.emod_eq_of_lt (by omega) (by omega)] at h1
      omega
  · intro e
    refine Vec.ext (accV_vec hp n) hv fun j hj => ?_
    have h1 := hk j hj
    rw [e, repl_getD, Int.zero_add, (accV_vec (R := R) hp n).mod hj] at h1
    exact h1
end
end Go.Proofs.YtahlicbjbbpihaaDoor
