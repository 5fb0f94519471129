/- A list as a combination of a matrix's rows: mathematics. -/
import Derived.Test.YtiiloioobmkicaaDoorMath
import Derived.Test.YtiiloioobmkicaaDoorElems
import Derived.Test.YtiiloioobmkicaaDoorRdRows
namespace Go.Proofs.YtiiloioobmkicaaDoor
set_option maxRecDepth 100000
open Go Go.RowKit Go.Deep

section
variable {p : Int}
theorem axpy_congr {xs ys : List Int} {f g : Int} (h : f % p = g % p) : axpy p xs f ys = axpy p xs g ys := by
  refine ext_getD 0 (by rw [axpy_len, axpy_len]) fun j hj => ?_
  rw [axpy_len] at hj
  rw [axpy_get hj, axpy_get hj, Int.add_emod (xs.getD j 0) (f * _), Int.add_emod (xs.getD j 0) (g * _), Int.mul_emod f, Int.mul_emod g, h]
theorem neg_mod' (p k : Int) : (p - k) % p % p = (p - k) % p := Int.emod_emod_of_dvd _ (Int.dvd_refl p)
theorem neg_neg_mod (p k : Int) : (p - (p - k) % p) % p = k % p := by
  rw [Int.sub_emod p, Int.emod_emod_of_dvd _ (Int.dvd_refl p), ← Int.sub_emod, show p - (p - k) = k by omega]
theorem comb_take : ∀ (acc fs : List Int) (rs : List (List Int)), comb p acc fs (rs.take fs.length) = comb p acc fs rs
  | acc, [], rs => by simp [comb]
  | acc, _ :: _, [] => by simp [comb]
  | acc, f :: fs, r :: rs => by
    rw [List.length_cons, List.take_succ_cons, comb, comb]
    exact comb_take _ fs rs
theorem red_lead {n c : Nat} {M : List (List Int)} (hf : fld p = true) (h : Mat p n c M) (t : List (List Int)) : ∀ i, i < (red p M t c).lead.length → lead0 ((rref p M c).getD i []) = (red p M t c).lead.getD i 0 ∧ (rref p M c).getD i [] = (red p M t c).a.getD i [] := fun i hi => by
  have hI := rr_inv hf h (Nat.le_refl c)
  rw [(red_rr p M t c).2] at hi ⊢
  rw [(red_rr p M t c).1]
  have hm : Mat p (rr p M c).lead.length c (rref p M c) := hI.a.take hI.rank
  have e : (rref p M c).getD i [] = (rr p M c).a.getD i [] := take_getD _ hi _
  have hlen := (hm.row hi).1
  refine ⟨lead0_eq (by rw [hlen]; exact Nat.le_of_lt (hI.lead i hi)) (fun j hj => ?_) (fun _ => ?_), e⟩
  · rw [e]
    exact hI.left i hi j hj
  · rw [e]
    have h1 := hI.unit i hi i (Nat.lt_of_lt_of_le hi hI.rank)
    rw [if_pos rfl] at h1
    unfold at2 at h1
    rw [h1]
    decide
/-- The coefficients that the program reads off are the coordinates. -/
theorem pick_lead {n c : Nat} {M : List (List Int)} (hf : fld p = true) (h : Mat p n c M) (t : List (List Int)) (b : List Int) : pick b (ints (red p M t c).lead) = coords (rref p M c) b := by
  have hl : (red p M t c).lead.length = (rref p M c).length := by rw [rref_len hf h, (red_rr p M t c).2]
  refine ext_getD 0 (by rw [pick_len, ints_len, coords_len, hl]) fun i hi => ?_
  rw [pick_len, ints_len] at hi
  rw [pick_get (by rw [ints_len]; exact hi), coords_get (by omega), (red_lead hf h t i hi).1]
  congr 1
  unfold ints
  rw [map_getD _ _ _ hi 0]
  simp
theorem vmul_red {n c : Nat} {M : List (List Int)} (hf : fld p = true) (h : Mat p n c M) (t : List (List Int)) (b : List Int) : vmul p c (coords (rref p M c) b) (red p M t c).a = vmul p c (coords (rref p M c) b) (rref p M c) := by
  unfold vmul
  rw [← comb_take _ _ (red p M t c).a, coords_len, rref_len hf h, (red_rr p M t c).1]
  rfl
/-- What the model's second list is behind k rows. -/
def accT (p : Int) (n : Nat) (R T : List (List Int)) (v : List Int) : Nat → List Int
  | 0 => List.replicate n 0
  | k + 1 => axpy p (accT p n R T v k) (v.getD (lead0 (R.getD k [])) 0) (T.getD k [])
theorem accT_vec (hp : 2 ≤ p) {n : Nat} {R T : List (List Int)} {v : List Int} : ∀ k, Vec p n (accT p n R T v k)
  | 0 => Vec.zero hp n
  | k + 1 => Vec.axpy hp (accT_vec hp k).1 _ _
theorem accT_comb {n : Nat} {R T : List (List Int)} {v : List Int} (h : R.length ≤ T.length) : ∀ k, k ≤ R.length → comb p (accT p n R T v k) ((coords R v).drop k) (T.drop k) = vmul p n (coords R v) T
  | 0, _ => by rw [List.drop_zero, List.drop_zero]; rfl
  | k + 1, hk => by
    have ih := accT_comb (n := n) (v := v) h k (by omega)
    rw [comb_step (i := k) (by rw [coords_len]; omega) (by omega), coords_get (by omega)] at ih
    exact ih
theorem accT_end {n : Nat} {R T : List (List Int)} {v : List Int} (h : R.length ≤ T.length) : accT p n R T v R.length = vmul p n (coords R v) T := by
  rw [← accT_comb h R.length (Nat.le_refl _), comb_end (by rw [coords_len]; omega)]
/-- A step of the model's two lists. -/
theorem rest_step (R : List (List Int)) (v : List Int) (k : Nat) : axpy p (restV p R v k) ((p - (restV p R v k).getD (lead0 (R.getD k [])) 0) % p) (R.getD k []) = restV p R v (k + 1) :=
  axpy_congr (neg_mod' _ _)
theorem acc_step (hp : 2 ≤ p) {m c n : Nat} {R T : List (List Int)} {v : List Int} (h : IsRed p m c R) (hv : Vec p c v) {k : Nat} (hk : k < m) :
    axpy p (accT p n R T v k) ((p - (p - (restV p R v k).getD (lead0 (R.getD k [])) 0) % p) % p) (T.getD k []) = accT p n R T v (k + 1) := by
  rw [restV_lead hp h hv k (by omega) k (Nat.le_refl k) hk]
  exact axpy_congr (by rw [Int.emod_emod_of_dvd _ (Int.dvd_refl p), neg_neg_mod])
theorem all_zero {c : Nat} {v : List Int} (h : v.length = c) : (v.all (between 0 0)) = decide (v = List.replicate c 0) := by
  rw [Bool.eq_iff_iff, decide_eq_true_eq, List.all_eq_true]
  constructor
  · intro H
    refine List.eq_replicate_iff.2 ⟨h, fun x hx => ?_⟩
    have := H x hx
    unfold between at this
    simp at this
    omega
  · intro H x hx
    rw [H] at hx
    have := (List.mem_replicate.1 hx).2
    subst this
    decide
end
theorem rowB_vec' {p : Int} {n : Nat} {v : List Int} (h : rowB p n v = true) : Vec p n v := by
  unfold rowB at h
  simp only [Bool.and_eq_true, decide_eq_true_eq, List.all_eq_true, el_iff] at h
  exact ⟨by omega, h.2⟩
theorem rdG_one {w : World} {B b : Nat} {A : Option Addr} {c : Nat} {v : List Int} {t : TypeId} (hc : CellsAt w b t [.slice A v.length c]) (hv : RdS w (fun q => q < B) (.slice A v.length c) v) (hb : b < B) (d : Nat) (hd : 1 ≤ d := by first | exact Nat.le_refl _ | omega) : RdG w B (.slice (some ⟨b, 0, none⟩) 1 d) [v] := by
  refine ⟨_, d, rfl, hd, fun r hr => ?_⟩
  obtain rfl : r = 0 := by simp at hr; omega
  exact ⟨b, 0, _, rfl, hb, by simpa using hc.cell (i := 0) (by simp), hv⟩
/-- SolveLinear: whether there is a list, and which. -/
def solOk (p c : Int) (M : List (List Int)) (b : List Int) : Bool := isMat p c M && rowB p c b && hasV p c.toNat (rref p M c.toNat) b
def solX (p c : Int) (M : List (List Int)) (b : List Int) : List Int := if solOk p c M b then vmul p M.length (coords (rref p M c.toNat) b) (red p M (idRows M.length) c.toNat).t else []
end Go.Proofs.YtiiloioobmkicaaDoor
