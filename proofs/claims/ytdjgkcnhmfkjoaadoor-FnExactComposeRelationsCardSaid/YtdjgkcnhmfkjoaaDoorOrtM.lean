/- The orthogonal of a relation: a null space with the second parts of its vectors negated. Plain mathematics. -/
import Derived.Test.YtdjgkcnhmfkjoaaDoorMath
namespace Go.Proofs.YtdjgkcnhmfkjoaaDoor
set_option maxRecDepth 100000
def neg1 (p : Int) (l : Nat) (x : List Int) : List Int := x.take l ++ (x.drop l).map fun a => (p - a) % p
def negs (p : Int) (l : Nat) (R : List (List Int)) : List (List Int) := R.map (neg1 p l)
theorem neg1_len (p : Int) (l : Nat) (x : List Int) : (neg1 p l x).length = x.length := by
  unfold neg1
  rw [List.length_append, List.length_map, List.length_take, List.length_drop]
  omega
theorem neg1_at {p : Int} {l : Nat} {x : List Int} {j : Nat} (hj : j < x.length) : (neg1 p l x).getD j 0 = if j < l then x.getD j 0 else (p - x.getD j 0) % p := by
  unfold neg1
  rw [List.getD_eq_getElem?_getD, List.getElem?_append]
  by_cases c : j < l
  · rw [if_pos (by rw [List.length_take]; omega), if_pos c, List.getElem?_take_of_lt c, List.getD_eq_getElem?_getD]
  · rw [if_neg (by rw [List.length_take]; omega), if_neg c, List.getElem?_map, List.getElem?_drop, List.length_take, show l + (j - min l x.length) = j by omega, List.getElem?_eq_getElem hj, List.getD_eq_getElem?_getD, List.getElem?_eq_getElem hj]
    rfl
theorem neg_mod (p a : Int) : (p - a) % p = (-a) % p := by rw [show p - a = -a + p by omega, Int.add_emod_right]
theorem neg1_vec {p : Int} (hp : 2 ≤ p) {l c : Nat} {x : List Int} (h : Vec p c x) : Vec p c (neg1 p l x) := by
  refine ⟨by rw [neg1_len, h.1], fun z hz => ?_⟩
  obtain ⟨j, hj, rfl⟩ := mem_getD 0 hz
  rw [neg1_len] at hj
  rw [neg1_at hj]
  split
  · exact h.2 _ (getD_mem' hj 0)
  · exact ⟨Int.emod_nonneg _ (by omega), Int.emod_lt_of_pos _ (by omega)⟩
theorem neg1_neg1 {p : Int} (hp : 2 ≤ p) {l c : Nat} {x : List Int} (h : Vec p c x) : neg1 p l (neg1 p l x) = x := by
  refine Vec.ext (neg1_vec hp (neg1_vec hp h)) h fun j hj => ?_
  have hl : j < x.length := by rw [h.1]; exact hj
  rw [neg1_at (by rw [neg1_len]; exact hl), neg1_at hl]
  by_cases c1 : j < l
  · rw [if_pos c1, if_pos c1]
  · rw [if_neg c1, if_neg c1, neg_mod, neg_mod, ← Int.zero_sub, Int.sub_emod, Int.emod_emod_of_dvd _ (Int.dvd_refl p), ← Int.sub_emod, Int.zero_sub, Int.neg_neg]
    exact h.mod hj
theorem neg1_zero (p : Int) (l c : Nat) : neg1 p l (List.replicate c 0) = List.replicate c 0 := by
  refine ext_getD 0 (neg1_len _ _ _) fun j hj => ?_
  rw [neg1_len] at hj
  rw [neg1_at hj, repl_getD]
  split
  · rfl
  · rw [neg_mod]; simp
theorem neg1_axpy {p k : Int} {l c : Nat} {u v : List Int} (hu : u.length = c) (hv : v.length = c) : neg1 p l (axpy p u k v) = axpy p (neg1 p l u) k (neg1 p l v) := by
  refine ext_getD 0 (by rw [neg1_len, axpy_len, axpy_len, neg1_len]) fun j hj => ?_
  rw [neg1_len, axpy_len] at hj
  rw [neg1_at (by rw [axpy_len]; exact hj), axpy_get hj, axpy_get (by rw [neg1_len]; exact hj), neg1_at hj, neg1_at (by omega)]
  by_cases c1 : j < l
  · rw [if_pos c1, if_pos c1, if_pos c1]
  · rw [if_neg c1, if_neg c1, if_neg c1, neg_mod, neg_mod, neg_mod, add_mod_l, add_mul_mod, ← Int.zero_sub, Int.sub_emod, Int.emod_emod_of_dvd _ (Int.dvd_refl p), ← Int.sub_emod]
    congr 1
    grind
theorem negs_len (p : Int) (l : Nat) (R : List (List Int)) : (negs p l R).length = R.length := by simp [negs]
theorem negs_row {p : Int} {l : Nat} {R : List (List Int)} {i : Nat} (h : i < R.length) : (negs p l R).getD i [] = neg1 p l (R.getD i []) := map_getD _ _ _ h [] []
theorem negs_mat {p : Int} (hp : 2 ≤ p) {l n c : Nat} {R : List (List Int)} (h : Mat p n c R) : Mat p n c (negs p l R) := by
  refine ⟨by rw [negs_len, h.1], fun x hx => ?_⟩
  obtain ⟨y, hy, rfl⟩ := List.mem_map.1 hx
  exact neg1_vec hp (h.vec hy)
theorem negs_negs {p : Int} (hp : 2 ≤ p) {l n c : Nat} {R : List (List Int)} (h : Mat p n c R) : negs p l (negs p l R) = R := by
  unfold negs
  rw [List.map_map]
  conv => rhs; rw [← List.map_id R]
  exact List.map_congr_left fun x hx => neg1_neg1 hp (h.vec hx)
theorem negs_sp {p : Int} (hp : 2 ≤ p) {l n c : Nat} {R : List (List Int)} (h : Mat p n c R) {v : List Int} (hv : Sp p c R v) : Sp p c (negs p l R) (neg1 p l v) := by
  induction hv with
  | zero => rw [neg1_zero]; exact Sp.zero
  | @add v r k hs hr ih =>
    rw [neg1_axpy (hs.vec hp).1 (h.vec hr).1]
    exact Sp.add k ih (List.mem_map_of_mem hr)
theorem dot_neg {p : Int} {l : Nat} {r v : List Int} : ∀ {c : Nat}, c ≤ r.length → c ≤ v.length → dot (neg1 p l r) v c % p = dot r (neg1 p l v) c % p
  | 0, _, _ => rfl
  | c + 1, h1, h2 => by
    have ih := dot_neg (p := p) (l := l) (r := r) (v := v) (c := c) (by omega) (by omega)
    simp only [dot]
    rw [neg1_at (by omega), neg1_at (by omega), Int.add_emod, ih]
    conv => rhs; rw [Int.add_emod]
    congr 1
    congr 1
    by_cases c1 : c < l
    · rw [if_pos c1, if_pos c1]
    · rw [if_neg c1, if_neg c1, neg_mod, neg_mod, mod_mul_mod, mul_mod_mod]
      congr 1
      grind
theorem null_neg {p : Int} (hp : 2 ≤ p) {l n c : Nat} {R : List (List Int)} (h : Mat p n c R) {v : List Int} (hv : Vec p c v) : Null p c (negs p l R) v ↔ Null p c R (neg1 p l v) := by
  constructor
  · intro hn
    refine ⟨neg1_vec hp hv, fun r hr => ?_⟩
    rw [← dot_neg (by rw [(h.vec hr).1]; exact Nat.le_refl c) (by rw [hv.1]; exact Nat.le_refl c)]
    exact hn.2 _ (List.mem_map_of_mem hr)
  · intro hn
    refine ⟨hv, fun r hr => ?_⟩
    obtain ⟨y, hy, rfl⟩ := List.mem_map.1 hr
    rw [dot_neg (by rw [(h.vec hy).1]; exact Nat.le_refl c) (by rw [hv.1]; exact Nat.le_refl c)]
    exact hn.2 _ hy
/-- The null space with its second parts negated is the null space of the rows with theirs negated. -/
theorem ort_neg {p : Int} (hf : fld p = true) {l n m c : Nat} {R : List (List Int)} (h : Mat p n c R) (hN : Mat p m c (nullB p R c)) : rref p (negs p l (nullB p R c)) c = nullB p (negs p l R) c := by
  have hp := (fld_bd hf).1
  refine nullB_eq hf (negs_mat hp h) (negs_mat hp hN) fun v => ⟨fun hs => ?_, fun hn => ?_⟩
  · have hv := hs.vec hp
    rw [null_neg hp h hv, ← nullB_sp hf h]
    have := negs_sp (l := l) hp (negs_mat hp hN) hs
    rwa [negs_negs hp hN] at this
  · have hv := hn.1
    rw [null_neg hp h hv, ← nullB_sp hf h] at hn
    have := negs_sp (l := l) hp hN hn
    rwa [neg1_neg1 hp hv] at this
end Go.Proofs.YtdjgkcnhmfkjoaaDoor
