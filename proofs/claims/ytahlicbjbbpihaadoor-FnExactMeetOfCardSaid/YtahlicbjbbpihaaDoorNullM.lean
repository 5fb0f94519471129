/- Null spaces: the vectors whose product with each row is 0; their reduced list. Plain mathematics. -/
import Derived.Test.YtahlicbjbbpihaaDoorSpanM
namespace Go.Proofs.YtahlicbjbbpihaaDoor
set_option maxRecDepth 100000
/-- The product of two vectors, of their first c elements. -/
def dot (a b : List Int) : Nat → Int
  | 0 => 0
  | j + 1 => dot a b j + a.getD j 0 * b.getD j 0
theorem dot_zero (b : List Int) (c n : Nat) : dot (List.replicate n 0) b c = 0 := by
  induction c with
  | zero => rfl
  | succ c ih => unfold dot; rw [ih, repl_getD]; simp
theorem dot_axpy {p : Int} {u r v : List Int} {k : Int} : ∀ {c : Nat}, c ≤ u.length → dot (axpy p u k r) v c % p = (dot u v c + k * dot r v c) % p
  | 0, _ => by simp [dot]
  | c + 1, h => by
    have ih := dot_axpy (p := p) (u := u) (r := r) (v := v) (k := k) (c := c) (by omega)
    simp only [dot]
    rw [axpy_get (by omega), ← add_mod_l, ih, add_mod_l, mod_mul_add]
    congr 1
    grind
theorem dot_comm (a b : List Int) : ∀ c, dot a b c = dot b a c
  | 0 => rfl
  | c + 1 => by
    unfold dot
    rw [dot_comm a b c, Int.mul_comm]
/-- The vectors whose product with each row is 0. -/
def Null (p : Int) (c : Nat) (rows : List (List Int)) (v : List Int) : Prop := Vec p c v ∧ ∀ r, r ∈ rows → dot r v c % p = 0
theorem null_sp {p : Int} (hp : 2 ≤ p) {c : Nat} {rows : List (List Int)} {v r : List Int} (h : Null p c rows v) (hr : Sp p c rows r) : dot r v c % p = 0 := by
  induction hr with
  | zero => rw [dot_zero]; simp
  | @add u s k hu hs ih =>
    rw [dot_axpy (by rw [(hu.vec hp).1]; exact Nat.le_refl _), Int.add_emod, ih, Int.mul_emod, h.2 _ hs]
    simp
theorem null_of_sp {p : Int} (hp : 2 ≤ p) {c : Nat} {a b : List (List Int)} (h : ∀ r, r ∈ b → Sp p c a r) {v : List Int} (hv : Null p c a v) : Null p c b v := ⟨hv.1, fun r hr => null_sp hp hv (h r hr)⟩
theorem null_eq {p : Int} (hp : 2 ≤ p) {n m c : Nat} {a b : List (List Int)} (ha : Mat p n c a) (hb : Mat p m c b) (h : SpEq p c a b) (v : List Int) : Null p c a v ↔ Null p c b v :=
  ⟨null_of_sp hp fun r hr => (h r).2 (Sp.row (hb.vec hr) hr), null_of_sp hp fun r hr => (h r).1 (Sp.row (ha.vec hr) hr)⟩
theorem Null.comb {p : Int} (hp : 2 ≤ p) {c : Nat} {rows : List (List Int)} {u v : List Int} (hu : Null p c rows u) (k : Int) (hv : Null p c rows v) : Null p c rows (axpy p u k v) := by
  refine ⟨Vec.axpy hp hu.1.1 k v, fun r hr => ?_⟩
  rw [dot_comm, dot_axpy (by rw [hu.1.1]; exact Nat.le_refl _), dot_comm u, dot_comm v, Int.add_emod, hu.2 _ hr, Int.mul_emod, hv.2 _ hr]
  simp
theorem Null.zero {p : Int} (hp : 2 ≤ p) (c : Nat) (rows : List (List Int)) : Null p c rows (List.replicate c 0) := ⟨Vec.zero hp c, fun r _ => by rw [dot_comm, dot_zero]; simp⟩
theorem Null.sub {p : Int} (hp : 2 ≤ p) {c : Nat} {rows b : List (List Int)} (h : ∀ r, r ∈ b → Null p c rows r) {v : List Int} (hv : Sp p c b v) : Null p c rows v := by
  induction hv with
  | zero => exact Null.zero hp c rows
  | add k _ hr ih => exact Null.comb hp ih k (h _ hr)
/-! ### The vector of a free index -/
/-- The free index j: 1 there, and at the first k rows' leading indices what makes the products 0. -/
def nullK (p : Int) (c : Nat) (rows : List (List Int)) (j : Nat) : Nat → List Int
  | 0 => unitRow c j
  | k + 1 => (nullK p c rows j k).set (lead0 (rows.getD k [])) ((p - at2 rows k j) % p)
theorem nullK_len (p : Int) (c : Nat) (rows : List (List Int)) (j : Nat) : ∀ k, (nullK p c rows j k).length = c
  | 0 => unitRow_len _ _
  | k + 1 => by unfold nullK; rw [List.length_set, nullK_len p c rows j k]
def isLead (rows : List (List Int)) (j : Nat) : Nat → Bool
  | 0 => false
  | k + 1 => isLead rows j k || decide (lead0 (rows.getD k []) = j)
theorem isLead_iff {rows : List (List Int)} {j : Nat} : ∀ {k : Nat}, isLead rows j k = true ↔ ∃ i, i < k ∧ lead0 (rows.getD i []) = j
  | 0 => by simp [isLead]
  | k + 1 => by
    simp only [isLead, Bool.or_eq_true, decide_eq_true_eq, isLead_iff (k := k)]
    constructor
    · rintro (⟨i, hi, h⟩ | h)
      · exact ⟨i, by omega, h⟩
      · exact ⟨k, by omega, h⟩
    · rintro ⟨i, hi, h⟩
      by_cases c : i = k
      · exact Or.inr (by rw [← c]; exact h)
      · exact Or.inl ⟨i, by omega, h⟩
theorem isLead_no {rows : List (List Int)} {j k : Nat} (h : isLead rows j k = false) : ∀ i, i < k → lead0 (rows.getD i []) ≠ j := fun i hi e => by
  have := isLead_iff.2 ⟨i, hi, e⟩
  rw [h] at this
  cases this
/-- The vectors of the free indices below J. -/
def nullRows (p : Int) (c : Nat) (rows : List (List Int)) : Nat → List (List Int)
  | 0 => []
  | j + 1 => nullRows p c rows j ++ if isLead rows j rows.length then [] else [nullK p c rows j rows.length]
theorem nullRows_len (p : Int) (c : Nat) (rows : List (List Int)) : ∀ J, (nullRows p c rows J).length ≤ J
  | 0 => Nat.le_refl _
  | J + 1 => by
    have := nullRows_len p c rows J
    unfold nullRows
    rw [List.length_append]
    split <;> simp <;> omega
theorem nullRows_mem {p : Int} {c : Nat} {rows : List (List Int)} {v : List Int} : ∀ {J : Nat}, v ∈ nullRows p c rows J ↔ ∃ j, j < J ∧ isLead rows j rows.length = false ∧ v = nullK p c rows j rows.length
  | 0 => by simp [nullRows]
  | J + 1 => by
    unfold nullRows
    rw [List.mem_append, nullRows_mem (J := J)]
    constructor
    · rintro (⟨j, hj, h⟩ | h)
      · exact ⟨j, by omega, h⟩
      · split at h
        · cases h
        · rename_i hl
          exact ⟨J, by omega, by simpa using hl, by simpa using h⟩
    · rintro ⟨j, hj, hl, h⟩
      by_cases e : j = J
      · subst e
        right
        rw [if_neg (by rw [hl]; decide), h]
        exact List.mem_singleton.2 rfl
      · exact Or.inl ⟨j, by omega, hl, h⟩
section
variable {p : Int} {n c : Nat} {R : List (List Int)}
theorem nullK_vec (hp : 2 ≤ p) (j : Nat) (hj : j < c) : ∀ k, Vec p c (nullK p c R j k)
  | 0 => ⟨unitRow_len _ _, fun x hx => by
      obtain ⟨i, hi, rfl⟩ := mem_getD 0 hx
      show 0 ≤ (unitRow c j).getD i 0 ∧ (unitRow c j).getD i 0 < p
      rw [unitRow_get hj]
      split <;> omega⟩
  | k + 1 => by
    have ih := nullK_vec hp j hj k
    refine ⟨nullK_len _ _ _ _ _, fun x hx => ?_⟩
    unfold nullK at hx
    rcases List.mem_or_eq_of_mem_set hx with h | h
    · exact ih.2 x h
    · rw [h]
      exact emod_bd hp _
theorem nullRows_mat (hp : 2 ≤ p) (J : Nat) (hJ : J ≤ c) : Mat p (nullRows p c R J).length c (nullRows p c R J) := by
  refine ⟨rfl, fun r hr => ?_⟩
  obtain ⟨j, hj, _, rfl⟩ := nullRows_mem.1 hr
  exact nullK_vec hp j (by omega) _
theorem IsRed.inj (h : IsRed p n c R) {i k : Nat} (hi : i < n) (hk : k < n) (e : lead0 (R.getD i []) = lead0 (R.getD k [])) : i = k := by
  rcases Nat.lt_trichotomy i k with h1 | h1 | h1
  · have := h.rise i k h1 hk; omega
  · exact h1
  · have := h.rise k i h1 hi; omega
theorem nullK_lead (h : IsRed p n c R) (j : Nat) {i : Nat} (hi : i < n) : ∀ k, i < k → k ≤ n → (nullK p c R j k).getD (lead0 (R.getD i [])) 0 = (p - at2 R i j) % p
  | 0, h0, _ => absurd h0 (Nat.not_lt_zero _)
  | k + 1, h1, h2 => by
    unfold nullK
    rw [set_getD _ _ _ _ _ (by rw [nullK_len]; exact h.lt k (by omega))]
    by_cases e : i = k
    · subst e
      rw [if_pos rfl]
    · rw [if_neg (fun e2 => e (h.inj hi (by omega) e2.symm))]
      exact nullK_lead h j hi k (by omega) (by omega)
theorem nullK_free (h : IsRed p n c R) {j : Nat} (hj : j < c) {x : Nat} : ∀ k, k ≤ n → (∀ i, i < k → lead0 (R.getD i []) ≠ x) → (nullK p c R j k).getD x 0 = if j = x then 1 else 0
  | 0, _, _ => unitRow_get hj
  | k + 1, h1, h2 => by
    unfold nullK
    rw [set_getD _ _ _ _ _ (by rw [nullK_len]; exact h.lt k (by omega)), if_neg (h2 k (by omega))]
    exact nullK_free h hj k (by omega) fun i hi => h2 i (by omega)
/-- A free index's vector has the product 0 with each row. -/
theorem nullK_dot (h : IsRed p n c R) {j m : Nat} (hj : j < c) (hm : m < n) (hl : isLead R j n = false) : ∀ X, X ≤ c → dot (R.getD m []) (nullK p c R j n) X = (if j < X then at2 R m j else 0) + (if lead0 (R.getD m []) < X then (p - at2 R m j) % p else 0)
  | 0, _ => rfl
  | X + 1, hX => by
    have ih := nullK_dot h hj hm hl X (by omega)
    unfold dot
    rw [ih]
    have hjl := isLead_no hl
    cases hx : isLead R X n with
    | true =>
      obtain ⟨i, hi, e⟩ := isLead_iff.1 hx
      have hjX : j ≠ X := fun e2 => hjl i hi (by rw [e, e2])
      have hu := h.unit i hi m hm
      rw [e] at hu
      unfold at2 at hu
      have hN := nullK_lead (p := p) (c := c) h j hi n hi (Nat.le_refl _)
      rw [e] at hN
      rw [hu, hN]
      by_cases e2 : m = i
      · subst e2
        rw [if_pos rfl, e, if_neg (Nat.lt_irrefl X), if_pos (Nat.lt_succ_self X)]
        by_cases c1 : j < X
        · rw [if_pos c1, if_pos (by omega)]; omega
        · rw [if_neg c1, if_neg (by omega)]; omega
      · have hne : lead0 (R.getD m []) ≠ X := fun e3 => e2 (h.inj hm hi (by rw [e3, e]))
        rw [if_neg e2, Int.zero_mul, Int.add_zero]
        by_cases c1 : j < X
        · rw [if_pos c1, if_pos (show j < X + 1 by omega)]
          by_cases c2 : lead0 (R.getD m []) < X
          · rw [if_pos c2, if_pos (by omega)]
          · rw [if_neg c2, if_neg (by omega)]
        · rw [if_neg c1, if_neg (show ¬ j < X + 1 by omega)]
          by_cases c2 : lead0 (R.getD m []) < X
          · rw [if_pos c2, if_pos (by omega)]
          · rw [if_neg c2, if_neg (by omega)]
    | false =>
      have hxl := isLead_no hx
      rw [nullK_free h hj n (Nat.le_refl _) hxl]
      have hne := hxl m hm
      have e2 : (if lead0 (R.getD m []) < X + 1 then (p - at2 R m j) % p else 0) = if lead0 (R.getD m []) < X then (p - at2 R m j) % p else 0 := by
        by_cases c2 : lead0 (R.getD m []) < X
        · rw [if_pos c2, if_pos (by omega)]
        · rw [if_neg c2, if_neg (by omega)]
      rw [e2]
      by_cases c1 : j = X
      · subst c1
        rw [if_pos rfl, if_neg (Nat.lt_irrefl j), if_pos (Nat.lt_succ_self j)]
        unfold at2
        omega
      · rw [if_neg c1, Int.mul_zero, Int.add_zero]
        by_cases c3 : j < X
        · rw [if_pos c3, if_pos (show j < X + 1 by omega)]
        · rw [if_neg c3, if_neg (show ¬ j < X + 1 by omega)]
theorem nullK_null (hp : 2 ≤ p) (h : IsRed p n c R) {j : Nat} (hj : j < c) (hl : isLead R j n = false) : Null p c R (nullK p c R j n) := by
  refine ⟨nullK_vec hp j hj n, fun r hr => ?_⟩
  obtain ⟨m, hm, rfl⟩ := mem_getD [] hr
  have hm' : m < n := by rw [← h.mat.1]; exact hm
  rw [nullK_dot h hj hm' hl c (Nat.le_refl _), if_pos hj, if_pos (h.lt m hm')]
  have := neg_self_mod (h.mat.el hm' hj)
  rw [Int.mul_one] at this
  exact this
/-- The first J free indices' part of a vector. -/
def nullAcc (p : Int) (c : Nat) (R : List (List Int)) (x : List Int) : Nat → List Int
  | 0 => List.replicate c 0
  | J + 1 => if isLead R J R.length then nullAcc p c R x J else axpy p (nullAcc p c R x J) (x.getD J 0) (nullK p c R J R.length)
theorem nullAcc_len (x : List Int) : ∀ J, (nullAcc p c R x J).length = c
  | 0 => by simp [nullAcc]
  | J + 1 => by
    unfold nullAcc
    split
    · exact nullAcc_len x J
    · rw [axpy_len]; exact nullAcc_len x J
theorem nullAcc_sp (x : List Int) : ∀ J, J ≤ c → Sp p c (nullRows p c R c) (nullAcc p c R x J)
  | 0, _ => Sp.zero
  | J + 1, h => by
    unfold nullAcc
    split
    · exact nullAcc_sp x J (by omega)
    · rename_i hl
      exact Sp.add _ (nullAcc_sp x J (by omega)) (nullRows_mem.2 ⟨J, by omega, by simpa using hl, rfl⟩)
theorem nullAcc_free (h : IsRed p n c R) {x : List Int} (hx : Vec p c x) {y : Nat} (hy : y < c) (hl : isLead R y n = false) : ∀ J, J ≤ c → (nullAcc p c R x J).getD y 0 = if y < J then x.getD y 0 else 0
  | 0, _ => by unfold nullAcc; rw [repl_getD]; rfl
  | J + 1, hJ => by
    have ih := nullAcc_free h hx hy hl J (by omega)
    have hn := h.mat.1
    unfold nullAcc
    split
    · rename_i hl2
      rw [ih]
      have hne : y ≠ J := fun e => by rw [← e, hn, hl] at hl2; cases hl2
      by_cases c1 : y < J
      · rw [if_pos c1, if_pos (by omega)]
      · rw [if_neg c1, if_neg (by omega)]
    · rw [axpy_get (by rw [nullAcc_len]; exact hy), ih, hn, nullK_free h (show J < c by omega) n (Nat.le_refl _) (isLead_no hl)]
      by_cases c1 : y = J
      · subst c1
        rw [if_neg (Nat.lt_irrefl y), if_pos rfl, if_pos (Nat.lt_succ_self y), Int.zero_add, Int.mul_one]
        exact hx.mod hy
      · have c1' : ¬ J = y := fun e => c1 e.symm
        rw [if_neg c1', Int.mul_zero, Int.add_zero]
        by_cases c2 : y < J
        · rw [if_pos c2, if_pos (by omega)]
          exact hx.mod hy
        · rw [if_neg c2, if_neg (by omega)]
          simp
theorem nullAcc_lead (h : IsRed p n c R) {x : List Int} {i : Nat} (hi : i < n) : ∀ J, J ≤ c → ((nullAcc p c R x J).getD (lead0 (R.getD i [])) 0 + dot (R.getD i []) x J) % p = (if lead0 (R.getD i []) < J then x.getD (lead0 (R.getD i [])) 0 else 0) % p
  | 0, _ => by unfold nullAcc dot; rw [repl_getD]; simp
  | J + 1, hJ => by
    have ih := nullAcc_lead h (x := x) hi J (by omega)
    have hn := h.mat.1
    have hli := h.lt i hi
    unfold nullAcc dot
    cases hl : isLead R J R.length with
    | true =>
      rw [if_pos rfl]
      obtain ⟨k, hk, e⟩ := isLead_iff.1 hl
      rw [hn] at hk
      have hu := h.unit k hk i hi
      rw [e] at hu
      unfold at2 at hu
      rw [hu]
      by_cases c1 : i = k
      · subst c1
        rw [if_pos rfl, e, if_pos (Nat.lt_succ_self J), Int.one_mul]
        rw [e, if_neg (Nat.lt_irrefl J)] at ih
        rw [← Int.add_assoc, ← add_mod_l, ih]
        simp
      · have hne : lead0 (R.getD i []) ≠ J := fun e2 => c1 (h.inj hi hk (by rw [e2, e]))
        rw [if_neg c1, Int.zero_mul, Int.add_zero, ih]
        by_cases c2 : lead0 (R.getD i []) < J
        · rw [if_pos c2, if_pos (by omega)]
        · rw [if_neg c2, if_neg (by omega)]
    | false =>
      rw [if_neg (by decide)]
      have hne : lead0 (R.getD i []) ≠ J := isLead_no hl i (by rw [hn]; exact hi)
      rw [axpy_get (by rw [nullAcc_len]; exact hli), hn, nullK_lead h J hi n hi (Nat.le_refl _), add_mod_l]
      have e1 : ((nullAcc p c R x J).getD (lead0 (R.getD i [])) 0 + x.getD J 0 * ((p - at2 R i J) % p) + (dot (R.getD i []) x J + (R.getD i []).getD J 0 * x.getD J 0)) % p = ((nullAcc p c R x J).getD (lead0 (R.getD i [])) 0 + dot (R.getD i []) x J) % p := by
        rw [show (nullAcc p c R x J).getD (lead0 (R.getD i [])) 0 + x.getD J 0 * ((p - at2 R i J) % p) + (dot (R.getD i []) x J + (R.getD i []).getD J 0 * x.getD J 0) = ((nullAcc p c R x J).getD (lead0 (R.getD i [])) 0 + dot (R.getD i []) x J + at2 R i J * x.getD J 0) + x.getD J 0 * ((p - at2 R i J) % p) by unfold at2; omega, add_mul_mod]
        rw [show (nullAcc p c R x J).getD (lead0 (R.getD i [])) 0 + dot (R.getD i []) x J + at2 R i J * x.getD J 0 + x.getD J 0 * (p - at2 R i J) = ((nullAcc p c R x J).getD (lead0 (R.getD i [])) 0 + dot (R.getD i []) x J) + p * x.getD J 0 by grind, Int.add_mul_emod_self_left]
      rw [e1, ih]
      by_cases c2 : lead0 (R.getD i []) < J
      · rw [if_pos c2, if_pos (by omega)]
      · rw [if_neg c2, if_neg (by omega)]
/-- The free indices' vectors span the null space of a reduced list. -/
theorem null_rows (hp : 2 ≤ p) (h : IsRed p n c R) (v : List Int) : Sp p c (nullRows p c R c) v ↔ Null p c R v := by
  have hn := h.mat.1
  constructor
  · refine Null.sub hp fun r hr => ?_
    obtain ⟨j, hj, hl, rfl⟩ := nullRows_mem.1 hr
    rw [hn] at hl ⊢
    exact nullK_null hp h hj hl
  · intro hv
    have : v = nullAcc p c R v c := by
      refine Vec.ext hv.1 ((nullAcc_sp v c (Nat.le_refl _)).vec hp) fun y hy => ?_
      cases hl : isLead R y n with
      | false => rw [nullAcc_free h hv.1 hy hl c (Nat.le_refl _), if_pos hy]
      | true =>
        obtain ⟨i, hi, e⟩ := isLead_iff.1 hl
        have h1 := nullAcc_lead h (x := v) hi c (Nat.le_refl _)
        have hmem : R.getD i [] ∈ R := getD_mem' (by rw [hn]; exact hi) _
        rw [e, if_pos hy, ← add_mod_r, hv.2 _ hmem, Int.add_zero, hv.1.mod hy, ((nullAcc_sp v c (Nat.le_refl _)).vec hp).mod hy] at h1
        exact h1.symm
    rw [this]
    exact nullAcc_sp v c (Nat.le_refl _)
end
/-- The reduced list of the null space of the rows. -/
def nullB (p : Int) (rows : List (List Int)) (c : Nat) : List (List Int) := rref p (nullRows p c (rref p rows c) c) c
theorem null_mid_mat {p : Int} (hf : fld p = true) {c : Nat} (rows : List (List Int)) : Mat p (nullRows p c (rref p rows c) c).length c (nullRows p c (rref p rows c) c) := nullRows_mat (fld_bd hf).1 c (Nat.le_refl c)
theorem nullB_sp {p : Int} (hf : fld p = true) {n c : Nat} {rows : List (List Int)} (h : Mat p n c rows) (v : List Int) : Sp p c (nullB p rows c) v ↔ Null p c rows v := by
  have hp := (fld_bd hf).1
  have h1 := rref_sp hf (null_mid_mat hf (c := c) rows) v
  have h2 := null_rows hp (rref_red hf h) v
  have h3 := null_eq hp (rref_mat hf h) h (rref_sp hf h) v
  exact h1.trans (h2.trans h3)
/-- Rows that span the null space have its reduced list. -/
theorem nullB_eq {p : Int} (hf : fld p = true) {n m c : Nat} {rows b : List (List Int)} (h : Mat p n c rows) (hb : Mat p m c b) (hs : ∀ v, Sp p c b v ↔ Null p c rows v) : rref p b c = nullB p rows c := by
  refine rref_eq hf hb (null_mid_mat hf (c := c) rows) fun v => ?_
  have hp := (fld_bd hf).1
  exact (hs v).trans (((null_rows hp (rref_red hf h) v).trans (null_eq hp (rref_mat hf h) h (rref_sp hf h) v)).symm)
end Go.Proofs.YtahlicbjbbpihaaDoor
