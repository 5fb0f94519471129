/- The reduced list of a span: what both sides' reductions leave, without the zero rows; lists that are reduced already. -/
import Derived.Test.YtahlicbjbbpihaaDoorRed
namespace Go.Proofs.YtahlicbjbbpihaaDoor
set_option maxRecDepth 100000
theorem scaleAt_one' {p : Int} {n c : Nat} {rows : List (List Int)} (h : Mat p n c rows) {r : Nat} (hr : r < n) : scaleAt p r 1 rows = rows := by
  unfold scaleAt
  rw [scale_one (h.row hr).2]
  refine ext_getD [] (by simp) fun j hj => ?_
  rw [set_getD _ _ _ _ _ (by rw [h.1]; exact hr)]
  split
  · rename_i e; rw [e]
  · rfl
/-- Nothing to take away in the column: the rows stay. -/
theorem elim_stay {p : Int} {n c : Nat} {rows : List (List Int)} (h : Mat p n c rows) {r col : Nat} (b : List (List Int)) (hz : ∀ m, m < n → m ≠ r → at2 b m col = 0) : elim p r col b rows = rows := by
  refine ext_getD [] (elim_len _ _ _ _ _) fun m hm => ?_
  rw [elim_len] at hm
  rw [elim_get hm]
  have hm' : m < n := by rw [← h.1]; exact hm
  split
  · rfl
  · rename_i hne
    rw [hz m hm' hne, Int.sub_zero, Int.emod_self, axpy_zero (h.row hm').2]
/-- The reduction of the rows does not look at what stands beside them. -/
theorem red_beside (p : Int) (a t t' : List (List Int)) : ∀ k, (red p a t k).a = (red p a t' k).a ∧ (red p a t k).lead = (red p a t' k).lead ∧ (red p a t k).det = (red p a t' k).det ∧ (red p a t k).fac = (red p a t' k).fac
  | 0 => ⟨rfl, rfl, rfl, rfl⟩
  | k + 1 => by
    obtain ⟨h1, h2, h3, h4⟩ := red_beside p a t t' k
    show (stepCol p k (red p a t k)).a = (stepCol p k (red p a t' k)).a ∧ (stepCol p k (red p a t k)).lead = (stepCol p k (red p a t' k)).lead ∧ (stepCol p k (red p a t k)).det = (stepCol p k (red p a t' k)).det ∧ (stepCol p k (red p a t k)).fac = (stepCol p k (red p a t' k)).fac
    unfold stepCol
    rw [h1, h2]
    split
    · simp only [clean, mult, exch, h1, h2, h3, h4]
      exact ⟨trivial, trivial, trivial, trivial⟩
    · exact ⟨h1, h2, h3, h4⟩
/-- No row is left: nothing changes any more. -/
theorem red_full {p : Int} (hf : fld p = true) {n c w : Nat} {a t : List (List Int)} (ha : Mat p n c a) (ht : Mat p n w t) {k : Nat} (hk : k ≤ c) (hr : (red p a t k).lead.length = n) : ∀ d, k + d ≤ c → red p a t (k + d) = red p a t k
  | 0, _ => rfl
  | d + 1, hd => by
    have h := red_full hf ha ht hk hr d (by omega)
    show stepCol p (k + d) (red p a t (k + d)) = _
    rw [h]
    have hI := red_inv hf ha ht k hk
    unfold stepCol
    rw [if_neg]
    have := (piv_spec (rows := (red p a t k).a) (col := k + d) (r := (red p a t k).lead.length) (by rw [hI.a.1]; exact hI.rank)).1
    rw [hI.a.1]
    omega
/-- n rows without elements. -/
def nils (n : Nat) : List (List Int) := List.replicate n []
theorem nils_mat (p : Int) (n : Nat) : Mat p n 0 (nils n) := ⟨by simp [nils], fun r hr => by
  rw [(List.mem_replicate.1 hr).2]
  exact ⟨rfl, fun x hx => by cases hx⟩⟩
def rr (p : Int) (rows : List (List Int)) (c : Nat) : Red := red p rows (nils rows.length) c
/-- The reduced list. -/
def rref (p : Int) (rows : List (List Int)) (c : Nat) : List (List Int) := (rr p rows c).a.take (rr p rows c).lead.length
theorem red_rr (p : Int) (a t : List (List Int)) (k : Nat) : (red p a t k).a = (rr p a k).a ∧ (red p a t k).lead = (rr p a k).lead :=
  ⟨(red_beside p a t _ k).1, (red_beside p a t _ k).2.1⟩
theorem rr_inv {p : Int} (hf : fld p = true) {n c : Nat} {a : List (List Int)} (ha : Mat p n c a) {k : Nat} (hk : k ≤ c) : RInv p n c 0 k (rr p a k) := by
  unfold rr
  rw [ha.1]
  exact red_inv hf ha (nils_mat p n) k hk
/-- The index of the first element other than 0, or the length. -/
def lead0 : List Int → Nat
  | [] => 0
  | x :: xs => if x = 0 then lead0 xs + 1 else 0
theorem lead0_le : ∀ v : List Int, lead0 v ≤ v.length
  | [] => Nat.le_refl _
  | x :: xs => by
    have := lead0_le xs
    unfold lead0
    rw [List.length_cons]
    split <;> omega
theorem lead0_zero : ∀ {v : List Int} {j : Nat}, j < lead0 v → v.getD j 0 = 0
  | [], j, h => absurd h (Nat.not_lt_zero j)
  | x :: xs, j, h => by
    unfold lead0 at h
    split at h
    · rename_i e
      cases j with
      | zero => exact e
      | succ j => exact lead0_zero (v := xs) (j := j) (by omega)
    · exact absurd h (Nat.not_lt_zero j)
theorem lead0_ne : ∀ {v : List Int}, lead0 v < v.length → v.getD (lead0 v) 0 ≠ 0
  | [], h => absurd h (Nat.not_lt_zero _)
  | x :: xs, h => by
    unfold lead0 at h ⊢
    split at h
    · rename_i e
      rw [if_pos e]
      rw [List.length_cons] at h
      exact lead0_ne (v := xs) (by omega)
    · rename_i e
      rw [if_neg e]
      exact e
theorem lead0_eq {v : List Int} {j : Nat} (h1 : j ≤ v.length) (h2 : ∀ i, i < j → v.getD i 0 = 0) (h3 : j < v.length → v.getD j 0 ≠ 0) : lead0 v = j := by
  rcases Nat.lt_trichotomy (lead0 v) j with h | h | h
  · exact absurd (h2 _ h) (lead0_ne (by omega))
  · exact h
  · have := lead0_le v
    exact absurd (lead0_zero h) (h3 (by omega))
/-- A reduced list: the leading indices rise, and a leading element is 1 and the only one of its column. -/
structure IsRed (p : Int) (n c : Nat) (rows : List (List Int)) : Prop where
  mat : Mat p n c rows
  lt : ∀ i, i < n → lead0 (rows.getD i []) < c
  rise : ∀ i j, i < j → j < n → lead0 (rows.getD i []) < lead0 (rows.getD j [])
  unit : ∀ i, i < n → ∀ m, m < n → at2 rows m (lead0 (rows.getD i [])) = if m = i then 1 else 0
theorem Mat.take {p : Int} {n c : Nat} {rows : List (List Int)} (h : Mat p n c rows) {r : Nat} (hr : r ≤ n) : Mat p r c (rows.take r) :=
  ⟨by rw [List.length_take, h.1]; omega, fun x hx => h.2 x (List.mem_of_mem_take hx)⟩
theorem take_getD {α : Type} (l : List α) {i r : Nat} (h : i < r) (d : α) : (l.take r).getD i d = l.getD i d := by
  rw [List.getD_eq_getElem?_getD, List.getD_eq_getElem?_getD, List.getElem?_take_of_lt h]
theorem rref_len {p : Int} (hf : fld p = true) {n c : Nat} {rows : List (List Int)} (h : Mat p n c rows) : (rref p rows c).length = (rr p rows c).lead.length := by
  have hI := rr_inv hf h (Nat.le_refl c)
  unfold rref
  rw [List.length_take, hI.a.1]
  have := hI.rank
  omega
/-- What is left when the columns are reduced is a reduced list. -/
theorem rref_red {p : Int} (hf : fld p = true) {n c : Nat} {rows : List (List Int)} (h : Mat p n c rows) : IsRed p (rr p rows c).lead.length c (rref p rows c) := by
  have hI := rr_inv hf h (Nat.le_refl c)
  have hm : Mat p (rr p rows c).lead.length c (rref p rows c) := hI.a.take hI.rank
  have hl : ∀ i, i < (rr p rows c).lead.length → lead0 ((rref p rows c).getD i []) = (rr p rows c).lead.getD i 0 := fun i hi => by
    have e : (rref p rows c).getD i [] = (rr p rows c).a.getD i [] := take_getD _ hi _
    have hlen := (hm.row hi).1
    refine lead0_eq (by rw [hlen]; exact Nat.le_of_lt (hI.lead i hi)) (fun j hj => ?_) (fun _ => ?_)
    · rw [e]
      exact hI.left i hi j hj
    · rw [e]
      have h1 := hI.unit i hi i (Nat.lt_of_lt_of_le hi hI.rank)
      rw [if_pos rfl] at h1
      unfold at2 at h1
      rw [h1]
      decide
  refine ⟨hm, fun i hi => by rw [hl i hi]; exact hI.lead i hi, fun i j hij hj => by rw [hl i (by omega), hl j hj]; exact hI.rise i j hij hj, fun i hi m hm2 => ?_⟩
  rw [hl i hi]
  have h1 := hI.unit i hi m (Nat.lt_of_lt_of_le hm2 hI.rank)
  unfold at2 at h1 ⊢
  rw [show (rref p rows c).getD m [] = (rr p rows c).a.getD m [] from take_getD _ hm2 _]
  exact h1
theorem inv_one {p : Int} (hf : fld p = true) : inv p 1 = 1 := by
  obtain ⟨hp, _⟩ := fld_bd hf
  exact (inv_unique hf (by omega) (by omega) (x := 1) (by omega) (by omega) (by rw [Int.one_mul]; exact Int.emod_eq_of_lt (by omega) (by omega))).symm
/-- A reduced list stays as it is. -/
theorem red_of_red {p : Int} (hf : fld p = true) {n c : Nat} {rows t : List (List Int)} (h : IsRed p n c rows) : ∀ k, k ≤ c →
    (red p rows t k).a = rows ∧ (red p rows t k).lead.length ≤ n ∧ (∀ i, i < (red p rows t k).lead.length → lead0 (rows.getD i []) < k) ∧ (∀ i, (red p rows t k).lead.length ≤ i → i < n → k ≤ lead0 (rows.getD i []))
  | 0, _ => ⟨rfl, Nat.zero_le _, fun i hi => absurd hi (Nat.not_lt_zero i), fun i _ _ => Nat.zero_le _⟩
  | k + 1, hk => by
    obtain ⟨ha, hl, h1, h2⟩ := red_of_red hf (t := t) h k (by omega)
    show (stepCol p k (red p rows t k)).a = rows ∧ (stepCol p k (red p rows t k)).lead.length ≤ n ∧ (∀ i, i < (stepCol p k (red p rows t k)).lead.length → lead0 (rows.getD i []) < k + 1) ∧ (∀ i, (stepCol p k (red p rows t k)).lead.length ≤ i → i < n → k + 1 ≤ lead0 (rows.getD i []))
    generalize red p rows t k = s at *
    have hz : ∀ i, s.lead.length ≤ i → i < n → lead0 (rows.getD i []) ≠ k → at2 rows i k = 0 := fun i a b e => lead0_zero (v := rows.getD i []) (by have := h2 i a b; omega)
    by_cases c1 : s.lead.length < n ∧ lead0 (rows.getD s.lead.length []) = k
    · obtain ⟨c1, c2⟩ := c1
      have hu := h.unit _ c1
      rw [c2] at hu
      have hpv : piv s.a k s.lead.length = s.lead.length := piv_eq (Nat.le_refl _) (by rw [ha, h.mat.1]; exact hl) (fun j a b => by omega) (fun _ => by rw [ha, hu _ c1, if_pos rfl]; decide)
      have hlt : piv s.a k s.lead.length < s.a.length := by rw [hpv, ha, h.mat.1]; exact c1
      have ea : (stepCol p k s).a = rows := by
        unfold stepCol
        rw [if_pos hlt, hpv]
        show elim p s.lead.length k (scaleAt p s.lead.length (inv p (at2 (swapL s.lead.length s.lead.length s.a) s.lead.length k)) (swapL s.lead.length s.lead.length s.a)) (scaleAt p s.lead.length (inv p (at2 (swapL s.lead.length s.lead.length s.a) s.lead.length k)) (swapL s.lead.length s.lead.length s.a)) = rows
        rw [ha, swapL_self (by rw [h.mat.1]; exact c1), hu _ c1, if_pos rfl, inv_one hf, scaleAt_one' h.mat c1]
        exact elim_stay h.mat _ (fun m hm hne => by rw [hu m hm, if_neg hne])
      have el : (stepCol p k s).lead = s.lead ++ [k] := by
        unfold stepCol
        rw [if_pos hlt]
        rfl
      have ell : (stepCol p k s).lead.length = s.lead.length + 1 := by rw [el]; simp
      refine ⟨ea, by rw [ell]; omega, fun i hi => ?_, fun i hi hn => ?_⟩
      · rw [ell] at hi
        by_cases c3 : i = s.lead.length
        · rw [c3, c2]; omega
        · have := h1 i (by omega); omega
      · rw [ell] at hi
        have := h.rise s.lead.length i (by omega) hn
        omega
    · have hall : ∀ i, s.lead.length ≤ i → i < n → lead0 (rows.getD i []) ≠ k := fun i a b e => by
        by_cases c3 : i = s.lead.length
        · exact c1 ⟨by omega, by rw [← c3]; exact e⟩
        · have h3 := h.rise s.lead.length i (by omega) b
          have h4 := h2 s.lead.length (Nat.le_refl _) (by omega)
          omega
      have hge : ¬ piv s.a k s.lead.length < s.a.length := fun hlt => by
        have hs := piv_spec (rows := s.a) (col := k) (r := s.lead.length) (by rw [ha, h.mat.1]; exact hl)
        have hne := hs.2.2.2 hlt
        rw [ha] at hne hlt hs
        rw [h.mat.1] at hlt
        exact hne (hz _ hs.1 hlt (hall _ hs.1 hlt))
      have e : stepCol p k s = s := by unfold stepCol; rw [if_neg hge]
      rw [e]
      exact ⟨ha, hl, fun i hi => by have := h1 i hi; omega, fun i a b => by have h3 := h2 i a b; have h4 := hall i a b; omega⟩
theorem rref_of_red {p : Int} (hf : fld p = true) {n c : Nat} {rows : List (List Int)} (h : IsRed p n c rows) : rref p rows c = rows := by
  obtain ⟨h1, h2, h3, h4⟩ := red_of_red hf (t := nils rows.length) h c (Nat.le_refl c)
  have hn : (rr p rows c).lead.length = n := by
    by_cases c1 : (rr p rows c).lead.length = n
    · exact c1
    · have h5 := h4 _ (Nat.le_refl _) (Nat.lt_of_le_of_ne h2 c1)
      have h6 := h.lt _ (Nat.lt_of_le_of_ne h2 c1)
      unfold rr at c1
      omega
  unfold rref
  rw [hn, show (rr p rows c).a = rows from h1, List.take_of_length_le (by rw [h.mat.1]; exact Nat.le_refl _)]
/-- A list of rows is the reduced list of its span exactly if it is reduced. -/
theorem rref_iff {p : Int} (hf : fld p = true) {n c : Nat} {rows : List (List Int)} (h : Mat p n c rows) : rref p rows c = rows ↔ IsRed p n c rows := by
  constructor
  · intro e
    have hr := rref_red hf h
    have hl := rref_len hf h
    rw [e] at hr hl
    rw [h.1] at hl
    rw [← hl] at hr
    exact hr
  · exact rref_of_red hf
theorem rref_mat {p : Int} (hf : fld p = true) {n c : Nat} {rows : List (List Int)} (h : Mat p n c rows) : Mat p (rref p rows c).length c (rref p rows c) := by
  rw [rref_len hf h]
  exact (rref_red hf h).mat
theorem IsRed.le {p : Int} {n c : Nat} {rows : List (List Int)} (h : IsRed p n c rows) : n ≤ c := by
  have key : ∀ i, i < n → i ≤ lead0 (rows.getD i []) := by
    intro i
    induction i with
    | zero => intro _; exact Nat.zero_le _
    | succ i ih =>
      intro hi
      have h1 := ih (by omega)
      have h2 := h.rise i (i + 1) (by omega) hi
      omega
  by_cases c1 : n = 0
  · omega
  · have h1 := key (n - 1) (by omega)
    have h2 := h.lt (n - 1) (by omega)
    omega
theorem rref_rref {p : Int} (hf : fld p = true) {n c : Nat} {rows : List (List Int)} (h : Mat p n c rows) : rref p (rref p rows c) c = rref p rows c :=
  rref_of_red hf (rref_red hf h)
theorem rref_le {p : Int} (hf : fld p = true) {n c : Nat} {rows : List (List Int)} (h : Mat p n c rows) : (rref p rows c).length ≤ c := by
  rw [rref_len hf h]
  exact (rref_red hf h).le
end Go.Proofs.YtahlicbjbbpihaaDoor
