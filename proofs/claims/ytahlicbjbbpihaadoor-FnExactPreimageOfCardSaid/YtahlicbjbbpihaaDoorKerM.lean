/- The kernel of a matrix: what is left beside the zero rows of the reduced one spans the null space of the transposed one. Plain mathematics. -/
import Derived.Test.YtahlicbjbbpihaaDoorNullM
import Derived.Test.YtahlicbjbbpihaaDoorMxTurn
namespace Go.Proofs.YtahlicbjbbpihaaDoor
set_option maxRecDepth 100000
/-- Functionals whose values at the first r rows are a unit matrix: what a vector of the span is made of. -/
theorem sp_func {p : Int} (hp : 2 ≤ p) {n c r : Nat} {a : List (List Int)} (φ : Nat → List Int → Int) (ha : Mat p n c a) (hz : ∀ i, i < r → φ i (List.replicate c 0) = 0)
    (hl : ∀ i, i < r → ∀ v k m, v.length = c → m < n → φ i (axpy p v k (a.getD m [])) = (φ i v + k * (if m = i then 1 else 0)) % p) {v : List Int} (hv : Sp p c a v) :
    ∃ w, Sp p c (a.drop r) w ∧ ∀ j, j < c → v.getD j 0 = (w.getD j 0 + dsum (fun i => φ i v) a j r) % p := by
  induction hv with
  | zero => exact ⟨_, Sp.zero, fun j hj => by
      rw [dsum_zero (fun i hi => by rw [hz i hi, Int.zero_mul]), repl_getD]
      simp⟩
  | @add v s k h hs ih =>
    obtain ⟨w, hw, e⟩ := ih
    obtain ⟨m, hm, rfl⟩ := mem_getD [] hs
    have hm' : m < n := by rw [← ha.1]; exact hm
    have hvl : v.length = c := (h.vec hp).1
    have key : ∀ j, dsum (fun i => φ i (axpy p v k (a.getD m []))) a j r % p = (dsum (fun i => φ i v) a j r + k * (if m < r then at2 a m j else 0)) % p := fun j => by
      rw [dsum_congr (fun i hi => hl i hi v k m hvl hm'), dsum_lin, dsum_unit]
    by_cases c1 : m < r
    · refine ⟨w, hw, fun j hj => ?_⟩
      have k2 := key j
      rw [if_pos c1] at k2
      rw [axpy_get (by rw [hvl]; exact hj), e j hj, add_mod_l, ← add_mod_r p (w.getD j 0) (dsum (fun i => φ i (axpy p v k (a.getD m []))) a j r), k2, add_mod_r]
      congr 1
      show _ + k * at2 a m j = _
      omega
    · refine ⟨axpy p w k (a.getD m []), Sp.add k hw ?_, fun j hj => ?_⟩
      · have : (a.drop r).getD (m - r) [] = a.getD m [] := by
          rw [List.getD_eq_getElem?_getD, List.getD_eq_getElem?_getD, List.getElem?_drop, show r + (m - r) = m by omega]
        rw [← this]
        exact getD_mem' (by rw [List.length_drop]; omega) _
      · have k2 := key j
        rw [if_neg c1, Int.mul_zero, Int.add_zero] at k2
        rw [axpy_get (by rw [hvl]; exact hj), axpy_get (by rw [(hw.vec hp).1]; exact hj), e j hj, add_mod_l, add_mod_l, ← add_mod_r p (w.getD j 0 + k * (a.getD m []).getD j 0) (dsum (fun i => φ i (axpy p v k (a.getD m []))) a j r), k2, add_mod_r]
        congr 1
        omega
theorem turn_at {M : List (List Int)} {c j n : Nat} (hj : j < c) (hn : n < M.length) : ((turn M c).getD j []).getD n 0 = at2 M n j := by
  rw [← turnS_end (Nat.le_refl M.length), turnS_row hj, map_getD _ _ _ (by simpa using hn) 0]
  unfold at2
  rw [List.getD_eq_getElem?_getD (l := List.range M.length)]
  simp [hn]
theorem turn_row {M : List (List Int)} {c j : Nat} (hj : j < c) : ((turn M c).getD j []).length = M.length := by
  rw [← turnS_end (Nat.le_refl M.length), turnS_row hj]
  simp
/-- The product of a list with a matrix, at an index, by rows; and by the transposed matrix. -/
theorem dot_turn {M : List (List Int)} {c j : Nat} (hj : j < c) (x : List Int) : ∀ n, n ≤ M.length → dot ((turn M c).getD j []) x n = dsum (fun i => x.getD i 0) M j n
  | 0, _ => rfl
  | n + 1, h => by
    unfold dot dsum
    rw [dot_turn hj x n (by omega), turn_at hj (by omega), Int.mul_comm]
theorem turn_mat {p : Int} {n c : Nat} {M : List (List Int)} (h : Mat p n c M) : Mat p c n (turn M c) := by
  have hn := h.1
  refine Mat.intro (turn_len M c) fun r hr => ⟨by rw [turn_row hr, hn], fun j hj => ?_⟩
  rw [turn_at hr (by omega)]
  exact h.el hj hr
theorem dsum_ax {p k : Int} {f d : Nat → Int} {M : List (List Int)} {j n : Nat} : dsum (fun i => (f i + k * d i) % p) M j n % p = (dsum f M j n % p + k * (dsum d M j n % p)) % p := by
  rw [dsum_lin, add_mod_l, add_mul_mod]
theorem dsum_k {p k : Int} {d : Nat → Int} {M : List (List Int)} {j n : Nat} : dsum (fun i => k * d i % p) M j n % p = k * (dsum d M j n % p) % p := by
  rw [mul_mod_mod]
  have h := dsum_lin (p := p) (k := k) (fun _ => 0) d M j n
  rw [dsum_zero (f := fun _ => 0) (fun i _ => Int.zero_mul _), Int.zero_add] at h
  rw [← h]
  congr 1
  exact dsum_congr fun i _ => by rw [Int.zero_add]
section
variable {p : Int} {n c : Nat} {M : List (List Int)}
/-- Each row of the reduced matrix is the product of the row beside it with the matrix. -/
theorem red_prod (hf : fld p = true) (hM : Mat p n c M) : ∀ k, k ≤ c → ∀ m, m < n → ∀ j, j < c → dsum (fun i => at2 (red p M (idRows n) k).t m i) M j n % p = at2 (red p M (idRows n) k).a m j
  | 0, _ => fun m hm j hj => by
    show dsum (fun i => at2 (idRows n) m i) M j n % p = at2 M m j
    rw [dsum_congr (g := fun i => if m = i then 1 else 0) (fun i _ => by unfold at2; rw [idRows_get hm, unitRow_get hm]), dsum_unit, if_pos hm]
    exact Int.emod_eq_of_lt (hM.el hm hj).1 (hM.el hm hj).2
  | k + 1, hk => by
    obtain ⟨hp, hp97⟩ := fld_bd hf
    have hI := red_inv hf hM (idRows_mat hp n) k (by omega)
    have ih := red_prod hf hM k (by omega)
    show ∀ m, m < n → ∀ j, j < c → dsum (fun i => at2 (stepCol p k (red p M (idRows n) k)).t m i) M j n % p = at2 (stepCol p k (red p M (idRows n) k)).a m j
    generalize red p M (idRows n) k = s at hI ih
    obtain ⟨h1, h2, h3, h4⟩ := piv_spec (rows := s.a) (col := k) (r := s.lead.length) (by rw [hI.a.1]; exact hI.rank)
    unfold stepCol
    split
    · rename_i hlt
      have hlt' : piv s.a k s.lead.length < n := by rw [← hI.a.1]; exact hlt
      have hr : s.lead.length < n := by omega
      have he := hI.exch hp h1 hlt'
      have hk2 : at2 (Go.Proofs.YtahlicbjbbpihaaDoor.exch p (piv s.a k s.lead.length) s).a s.lead.length k ≠ 0 := by
        rw [hI.exch_at h1 hlt']
        exact h4 hlt
      obtain ⟨hm, hm1⟩ := he.mult hf hr (show k < c by omega) hk2
      have e1 : ∀ m, m < n → ∀ j, j < c → dsum (fun i => at2 (Go.Proofs.YtahlicbjbbpihaaDoor.exch p (piv s.a k s.lead.length) s).t m i) M j n % p = at2 (Go.Proofs.YtahlicbjbbpihaaDoor.exch p (piv s.a k s.lead.length) s).a m j := fun m hm' j hj => by
        show dsum (fun i => at2 (swapL s.lead.length (piv s.a k s.lead.length) s.t) m i) M j n % p = at2 (swapL s.lead.length (piv s.a k s.lead.length) s.a) m j
        rw [at2_swap (by rw [hI.a.1]; exact hr) (by rw [hI.a.1]; exact hlt'), dsum_congr (fun i _ => at2_swap (by rw [hI.t.1]; exact hr) (by rw [hI.t.1]; exact hlt') m i)]
        by_cases c1 : m = s.lead.length
        · rw [if_pos c1]
          rw [dsum_congr (g := fun i => at2 s.t (piv s.a k s.lead.length) i) (fun i _ => by rw [if_pos c1])]
          exact ih _ hlt' j hj
        · rw [if_neg c1]
          by_cases c2 : m = piv s.a k s.lead.length
          · rw [if_pos c2]
            rw [dsum_congr (g := fun i => at2 s.t s.lead.length i) (fun i _ => by rw [if_neg c1, if_pos c2])]
            exact ih _ hr j hj
          · rw [if_neg c2]
            rw [dsum_congr (g := fun i => at2 s.t m i) (fun i _ => by rw [if_neg c1, if_neg c2])]
            exact ih m hm' j hj
      have hr1 : (Go.Proofs.YtahlicbjbbpihaaDoor.exch p (piv s.a k s.lead.length) s).lead.length < n := hr
      have e2 : ∀ m, m < n → ∀ j, j < c → dsum (fun i => at2 (Go.Proofs.YtahlicbjbbpihaaDoor.mult p k (Go.Proofs.YtahlicbjbbpihaaDoor.exch p (piv s.a k s.lead.length) s)).t m i) M j n % p = at2 (Go.Proofs.YtahlicbjbbpihaaDoor.mult p k (Go.Proofs.YtahlicbjbbpihaaDoor.exch p (piv s.a k s.lead.length) s)).a m j := fun m hm' j hj => by
        generalize Go.Proofs.YtahlicbjbbpihaaDoor.exch p (piv s.a k s.lead.length) s = s1 at he e1 hr1
        show dsum (fun i => at2 (scaleAt p s1.lead.length (inv p (at2 s1.a s1.lead.length k)) s1.t) m i) M j n % p = at2 (scaleAt p s1.lead.length (inv p (at2 s1.a s1.lead.length k)) s1.a) m j
        rw [at2_scale he.a hr1 _ hj, dsum_congr (fun i hi => at2_scale he.t hr1 _ (m := m) hi)]
        by_cases c1 : m = s1.lead.length
        · rw [if_pos c1, dsum_congr (g := fun i => inv p (at2 s1.a s1.lead.length k) * at2 s1.t s1.lead.length i % p) (fun i _ => by rw [if_pos c1]), dsum_k, e1 _ hr1 j hj]
        · rw [if_neg c1, dsum_congr (g := fun i => at2 s1.t m i) (fun i _ => by rw [if_neg c1])]
          exact e1 m hm' j hj
      have hr2 : (Go.Proofs.YtahlicbjbbpihaaDoor.mult p k (Go.Proofs.YtahlicbjbbpihaaDoor.exch p (piv s.a k s.lead.length) s)).lead.length < n := hr
      intro m hm' j hj
      generalize Go.Proofs.YtahlicbjbbpihaaDoor.mult p k (Go.Proofs.YtahlicbjbbpihaaDoor.exch p (piv s.a k s.lead.length) s) = s2 at hm e2 hr2
      show dsum (fun i => at2 (elim p s2.lead.length k s2.a s2.t) m i) M j n % p = at2 (elim p s2.lead.length k s2.a s2.a) m j
      rw [at2_elim hm.a hm' hj, dsum_congr (fun i hi => at2_elim hm.t hm' hi)]
      by_cases c1 : m = s2.lead.length
      · rw [if_pos c1, dsum_congr (g := fun i => at2 s2.t m i) (fun i _ => by rw [if_pos c1])]
        exact e2 m hm' j hj
      · rw [if_neg c1, dsum_congr (g := fun i => (at2 s2.t m i + (p - at2 s2.a m k) % p * at2 s2.t s2.lead.length i) % p) (fun i _ => by rw [if_neg c1]), dsum_ax, e2 m hm' j hj, e2 _ hr2 j hj]
    · exact ih
/-- The rows beside have the span of those that were there. -/
theorem red_sp_t (hf : fld p = true) {w : Nat} {t : List (List Int)} (ha : Mat p n c M) (ht : Mat p n w t) : ∀ k, k ≤ c → SpEq p w (red p M t k).t t
  | 0, _ => SpEq.refl _ _ _
  | k + 1, hk => by
    obtain ⟨hp, hp97⟩ := fld_bd hf
    have hI := red_inv hf ha ht k (by omega)
    have ih := red_sp_t hf ha ht k (by omega)
    show SpEq p w (stepCol p k (red p M t k)).t t
    generalize red p M t k = s at hI ih
    obtain ⟨h1, h2, h3, h4⟩ := piv_spec (rows := s.a) (col := k) (r := s.lead.length) (by rw [hI.a.1]; exact hI.rank)
    unfold stepCol
    split
    · rename_i hlt
      have hlt' : piv s.a k s.lead.length < n := by rw [← hI.a.1]; exact hlt
      have hr : s.lead.length < n := by omega
      have he := hI.exch hp h1 hlt'
      have hk2 : at2 (Go.Proofs.YtahlicbjbbpihaaDoor.exch p (piv s.a k s.lead.length) s).a s.lead.length k ≠ 0 := by
        rw [hI.exch_at h1 hlt']
        exact h4 hlt
      obtain ⟨hm, hm1⟩ := he.mult hf hr (show k < c by omega) hk2
      have hel2 : 0 ≤ at2 (Go.Proofs.YtahlicbjbbpihaaDoor.exch p (piv s.a k s.lead.length) s).a s.lead.length k ∧ at2 (Go.Proofs.YtahlicbjbbpihaaDoor.exch p (piv s.a k s.lead.length) s).a s.lead.length k < p := he.a.el hr (show k < c by omega)
      have e1 : SpEq p w (Go.Proofs.YtahlicbjbbpihaaDoor.exch p (piv s.a k s.lead.length) s).t s.t := sp_swap hp hI.t hr hlt'
      have e2 : SpEq p w (Go.Proofs.YtahlicbjbbpihaaDoor.mult p k (Go.Proofs.YtahlicbjbbpihaaDoor.exch p (piv s.a k s.lead.length) s)).t (Go.Proofs.YtahlicbjbbpihaaDoor.exch p (piv s.a k s.lead.length) s).t :=
        sp_scale hp he.t hr (inv_mul hf (show 0 < at2 (Go.Proofs.YtahlicbjbbpihaaDoor.exch p (piv s.a k s.lead.length) s).a s.lead.length k by omega) hel2.2)
      have e3 : SpEq p w (Go.Proofs.YtahlicbjbbpihaaDoor.clean p k (Go.Proofs.YtahlicbjbbpihaaDoor.mult p k (Go.Proofs.YtahlicbjbbpihaaDoor.exch p (piv s.a k s.lead.length) s))).t (Go.Proofs.YtahlicbjbbpihaaDoor.mult p k (Go.Proofs.YtahlicbjbbpihaaDoor.exch p (piv s.a k s.lead.length) s)).t :=
        sp_elim hp hm.t hr _ _
      exact ((e3.trans e2).trans e1).trans ih
    · exact ih
/-- The unit rows span all vectors. -/
theorem id_sp (hp : 2 ≤ p) {v : List Int} (hv : Vec p n v) : Sp p n (idRows n) v := by
  have hR : IsRed p 0 n [] := ⟨⟨rfl, fun r hr => by cases hr⟩, fun i h => absurd h (Nat.not_lt_zero i), fun i j _ h => absurd h (Nat.not_lt_zero j), fun i h => absurd h (Nat.not_lt_zero i)⟩
  refine Sp.sub hp (fun r hr => ?_) ((null_rows hp hR v).2 ⟨hv, fun r hr => by cases hr⟩)
  obtain ⟨j, hj, -, rfl⟩ := nullRows_mem.1 hr
  show Sp p n (idRows n) (unitRow n j)
  rw [← idRows_get hj]
  exact Sp.row ((idRows_mat hp n).row hj) (getD_mem' (by rw [idRows_len]; exact hj) _)
theorem Mat.drop {m w : Nat} {a : List (List Int)} (h : Mat p m w a) (r : Nat) : Mat p (m - r) w (a.drop r) := ⟨by rw [List.length_drop, h.1], fun x hx => h.2 x (List.mem_of_mem_drop hx)⟩
theorem dsum_zeros (j k : Nat) : dsum (fun i => (List.replicate n (0 : Int)).getD i 0) M j k = 0 := dsum_zero fun i _ => by rw [repl_getD, Int.zero_mul]
/-- What stands beside the zero rows spans the lists whose product with the matrix is 0. -/
theorem kernel_sp (hf : fld p = true) (hM : Mat p n c M) (v : List Int) : Sp p n ((red p M (idRows n) c).t.drop (red p M (idRows n) c).lead.length) v ↔ Null p n (turn M c) v := by
  have hp := (fld_bd hf).1
  have hI := red_inv hf hM (idRows_mat hp n) c (Nat.le_refl c)
  have hP := red_prod hf hM c (Nat.le_refl c)
  have hT := red_sp_t hf hM (idRows_mat hp n) c (Nat.le_refl c)
  generalize red p M (idRows n) c = s at hI hP hT ⊢
  have hn := hM.1
  have hdrop : ∀ r, r ∈ s.t.drop s.lead.length → ∃ m, s.lead.length ≤ m ∧ m < n ∧ r = s.t.getD m [] := fun r hr => by
    obtain ⟨i, hi, rfl⟩ := mem_getD [] hr
    rw [List.length_drop, hI.t.1] at hi
    refine ⟨s.lead.length + i, by omega, by omega, ?_⟩
    rw [List.getD_eq_getElem?_getD, List.getD_eq_getElem?_getD, List.getElem?_drop]
  constructor
  · refine Null.sub hp fun r hr => ?_
    obtain ⟨m, hm1, hm2, rfl⟩ := hdrop r hr
    refine ⟨hI.t.row hm2, fun q hq => ?_⟩
    obtain ⟨j, hj, rfl⟩ := mem_getD [] hq
    rw [turn_len] at hj
    rw [dot_turn hj _ n (by omega)]
    have h1 := hP m hm2 j hj
    rw [hI.rest m hm1 hm2 j hj] at h1
    exact h1
  · intro hv
    have hsp : Sp p n s.t v := (hT v).2 (id_sp hp hv.1)
    obtain ⟨u, hu, e⟩ := sp_func hp (r := s.lead.length) (fun i x => dsum (fun a => x.getD a 0) M (s.lead.getD i 0) n % p) hI.t (fun i hi => by
        show dsum (fun a => (List.replicate n (0 : Int)).getD a 0) M (s.lead.getD i 0) n % p = 0
        rw [dsum_zeros]; simp) (fun i hi x k m hx hm => by
        show dsum (fun a => (axpy p x k (s.t.getD m [])).getD a 0) M (s.lead.getD i 0) n % p = (dsum (fun a => x.getD a 0) M (s.lead.getD i 0) n % p + k * (if m = i then 1 else 0)) % p
        rw [dsum_congr (g := fun a => (x.getD a 0 + k * at2 s.t m a) % p) (fun a ha => axpy_get (by rw [hx]; exact ha)), dsum_ax, hP m hm _ (hI.lead i hi), hI.unit i hi m hm]) hsp
    have : v = u := Vec.ext hv.1 (hu.vec hp) fun j hj => by
      rw [e j hj, dsum_zero (fun i hi => ?_), Int.add_zero]
      · exact (hu.vec hp).mod hj
      · have h1 := hv.2 _ (getD_mem' (l := turn M c) (by rw [turn_len]; exact hI.lead i hi) [])
        rw [dot_turn (hI.lead i hi) v n (by omega)] at h1
        show dsum (fun a => v.getD a 0) M (s.lead.getD i 0) n % p * _ = 0
        rw [h1, Int.zero_mul]
    rw [this]
    exact hu
/-- The kernel's reduced list, either way. -/
theorem kernel_eq (hf : fld p = true) (hM : Mat p n c M) : rref p ((red p M (idRows n) c).t.drop (red p M (idRows n) c).lead.length) n = nullB p (turn M c) n :=
  nullB_eq hf (turn_mat hM) ((red_inv hf hM (idRows_mat (fld_bd hf).1 n) c (Nat.le_refl c)).t.drop _) (kernel_sp hf hM)
end
end Go.Proofs.YtahlicbjbbpihaaDoor
