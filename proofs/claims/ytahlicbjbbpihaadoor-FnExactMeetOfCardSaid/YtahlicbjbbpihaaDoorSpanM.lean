/- Spans of rows over a field: closed under sums, kept by the reduction; a span has one reduced list alone. Plain mathematics. -/
import Derived.Test.YtahlicbjbbpihaaDoorRref
namespace Go.Proofs.YtahlicbjbbpihaaDoor
set_option maxRecDepth 100000
def Vec (p : Int) (c : Nat) (v : List Int) : Prop := v.length = c ∧ ∀ x, x ∈ v → 0 ≤ x ∧ x < p
theorem Vec.el {p : Int} {c : Nat} {v : List Int} (h : Vec p c v) {j : Nat} (hj : j < c) : 0 ≤ v.getD j 0 ∧ v.getD j 0 < p := h.2 _ (getD_mem' (by rw [h.1]; exact hj) 0)
theorem Vec.zero {p : Int} (hp : 2 ≤ p) (c : Nat) : Vec p c (List.replicate c 0) := ⟨by simp, zeros_bd hp c⟩
theorem Vec.axpy {p : Int} (hp : 2 ≤ p) {c : Nat} {v : List Int} (h : v.length = c) (k : Int) (r : List Int) : Vec p c (axpy p v k r) := ⟨by rw [axpy_len, h], axpy_bd hp⟩
theorem Vec.ext {p q : Int} {c : Nat} {u v : List Int} (hu : Vec p c u) (hv : Vec q c v) (h : ∀ j, j < c → u.getD j 0 = v.getD j 0) : u = v :=
  ext_getD 0 (by rw [hu.1, hv.1]) fun j hj => h j (by rw [hu.1] at hj; exact hj)
theorem Mat.vec {p : Int} {n c : Nat} {rows : List (List Int)} (h : Mat p n c rows) {r : List Int} (hr : r ∈ rows) : Vec p c r := h.2 r hr
theorem Vec.mod {p : Int} {c : Nat} {v : List Int} (h : Vec p c v) {j : Nat} (hj : j < c) : v.getD j 0 % p = v.getD j 0 := Int.emod_eq_of_lt (h.el hj).1 (h.el hj).2
theorem add_mod_l (p a b : Int) : (a % p + b) % p = (a + b) % p := by rw [Int.add_emod, Int.emod_emod_of_dvd _ (Int.dvd_refl p), ← Int.add_emod]
theorem add_mod_r (p a b : Int) : (a + b % p) % p = (a + b) % p := by rw [Int.add_emod, Int.emod_emod_of_dvd _ (Int.dvd_refl p), ← Int.add_emod]
theorem add_mul_mod (p a k b : Int) : (a + k * (b % p)) % p = (a + k * b) % p := by rw [Int.add_emod, mul_mod_mod, ← Int.add_emod]
theorem mod_mul_add (p a k b : Int) : (a + k % p * b) % p = (a + k * b) % p := by rw [Int.add_emod, mod_mul_mod, ← Int.add_emod]
theorem axpy_axpy {p : Int} {u v r : List Int} {k j : Int} (h : u.length = v.length) : axpy p u k (axpy p v j r) = axpy p (axpy p u k v) (k * j) r := by
  refine ext_getD 0 (by simp [axpy_len]) fun i hi => ?_
  rw [axpy_len] at hi
  rw [axpy_get hi, axpy_get (by rw [← h]; exact hi), axpy_get (by rw [axpy_len]; exact hi), axpy_get hi, add_mul_mod, add_mod_l]
  congr 1
  grind
theorem axpy_zeros {p : Int} {u : List Int} {k : Int} {c : Nat} (h : ∀ x, x ∈ u → 0 ≤ x ∧ x < p) : axpy p u k (List.replicate c 0) = u := by
  refine ext_getD 0 (axpy_len _ _ _ _) fun j hj => ?_
  rw [axpy_len] at hj
  rw [axpy_get hj, repl_getD, Int.mul_zero, Int.add_zero]
  have := h _ (getD_mem' hj 0)
  exact Int.emod_eq_of_lt this.1 this.2
theorem zeros_axpy {p : Int} {u : List Int} (h : ∀ x, x ∈ u → 0 ≤ x ∧ x < p) : axpy p (List.replicate u.length 0) 1 u = u := by
  refine ext_getD 0 (by simp [axpy_len]) fun j hj => ?_
  rw [axpy_len, List.length_replicate] at hj
  rw [axpy_get (by simpa using hj), repl_getD, Int.one_mul, Int.zero_add]
  have := h _ (getD_mem' hj 0)
  exact Int.emod_eq_of_lt this.1 this.2
theorem zeros_axpy_scale {p : Int} {u : List Int} {k : Int} : axpy p (List.replicate u.length 0) k u = scale p k u := by
  refine ext_getD 0 (by simp [axpy_len, scale_len]) fun j hj => ?_
  rw [axpy_len, List.length_replicate] at hj
  rw [axpy_get (by simpa using hj), repl_getD, scale_get hj, Int.zero_add]
/-- The span of the rows. -/
inductive Sp (p : Int) (c : Nat) (rows : List (List Int)) : List Int → Prop
  | zero : Sp p c rows (List.replicate c 0)
  | add {v r : List Int} (k : Int) (h : Sp p c rows v) (hr : r ∈ rows) : Sp p c rows (axpy p v k r)
section
variable {p : Int} {c : Nat} {rows : List (List Int)}
theorem Sp.vec (hp : 2 ≤ p) {v : List Int} (h : Sp p c rows v) : Vec p c v := by
  induction h with
  | zero => exact Vec.zero hp c
  | add k h hr ih => exact Vec.axpy hp ih.1 k _
theorem Sp.comb (hp : 2 ≤ p) {u v : List Int} (hu : Sp p c rows u) (k : Int) (hv : Sp p c rows v) : Sp p c rows (axpy p u k v) := by
  induction hv with
  | zero => rw [axpy_zeros (hu.vec hp).2]; exact hu
  | @add v r j h hr ih =>
    rw [axpy_axpy (by rw [(hu.vec hp).1, (h.vec hp).1])]
    exact Sp.add _ ih hr
theorem Sp.row {r : List Int} (hv : Vec p c r) (hr : r ∈ rows) : Sp p c rows r := by
  have := Sp.add (p := p) (c := c) 1 Sp.zero hr
  rw [← hv.1, zeros_axpy hv.2, hv.1] at this
  exact this
theorem Sp.scale {r : List Int} (k : Int) (hv : r.length = c) (hr : r ∈ rows) : Sp p c rows (scale p k r) := by
  have := Sp.add (p := p) (c := c) k Sp.zero hr
  rw [← hv, zeros_axpy_scale, hv] at this
  exact this
theorem Sp.sub (hp : 2 ≤ p) {b : List (List Int)} (h : ∀ r, r ∈ rows → Sp p c b r) {v : List Int} (hv : Sp p c rows v) : Sp p c b v := by
  induction hv with
  | zero => exact Sp.zero
  | add k _ hr ih => exact Sp.comb hp ih k (h _ hr)
end
/-- Two lists of rows have one span. -/
def SpEq (p : Int) (c : Nat) (a b : List (List Int)) : Prop := ∀ v, Sp p c a v ↔ Sp p c b v
theorem SpEq.refl (p : Int) (c : Nat) (a : List (List Int)) : SpEq p c a a := fun _ => Iff.rfl
theorem SpEq.symm {p : Int} {c : Nat} {a b : List (List Int)} (h : SpEq p c a b) : SpEq p c b a := fun v => (h v).symm
theorem SpEq.trans {p : Int} {c : Nat} {a b d : List (List Int)} (h : SpEq p c a b) (h2 : SpEq p c b d) : SpEq p c a d := fun v => (h v).trans (h2 v)
theorem SpEq.of {p : Int} (hp : 2 ≤ p) {c : Nat} {a b : List (List Int)} (h : ∀ r, r ∈ a → Sp p c b r) (h2 : ∀ r, r ∈ b → Sp p c a r) : SpEq p c a b := fun _ => ⟨Sp.sub hp h, Sp.sub hp h2⟩
theorem mem_getD {α : Type} {l : List α} {x : α} (d : α) (h : x ∈ l) : ∃ i, i < l.length ∧ l.getD i d = x := by
  obtain ⟨i, hi, rfl⟩ := List.getElem_of_mem h
  exact ⟨i, hi, by rw [List.getD_eq_getElem?_getD, List.getElem?_eq_getElem hi]; rfl⟩
/-! ### The row operations keep the span -/
section
variable {p : Int} {n c : Nat} {rows : List (List Int)}
theorem sp_swap (hp : 2 ≤ p) (h : Mat p n c rows) {r i : Nat} (hr : r < n) (hi : i < n) : SpEq p c (swapL r i rows) rows := by
  have hr' : r < rows.length := by rw [h.1]; exact hr
  have hi' : i < rows.length := by rw [h.1]; exact hi
  have hm := h.swap hr hi
  refine SpEq.of hp (fun x hx => ?_) (fun x hx => ?_)
  · obtain ⟨m, hm2, rfl⟩ := mem_getD [] hx
    refine Sp.row (hm.vec hx) ?_
    rw [swapL_len] at hm2
    rw [swapL_get hr' hi']
    split
    · exact getD_mem' hi' _
    · split
      · exact getD_mem' hr' _
      · exact getD_mem' hm2 _
  · obtain ⟨m, hm2, rfl⟩ := mem_getD [] hx
    refine Sp.row (h.vec hx) ?_
    by_cases c1 : m = r
    · have : (swapL r i rows).getD i [] = rows.getD m [] := by
        rw [swapL_get hr' hi']
        split
        · rename_i e; rw [e, c1]
        · rw [if_pos rfl, c1]
      rw [← this]
      exact getD_mem' (by rw [swapL_len]; exact hi') _
    · by_cases c2 : m = i
      · have : (swapL r i rows).getD r [] = rows.getD m [] := by rw [swapL_get hr' hi', if_pos rfl, c2]
        rw [← this]
        exact getD_mem' (by rw [swapL_len]; exact hr') _
      · have : (swapL r i rows).getD m [] = rows.getD m [] := by rw [swapL_get hr' hi', if_neg c1, if_neg c2]
        rw [← this]
        exact getD_mem' (by rw [swapL_len]; exact hm2) _
theorem scale_scale {p k j : Int} {r : List Int} (hr : ∀ x, x ∈ r → 0 ≤ x ∧ x < p) (h : k * j % p = 1) : scale p k (scale p j r) = r := by
  refine ext_getD 0 (by simp [scale_len]) fun i hi => ?_
  rw [scale_len, scale_len] at hi
  rw [scale_get (by rw [scale_len]; exact hi), scale_get hi, mul_mod_mod, ← Int.mul_assoc, ← mod_mul_mod, h, Int.one_mul]
  have := hr _ (getD_mem' hi 0)
  exact Int.emod_eq_of_lt this.1 this.2
theorem sp_scale (hp : 2 ≤ p) (h : Mat p n c rows) {r : Nat} (hr : r < n) {k j : Int} (hk : j * k % p = 1) : SpEq p c (scaleAt p r k rows) rows := by
  have hr' : r < rows.length := by rw [h.1]; exact hr
  have hm := h.scaleAt hp hr k
  refine SpEq.of hp (fun x hx => ?_) (fun x hx => ?_)
  · obtain ⟨m, hm2, rfl⟩ := mem_getD [] hx
    rw [scaleAt_len] at hm2
    rw [scaleAt_get hr']
    split
    · exact Sp.scale k (h.row hr).1 (getD_mem' hr' _)
    · exact Sp.row (h.row (by rw [← h.1]; exact hm2)) (getD_mem' hm2 _)
  · obtain ⟨m, hm2, rfl⟩ := mem_getD [] hx
    by_cases c1 : m = r
    · subst c1
      have e : (scaleAt p m k rows).getD m [] = scale p k (rows.getD m []) := by rw [scaleAt_get hr', if_pos rfl]
      have := Sp.scale (p := p) (c := c) j (by rw [e, scale_len]; exact (h.row hr).1) (getD_mem' (l := scaleAt p m k rows) (by rw [scaleAt_len]; exact hm2) [])
      rw [e, scale_scale (h.row hr).2 hk] at this
      exact this
    · have e : (scaleAt p r k rows).getD m [] = rows.getD m [] := by rw [scaleAt_get hr', if_neg c1]
      rw [← e]
      exact Sp.row (by rw [e]; exact h.row (by rw [← h.1]; exact hm2)) (getD_mem' (by rw [scaleAt_len]; exact hm2) _)
theorem axpy_back {p k : Int} {a s : List Int} (ha : ∀ x, x ∈ a → 0 ≤ x ∧ x < p) : axpy p (axpy p a k s) (-k) s = a := by
  refine ext_getD 0 (by simp [axpy_len]) fun i hi => ?_
  rw [axpy_len, axpy_len] at hi
  rw [axpy_get (by rw [axpy_len]; exact hi), axpy_get hi, add_mod_l, show a.getD i 0 + k * s.getD i 0 + -k * s.getD i 0 = a.getD i 0 by grind]
  have := ha _ (getD_mem' hi 0)
  exact Int.emod_eq_of_lt this.1 this.2
theorem sp_elim (hp : 2 ≤ p) (h : Mat p n c rows) {r : Nat} (hr : r < n) (col : Nat) (b : List (List Int)) : SpEq p c (elim p r col b rows) rows := by
  have hr' : r < rows.length := by rw [h.1]; exact hr
  have hm := h.elim hp r col b
  have er : (elim p r col b rows).getD r [] = rows.getD r [] := by rw [elim_get hr', if_pos rfl]
  refine SpEq.of hp (fun x hx => ?_) (fun x hx => ?_)
  · obtain ⟨m, hm2, rfl⟩ := mem_getD [] hx
    rw [elim_len] at hm2
    have hv := h.row (show m < n by rw [← h.1]; exact hm2)
    rw [elim_get hm2]
    split
    · exact Sp.row hv (getD_mem' hm2 _)
    · exact Sp.add _ (Sp.row hv (getD_mem' hm2 _)) (getD_mem' hr' _)
  · obtain ⟨m, hm2, rfl⟩ := mem_getD [] hx
    have hv := h.row (show m < n by rw [← h.1]; exact hm2)
    have hmem : (elim p r col b rows).getD m [] ∈ elim p r col b rows := getD_mem' (by rw [elim_len]; exact hm2) _
    by_cases c1 : m = r
    · have e : rows.getD m [] = (elim p r col b rows).getD m [] := by rw [c1, er]
      rw [e]
      exact Sp.row (hm.vec hmem) hmem
    · have e : (elim p r col b rows).getD m [] = axpy p (rows.getD m []) ((p - at2 b m col) % p) (rows.getD r []) := by rw [elim_get hm2, if_neg c1]
      have := Sp.add (-((p - at2 b m col) % p)) (Sp.row (hm.vec hmem) hmem) (getD_mem' (l := elim p r col b rows) (by rw [elim_len]; exact hr') [])
      rw [e, er, axpy_back hv.2] at this
      exact this
end
/-- The reduction keeps the span of the rows. -/
theorem red_sp {p : Int} (hf : fld p = true) {n c w : Nat} {a t : List (List Int)} (ha : Mat p n c a) (ht : Mat p n w t) : ∀ k, k ≤ c → SpEq p c (red p a t k).a a
  | 0, _ => SpEq.refl _ _ _
  | k + 1, hk => by
    obtain ⟨hp, hp97⟩ := fld_bd hf
    have hI := red_inv hf ha ht k (by omega)
    have ih := red_sp hf ha ht k (by omega)
    show SpEq p c (stepCol p k (red p a t k)).a a
    generalize red p a t k = s at hI ih
    obtain ⟨h1, h2, h3, h4⟩ := piv_spec (rows := s.a) (col := k) (r := s.lead.length) (by rw [hI.a.1]; exact hI.rank)
    unfold stepCol
    split
    · rename_i hlt
      have hlt' : piv s.a k s.lead.length < n := by rw [← hI.a.1]; exact hlt
      have hr : s.lead.length < n := by omega
      have he := hI.exch hp h1 hlt'
      have hk2 : at2 (Go.Proofs.YtahlicbjbbpihaaDoor.exch p (piv s.a k s.lead.length) s).a s.lead.length k ≠ 0 := by
        rw [hI.exch_at h1 hlt']
        exact h4 hlt
      obtain ⟨hm, hm1⟩ := he.mult hf hr (show k < c by omega) hk2
      have hel := he.a.el hr (show k < c by omega)
      have e1 : SpEq p c (Go.Proofs.YtahlicbjbbpihaaDoor.exch p (piv s.a k s.lead.length) s).a s.a := sp_swap hp hI.a hr hlt'
      have hel2 : 0 ≤ at2 (Go.Proofs.YtahlicbjbbpihaaDoor.exch p (piv s.a k s.lead.length) s).a s.lead.length k ∧ at2 (Go.Proofs.YtahlicbjbbpihaaDoor.exch p (piv s.a k s.lead.length) s).a s.lead.length k < p := hel
      have e2 : SpEq p c (Go.Proofs.YtahlicbjbbpihaaDoor.mult p k (Go.Proofs.YtahlicbjbbpihaaDoor.exch p (piv s.a k s.lead.length) s)).a (Go.Proofs.YtahlicbjbbpihaaDoor.exch p (piv s.a k s.lead.length) s).a :=
        sp_scale hp he.a hr (inv_mul hf (show 0 < at2 (Go.Proofs.YtahlicbjbbpihaaDoor.exch p (piv s.a k s.lead.length) s).a s.lead.length k by omega) hel2.2)
      have e3 : SpEq p c (Go.Proofs.YtahlicbjbbpihaaDoor.clean p k (Go.Proofs.YtahlicbjbbpihaaDoor.mult p k (Go.Proofs.YtahlicbjbbpihaaDoor.exch p (piv s.a k s.lead.length) s))).a (Go.Proofs.YtahlicbjbbpihaaDoor.mult p k (Go.Proofs.YtahlicbjbbpihaaDoor.exch p (piv s.a k s.lead.length) s)).a :=
        sp_elim hp hm.a hr _ _
      exact ((e3.trans e2).trans e1).trans ih
    · exact ih
theorem sp_drop_zero {p : Int} (hp : 2 ≤ p) {n c r : Nat} {a : List (List Int)} (ha : Mat p n c a) (hz : ∀ m, r ≤ m → m < n → ∀ j, j < c → at2 a m j = 0) : SpEq p c (a.take r) a := by
  refine SpEq.of hp (fun x hx => Sp.row (ha.vec (List.mem_of_mem_take hx)) (List.mem_of_mem_take hx)) (fun x hx => ?_)
  obtain ⟨m, hm, rfl⟩ := mem_getD [] hx
  have hm' : m < n := by rw [← ha.1]; exact hm
  by_cases c1 : m < r
  · refine Sp.row (ha.row hm') ?_
    rw [← take_getD a c1]
    exact getD_mem' (by rw [List.length_take]; omega) _
  · have : a.getD m [] = List.replicate c 0 := Vec.ext (ha.row hm') (Vec.zero hp c) fun j hj => by
      rw [repl_getD]
      exact hz m (by omega) hm' j hj
    rw [this]
    exact Sp.zero
/-- The reduced list has the span of the rows. -/
theorem rref_sp {p : Int} (hf : fld p = true) {n c : Nat} {rows : List (List Int)} (h : Mat p n c rows) : SpEq p c (rref p rows c) rows := by
  have hp := (fld_bd hf).1
  have hI := rr_inv hf h (Nat.le_refl c)
  have e1 : SpEq p c (rr p rows c).a rows := by
    unfold rr
    rw [h.1]
    exact red_sp hf h (nils_mat p n) c (Nat.le_refl c)
  exact (sp_drop_zero hp hI.a fun m h1 h2 j hj => hI.rest m h1 h2 j hj).trans e1
/-! ### Coordinates -/
/-- The sum of the first r rows' elements at j, each multiplied by its factor. -/
def dsum (f : Nat → Int) (rows : List (List Int)) (j : Nat) : Nat → Int
  | 0 => 0
  | r + 1 => dsum f rows j r + f r * at2 rows r j
theorem dsum_lin {p k : Int} (f d : Nat → Int) (rows : List (List Int)) (j : Nat) : ∀ r, dsum (fun i => (f i + k * d i) % p) rows j r % p = (dsum f rows j r + k * dsum d rows j r) % p
  | 0 => by simp [dsum]
  | r + 1 => by
    have ih := dsum_lin (p := p) (k := k) f d rows j r
    simp only [dsum]
    rw [← add_mod_l, ih, add_mod_l, mod_mul_add]
    congr 1
    grind
theorem dsum_congr {f g : Nat → Int} {rows : List (List Int)} {j : Nat} : ∀ {r : Nat}, (∀ i, i < r → f i = g i) → dsum f rows j r = dsum g rows j r
  | 0, _ => rfl
  | r + 1, h => by
    simp only [dsum]
    rw [dsum_congr (r := r) fun i hi => h i (by omega), h r (by omega)]
theorem dsum_zero {f : Nat → Int} {rows : List (List Int)} {j : Nat} : ∀ {r : Nat}, (∀ i, i < r → f i * at2 rows i j = 0) → dsum f rows j r = 0
  | 0, _ => rfl
  | r + 1, h => by
    simp only [dsum]
    rw [dsum_zero (r := r) fun i hi => h i (by omega), h r (by omega), Int.add_zero]
theorem dsum_unit {rows : List (List Int)} {j m : Nat} : ∀ {r : Nat}, dsum (fun i => if m = i then 1 else 0) rows j r = if m < r then at2 rows m j else 0
  | 0 => by simp [dsum]
  | r + 1 => by
    simp only [dsum]
    rw [dsum_unit (r := r)]
    by_cases c1 : m < r
    · rw [if_pos c1, if_pos (show m < r + 1 by omega), if_neg (show ¬ m = r by omega)]
      omega
    · by_cases c2 : m = r
      · rw [if_neg c1, if_pos (show m < r + 1 by omega), if_pos c2, c2]
        omega
      · rw [if_neg c1, if_neg (show ¬ m < r + 1 by omega), if_neg c2]
        omega
theorem dsum_ne {f : Nat → Int} {rows : List (List Int)} {j : Nat} : ∀ {r : Nat}, dsum f rows j r ≠ 0 → ∃ i, i < r ∧ f i ≠ 0 ∧ at2 rows i j ≠ 0
  | 0, h => absurd rfl h
  | r + 1, h => by
    simp only [dsum] at h
    by_cases c1 : dsum f rows j r = 0
    · rw [c1, Int.zero_add] at h
      refine ⟨r, by omega, fun e => h (by rw [e, Int.zero_mul]), fun e => h (by rw [e, Int.mul_zero])⟩
    · obtain ⟨i, hi, h2⟩ := dsum_ne c1
      exact ⟨i, by omega, h2⟩
/-- Rows whose first r ones have unit columns: what a vector of the span is made of. -/
theorem sp_coords {p : Int} (hp : 2 ≤ p) {n c r : Nat} {a : List (List Int)} {l : Nat → Nat} (ha : Mat p n c a) (hl : ∀ i, i < r → l i < c) (hu : ∀ i, i < r → ∀ m, m < n → at2 a m (l i) = if m = i then 1 else 0) {v : List Int} (hv : Sp p c a v) :
    ∃ w, Sp p c (a.drop r) w ∧ ∀ j, j < c → v.getD j 0 = (w.getD j 0 + dsum (fun i => v.getD (l i) 0) a j r) % p := by
  induction hv with
  | zero => exact ⟨_, Sp.zero, fun j hj => by
      rw [dsum_zero (fun i _ => by rw [repl_getD, Int.zero_mul]), repl_getD]
      simp⟩
  | @add v s k h hs ih =>
    obtain ⟨w, hw, e⟩ := ih
    obtain ⟨m, hm, rfl⟩ := mem_getD [] hs
    have hm' : m < n := by rw [← ha.1]; exact hm
    have hvl : v.length = c := (h.vec hp).1
    have hfl : ∀ i, i < r → (axpy p v k (a.getD m [])).getD (l i) 0 = (v.getD (l i) 0 + k * (if m = i then 1 else 0)) % p := fun i hi => by
      rw [axpy_get (by rw [hvl]; exact hl i hi)]
      have := hu i hi m hm'
      unfold at2 at this
      rw [this]
    have key : ∀ j, dsum (fun i => (axpy p v k (a.getD m [])).getD (l i) 0) a j r % p = (dsum (fun i => v.getD (l i) 0) a j r + k * (if m < r then at2 a m j else 0)) % p := fun j => by
      rw [dsum_congr hfl, dsum_lin, dsum_unit]
    by_cases c1 : m < r
    · refine ⟨w, hw, fun j hj => ?_⟩
      have k2 := key j
      rw [if_pos c1] at k2
      rw [axpy_get (by rw [hvl]; exact hj), e j hj, add_mod_l, ← add_mod_r p (w.getD j 0) (dsum (fun i => (axpy p v k (a.getD m [])).getD (l i) 0) a j r), k2, add_mod_r]
      congr 1
      show _ + k * at2 a m j = _
      omega
    · refine ⟨axpy p w k (a.getD m []), Sp.add k hw ?_, fun j hj => ?_⟩
      · have : (a.drop r).getD (m - r) [] = a.getD m [] := by
          rw [List.getD_eq_getElem?_getD, List.getD_eq_getElem?_getD, List.getElem?_drop, show r + (m - r) = m by omega]
        rw [← this]
        exact getD_mem' (by rw [List.length_drop]; omega) _
      · have k2 := key j
        rw [if_neg c1, Int.mul_zero, Int.add_zero] at k2
        rw [axpy_get (by rw [hvl]; exact hj), axpy_get (by rw [(hw.vec hp).1]; exact hj), e j hj, add_mod_l, add_mod_l, ← add_mod_r p (w.getD j 0 + k * (a.getD m []).getD j 0) (dsum (fun i => (axpy p v k (a.getD m [])).getD (l i) 0) a j r), k2, add_mod_r]
        congr 1
        omega
theorem sp_nil {p : Int} {c : Nat} {w : List Int} (h : Sp p c [] w) : w = List.replicate c 0 := by
  cases h with
  | zero => rfl
  | add _ _ hr => cases hr
/-- A vector of the span of a reduced list is made of its elements at the leading indices. -/
theorem IsRed.coords {p : Int} (hp : 2 ≤ p) {n c : Nat} {a : List (List Int)} (h : IsRed p n c a) {v : List Int} (hv : Sp p c a v) : ∀ j, j < c → v.getD j 0 = dsum (fun i => v.getD (lead0 (a.getD i [])) 0) a j n % p := by
  obtain ⟨w, hw, e⟩ := sp_coords hp (r := n) (l := fun i => lead0 (a.getD i [])) h.mat h.lt h.unit hv
  rw [List.drop_eq_nil_of_le (by rw [h.mat.1]; exact Nat.le_refl _)] at hw
  have := sp_nil hw
  intro j hj
  rw [e j hj, this, repl_getD, Int.zero_add]
theorem IsRed.lead {p : Int} (hp : 2 ≤ p) {n c : Nat} {a : List (List Int)} (h : IsRed p n c a) {v : List Int} (hv : Sp p c a v) (hn : lead0 v < c) : ∃ i, i < n ∧ lead0 v = lead0 (a.getD i []) := by
  have hvl := (hv.vec hp).1
  have hne := lead0_ne (v := v) (by rw [hvl]; exact hn)
  have e := h.coords hp hv _ hn
  have hd : dsum (fun i => v.getD (lead0 (a.getD i [])) 0) a (lead0 v) n ≠ 0 := fun c0 => by
    rw [c0] at e
    exact hne (by rw [e]; simp)
  obtain ⟨i, hi, h1, h2⟩ := dsum_ne hd
  refine ⟨i, hi, ?_⟩
  rcases Nat.lt_trichotomy (lead0 v) (lead0 (a.getD i [])) with h3 | h3 | h3
  · exact absurd (lead0_zero h3) h2
  · exact h3
  · exact absurd (lead0_zero h3) h1
theorem rise_unique {n m : Nat} {l s : Nat → Nat} (hl : ∀ i j, i < j → j < n → l i < l j) (hs : ∀ i j, i < j → j < m → s i < s j) (h1 : ∀ i, i < n → ∃ k, k < m ∧ l i = s k) (h2 : ∀ i, i < m → ∃ k, k < n ∧ s i = l k) : ∀ i, i < n → i < m ∧ l i = s i := by
  intro i
  induction i using Nat.strongRecOn with
  | ind i ih =>
    intro hi
    obtain ⟨k, hk, e⟩ := h1 i hi
    have hki : i ≤ k := by
      refine Nat.not_lt.1 fun c => ?_
      have h3 := (ih k c (by omega)).2
      have h4 := hl k i c hi
      omega
    have him : i < m := by omega
    obtain ⟨k2, hk2, e2⟩ := h2 i him
    have hk2i : i ≤ k2 := by
      refine Nat.not_lt.1 fun c => ?_
      have h3 := (ih k2 c hk2).2
      have h4 := hs k2 i c him
      omega
    refine ⟨him, ?_⟩
    have h5 : s i ≤ s k := by
      by_cases c : i = k
      · rw [c]; exact Nat.le_refl _
      · exact Nat.le_of_lt (hs i k (by omega) hk)
    have h6 : l i ≤ l k2 := by
      by_cases c : i = k2
      · rw [c]; exact Nat.le_refl _
      · exact Nat.le_of_lt (hl i k2 (by omega) hk2)
    omega
/-- Two reduced lists of one span are the same. -/
theorem IsRed.unique {p : Int} (hp : 2 ≤ p) {n m c : Nat} {a b : List (List Int)} (ha : IsRed p n c a) (hb : IsRed p m c b) (h : SpEq p c a b) : a = b := by
  have la : ∀ i, i < n → ∃ k, k < m ∧ lead0 (a.getD i []) = lead0 (b.getD k []) := fun i hi =>
    hb.lead hp ((h _).1 (Sp.row (ha.mat.row hi) (getD_mem' (by rw [ha.mat.1]; exact hi) _))) (ha.lt i hi)
  have lb : ∀ i, i < m → ∃ k, k < n ∧ lead0 (b.getD i []) = lead0 (a.getD k []) := fun i hi =>
    ha.lead hp ((h _).2 (Sp.row (hb.mat.row hi) (getD_mem' (by rw [hb.mat.1]; exact hi) _))) (hb.lt i hi)
  have e1 := rise_unique ha.rise hb.rise la lb
  have e2 := rise_unique hb.rise ha.rise lb la
  have hnm : n = m := by
    have h3 : n ≤ m := Nat.not_lt.1 fun c => by have := (e1 m c).1; omega
    have h4 : m ≤ n := Nat.not_lt.1 fun c => by have := (e2 n c).1; omega
    omega
  subst hnm
  refine ha.mat.ext hb.mat fun r hr j hj => ?_
  have hs := (h _).1 (Sp.row (ha.mat.row hr) (getD_mem' (l := a) (by rw [ha.mat.1]; exact hr) []))
  rw [hb.coords hp hs j hj, dsum_congr (g := fun i => if r = i then 1 else 0) (fun i hi => by
    show (a.getD r []).getD (lead0 (b.getD i [])) 0 = _
    rw [← (e1 i hi).2]
    exact ha.unit i hi r hr), dsum_unit, if_pos hr]
  exact Int.emod_eq_of_lt (hb.mat.el hr hj).1 (hb.mat.el hr hj).2
/-- Rows of one span have one reduced list. -/
theorem rref_eq {p : Int} (hf : fld p = true) {n m c : Nat} {a b : List (List Int)} (ha : Mat p n c a) (hb : Mat p m c b) (h : SpEq p c a b) : rref p a c = rref p b c :=
  (rref_red hf ha).unique (fld_bd hf).1 (rref_red hf hb) (((rref_sp hf ha).trans h).trans (rref_sp hf hb).symm)
end Go.Proofs.YtahlicbjbbpihaaDoor
