/- The reduction of a matrix, step by step, as both sides make it; what holds at each column. -/
import Derived.Test.YtahlicbjbbpihaaDoorMx
namespace Go.Proofs.YtahlicbjbbpihaaDoor
set_option maxRecDepth 100000
def at2 (rows : List (List Int)) (r j : Nat) : Int := (rows.getD r []).getD j 0
/-- The first row from i on with an element other than 0 in the column, with fuel. -/
def pivFrom (rows : List (List Int)) (col : Nat) : Nat → Nat → Nat
  | 0, i => i
  | f + 1, i => if at2 rows i col = 0 then pivFrom rows col f (i + 1) else i
def piv (rows : List (List Int)) (col r : Nat) : Nat := pivFrom rows col (rows.length - r) r
theorem pivFrom_eq {rows : List (List Int)} {col : Nat} : ∀ {f r i : Nat}, r ≤ i → i ≤ r + f → (∀ j, r ≤ j → j < i → at2 rows j col = 0) → (i < r + f → at2 rows i col ≠ 0) → pivFrom rows col f r = i
  | 0, r, i, h1, h2, _, _ => by unfold pivFrom; omega
  | f + 1, r, i, h1, h2, h3, h4 => by
    unfold pivFrom
    by_cases c : r = i
    · rw [if_neg (by rw [c]; exact h4 (by omega))]
      exact c
    · rw [if_pos (h3 r (Nat.le_refl _) (by omega))]
      exact pivFrom_eq (by omega) (by omega) (fun j a b => h3 j (by omega) b) (fun a => h4 (by omega))
theorem piv_eq {rows : List (List Int)} {col r i : Nat} (h1 : r ≤ i) (h2 : i ≤ rows.length) (h3 : ∀ j, r ≤ j → j < i → at2 rows j col = 0) (h4 : i < rows.length → at2 rows i col ≠ 0) : piv rows col r = i :=
  pivFrom_eq h1 (by omega) h3 (fun a => h4 (by omega))
theorem pivFrom_spec (rows : List (List Int)) (col : Nat) : ∀ f r, r ≤ pivFrom rows col f r ∧ pivFrom rows col f r ≤ r + f ∧ (∀ j, r ≤ j → j < pivFrom rows col f r → at2 rows j col = 0) ∧ (pivFrom rows col f r < r + f → at2 rows (pivFrom rows col f r) col ≠ 0)
  | 0, r => ⟨Nat.le_refl _, Nat.le_refl _, fun j a b => by unfold pivFrom at b; omega, fun a => by unfold pivFrom at a; omega⟩
  | f + 1, r => by
    unfold pivFrom
    by_cases c : at2 rows r col = 0
    · rw [if_pos c]
      obtain ⟨h1, h2, h3, h4⟩ := pivFrom_spec rows col f (r + 1)
      refine ⟨by omega, by omega, fun j a b => ?_, fun a => h4 (by omega)⟩
      by_cases e : r = j
      · rw [← e]; exact c
      · exact h3 j (by omega) b
    · rw [if_neg c]
      exact ⟨Nat.le_refl _, by omega, fun j a b => by omega, fun _ => c⟩
theorem piv_spec {rows : List (List Int)} {col r : Nat} (h : r ≤ rows.length) : r ≤ piv rows col r ∧ piv rows col r ≤ rows.length ∧ (∀ j, r ≤ j → j < piv rows col r → at2 rows j col = 0) ∧ (piv rows col r < rows.length → at2 rows (piv rows col r) col ≠ 0) := by
  obtain ⟨h1, h2, h3, h4⟩ := pivFrom_spec rows col (rows.length - r) r
  unfold piv
  exact ⟨h1, by omega, h3, fun a => h4 (by omega)⟩

/-- Rows r and i exchanged. -/
def swapL (r i : Nat) (rows : List (List Int)) : List (List Int) := (rows.set r (rows.getD i [])).set i (rows.getD r [])
theorem swapL_len (r i : Nat) (rows : List (List Int)) : (swapL r i rows).length = rows.length := by simp [swapL]
theorem swapL_self {r : Nat} {rows : List (List Int)} (h : r < rows.length) : swapL r r rows = rows := by
  refine ext_getD [] (swapL_len _ _ _) fun j hj => ?_
  unfold swapL
  rw [set_getD _ _ _ _ _ (by rw [List.length_set]; exact h), set_getD _ _ _ _ _ h]
  by_cases c : r = j
  · rw [if_pos c, c]
  · rw [if_neg c, if_neg c]
theorem swapL_get {r i : Nat} {rows : List (List Int)} (hr : r < rows.length) (hi : i < rows.length) (m : Nat) : (swapL r i rows).getD m [] = if m = r then rows.getD i [] else if m = i then rows.getD r [] else rows.getD m [] := by
  unfold swapL
  rw [set_getD _ _ _ _ _ (by rw [List.length_set]; exact hi), set_getD _ _ _ _ _ hr]
  by_cases c : m = r
  · have c' : r = m := c.symm
    by_cases c2 : i = m
    · rw [if_pos c, if_pos c2, c2, c']
    · rw [if_pos c, if_neg c2, if_pos c']
  · have c' : ¬ r = m := fun e => c e.symm
    by_cases c2 : i = m
    · rw [if_neg c, if_pos c2, if_pos c2.symm]
    · have c3 : ¬ m = i := fun e => c2 e.symm
      rw [if_neg c, if_neg c2, if_neg c', if_neg c3]
/-- Exchanged in the other order. -/
theorem swapL_comm {r i : Nat} {rows : List (List Int)} (hr : r < rows.length) (hi : i < rows.length) : (rows.set i (rows.getD r [])).set r (rows.getD i []) = swapL r i rows := by
  refine ext_getD [] (by simp [swapL]) fun m hm => ?_
  rw [swapL_get hr hi, set_getD _ _ _ _ _ (by rw [List.length_set]; exact hr), set_getD _ _ _ _ _ hi]
  by_cases c : m = r
  · have c' : r = m := c.symm
    rw [if_pos c, if_pos c']
  · have c' : ¬ r = m := fun e => c e.symm
    rw [if_neg c, if_neg c']
    by_cases c2 : m = i
    · have c3 : i = m := c2.symm
      rw [if_pos c2, if_pos c3]
    · have c3 : ¬ i = m := fun e => c2 e.symm
      rw [if_neg c2, if_neg c3]
/-- Row r multiplied. -/
def scaleAt (p : Int) (r : Nat) (k : Int) (rows : List (List Int)) : List (List Int) := rows.set r (scale p k (rows.getD r []))
theorem scaleAt_len (p : Int) (r : Nat) (k : Int) (rows : List (List Int)) : (scaleAt p r k rows).length = rows.length := by simp [scaleAt]
theorem scaleAt_get {p : Int} {r : Nat} {k : Int} {rows : List (List Int)} (hr : r < rows.length) (m : Nat) : (scaleAt p r k rows).getD m [] = if m = r then scale p k (rows.getD r []) else rows.getD m [] := by
  unfold scaleAt
  rw [set_getD _ _ _ _ _ hr]
  by_cases c : m = r
  · have c' : r = m := c.symm
    rw [if_pos c, if_pos c']
  · have c' : ¬ r = m := fun e => c e.symm
    rw [if_neg c, if_neg c']
/-- What row n becomes when multiples of row r are added so that the column of b becomes 0. -/
def elimRow (p : Int) (r col : Nat) (b : List (List Int)) (pr : List Int) (n : Nat) (row : List Int) : List Int := if n = r then row else axpy p row ((p - at2 b n col) % p) pr
def elim (p : Int) (r col : Nat) (b rows : List (List Int)) : List (List Int) := rows.mapIdx (elimRow p r col b (rows.getD r []))
theorem elim_len (p : Int) (r col : Nat) (b rows : List (List Int)) : (elim p r col b rows).length = rows.length := by simp [elim]
theorem elim_get {p : Int} {r col : Nat} {b rows : List (List Int)} {m : Nat} (hm : m < rows.length) : (elim p r col b rows).getD m [] = if m = r then rows.getD m [] else axpy p (rows.getD m []) ((p - at2 b m col) % p) (rows.getD r []) := by
  unfold elim elimRow
  rw [mapIdx_getD _ _ _ hm []]

structure Red where
  a : List (List Int)
  t : List (List Int)
  lead : List Nat
  det : Int
  fac : Int
def exch (p : Int) (i : Nat) (s : Red) : Red := { a := swapL s.lead.length i s.a, t := swapL s.lead.length i s.t, lead := s.lead, det := if i = s.lead.length then s.det else (p - s.det) % p, fac := if i = s.lead.length then s.fac else s.fac * (p - 1) % p }
def mult (p : Int) (col : Nat) (s : Red) : Red :=
  { a := scaleAt p s.lead.length (inv p (at2 s.a s.lead.length col)) s.a, t := scaleAt p s.lead.length (inv p (at2 s.a s.lead.length col)) s.t, lead := s.lead,
    det := s.det * at2 s.a s.lead.length col % p, fac := s.fac * inv p (at2 s.a s.lead.length col) % p }
def clean (p : Int) (col : Nat) (s : Red) : Red := { a := elim p s.lead.length col s.a s.a, t := elim p s.lead.length col s.a s.t, lead := s.lead ++ [col], det := s.det, fac := s.fac }
/-- What is made of a column. -/
def stepCol (p : Int) (col : Nat) (s : Red) : Red :=
  if piv s.a col s.lead.length < s.a.length then clean p col (mult p col (exch p (piv s.a col s.lead.length) s)) else s
def red (p : Int) (a t : List (List Int)) : Nat → Red
  | 0 => { a := a, t := t, lead := [], det := 1, fac := 1 }
  | c + 1 => stepCol p c (red p a t c)

theorem Mat.swap {p : Int} {n c : Nat} {a : List (List Int)} (h : Mat p n c a) {r i : Nat} (hr : r < n) (hi : i < n) : Mat p n c (swapL r i a) := by
  have hl := h.1
  refine ⟨by rw [swapL_len, h.1], fun x hx => ?_⟩
  obtain ⟨m, hm, rfl⟩ := List.getElem_of_mem hx
  have e := swapL_get (rows := a) (by rw [hl]; exact hr) (by rw [hl]; exact hi) m
  rw [List.getD_eq_getElem?_getD, List.getElem?_eq_getElem hm] at e
  rw [swapL_len, hl] at hm
  simp only [Option.getD_some] at e
  rw [e]
  split
  · exact h.row hi
  · split
    · exact h.row hr
    · exact h.row hm
theorem Mat.scaleAt {p : Int} (hp : 2 ≤ p) {n c : Nat} {a : List (List Int)} (h : Mat p n c a) {r : Nat} (hr : r < n) (k : Int) : Mat p n c (scaleAt p r k a) := by
  have hl := h.1
  refine ⟨by rw [scaleAt_len, h.1], fun x hx => ?_⟩
  obtain ⟨m, hm, rfl⟩ := List.getElem_of_mem hx
  have e := scaleAt_get (p := p) (k := k) (rows := a) (by rw [hl]; exact hr) m
  rw [List.getD_eq_getElem?_getD, List.getElem?_eq_getElem hm] at e
  rw [scaleAt_len, hl] at hm
  simp only [Option.getD_some] at e
  rw [e]
  split
  · exact ⟨by rw [scale_len, (h.row hr).1], scale_bd hp⟩
  · exact h.row hm
theorem Mat.elim {p : Int} (hp : 2 ≤ p) {n c : Nat} {a : List (List Int)} (h : Mat p n c a) (r col : Nat) (b : List (List Int)) : Mat p n c (elim p r col b a) := by
  have hl := h.1
  refine ⟨by rw [elim_len, h.1], fun x hx => ?_⟩
  obtain ⟨m, hm, rfl⟩ := List.getElem_of_mem hx
  rw [elim_len] at hm
  have e := elim_get (p := p) (r := r) (col := col) (b := b) hm
  rw [List.getD_eq_getElem?_getD, List.getElem?_eq_getElem (by rw [elim_len]; exact hm)] at e
  rw [hl] at hm
  simp only [Option.getD_some] at e
  rw [e]
  split
  · exact h.row hm
  · exact ⟨by rw [axpy_len, (h.row hm).1], axpy_bd hp⟩
theorem at2_swap {r i : Nat} {rows : List (List Int)} (hr : r < rows.length) (hi : i < rows.length) (m j : Nat) : at2 (swapL r i rows) m j = if m = r then at2 rows i j else if m = i then at2 rows r j else at2 rows m j := by
  unfold at2
  rw [swapL_get hr hi]
  split
  · rfl
  · split <;> rfl
theorem at2_scale {p : Int} {n c : Nat} {a : List (List Int)} (h : Mat p n c a) {r : Nat} (hr : r < n) (k : Int) {m j : Nat} (hj : j < c) : at2 (scaleAt p r k a) m j = if m = r then k * at2 a r j % p else at2 a m j := by
  unfold at2
  rw [scaleAt_get (by rw [h.1]; exact hr)]
  split
  · rw [scale_get (by rw [(h.row hr).1]; exact hj)]
  · rfl
theorem at2_elim {p : Int} {n c : Nat} {a : List (List Int)} (h : Mat p n c a) {r col : Nat} {b : List (List Int)} {m j : Nat} (hm : m < n) (hj : j < c) : at2 (elim p r col b a) m j = if m = r then at2 a m j else (at2 a m j + (p - at2 b m col) % p * at2 a r j) % p := by
  unfold at2
  rw [elim_get (by rw [h.1]; exact hm)]
  split
  · rfl
  · rw [axpy_get (by rw [(h.row hm).1]; exact hj)]
    rfl

/-- What holds when the first col columns are reduced. -/
structure RInv (p : Int) (n c w : Nat) (col : Nat) (s : Red) : Prop where
  a : Mat p n c s.a
  t : Mat p n w s.t
  rank : s.lead.length ≤ n
  lead : ∀ i, i < s.lead.length → s.lead.getD i 0 < col
  rise : ∀ i j, i < j → j < s.lead.length → s.lead.getD i 0 < s.lead.getD j 0
  unit : ∀ i, i < s.lead.length → ∀ m, m < n → at2 s.a m (s.lead.getD i 0) = if m = i then 1 else 0
  left : ∀ i, i < s.lead.length → ∀ j, j < s.lead.getD i 0 → at2 s.a i j = 0
  rest : ∀ m, s.lead.length ≤ m → m < n → ∀ j, j < col → at2 s.a m j = 0
  det0 : 1 ≤ s.det ∧ s.det < p
  fac0 : 1 ≤ s.fac ∧ s.fac < p
  inv : s.det * s.fac % p = 1
theorem red_zero {p : Int} (hp : 2 ≤ p) {n c w : Nat} {a t : List (List Int)} (ha : Mat p n c a) (ht : Mat p n w t) : RInv p n c w 0 (red p a t 0) :=
  ⟨ha, ht, Nat.zero_le _, fun i h => absurd h (Nat.not_lt_zero i), fun i j _ h => absurd h (Nat.not_lt_zero j), fun i h => absurd h (Nat.not_lt_zero i), fun i h => absurd h (Nat.not_lt_zero i), fun m _ _ j h => absurd h (Nat.not_lt_zero j),
    ⟨by simp [red], by simp [red]; omega⟩, ⟨by simp [red], by simp [red]; omega⟩, by simp [red]; exact Int.emod_eq_of_lt (by omega) (by omega)⟩
theorem mod_mul_mod (p x y : Int) : x % p * y % p = x * y % p := by rw [Int.mul_emod, Int.emod_emod_of_dvd _ (Int.dvd_refl p), ← Int.mul_emod]
theorem mul_mod_mod (p x y : Int) : x * (y % p) % p = x * y % p := by rw [Int.mul_emod, Int.emod_emod_of_dvd _ (Int.dvd_refl p), ← Int.mul_emod]
theorem ne_zero_pos {p x : Int} (h : 0 ≤ x ∧ x < p) (hx : x % p ≠ 0) : 1 ≤ x ∧ x < p := by
  refine ⟨?_, h.2⟩
  by_cases c : x = 0
  · rw [c] at hx; simp at hx
  · omega
theorem unit_pos {p x y : Int} (_hp : 2 ≤ p) (h : 0 ≤ x ∧ x < p) (hxy : x * y % p = 1) : 1 ≤ x ∧ x < p := by
  refine ⟨?_, h.2⟩
  by_cases c : x = 0
  · rw [c, Int.zero_mul] at hxy; simp at hxy
  · omega
theorem mod_of_eq {p a b m k : Int} (h : a = b + p * m) (hb : b % p = k) : a % p = k := by rw [h, Int.add_mul_emod_self_left, hb]
theorem unit_of {p a : Int} {k : Int} (h : a = 1 + p * k) (hp : 2 ≤ p) : a % p = 1 := by rw [h, Int.add_mul_emod_self_left]; exact Int.emod_eq_of_lt (by omega) (by omega)
theorem div_of {p a : Int} (h : a % p = 1) : ∃ k, a = 1 + p * k := ⟨a / p, by have := Int.emod_add_mul_ediv a p; rw [h] at this; exact this.symm⟩
theorem div_mod (p a : Int) : ∃ k, a % p = a + p * k := ⟨-(a / p), by have := Int.emod_add_mul_ediv a p; rw [Int.mul_neg]; omega⟩

theorem RInv.exch {p : Int} {n c w col : Nat} {s : Red} (h : RInv p n c w col s) (_hp : 2 ≤ p) {i : Nat} (h1 : s.lead.length ≤ i) (h2 : i < n) : RInv p n c w col (exch p i s) := by
  have hr : s.lead.length < n := by omega
  have hra : s.lead.length < s.a.length := by rw [h.a.1]; exact hr
  have hia : i < s.a.length := by rw [h.a.1]; exact h2
  have hd := h.det0
  have hf := h.fac0
  have hinv := h.inv
  refine ⟨h.a.swap hr h2, h.t.swap hr h2, h.rank, h.lead, h.rise, fun j hj m hm => ?_, fun j hj k hk => ?_, fun m hm1 hm2 j hj => ?_, ?_, ?_, ?_⟩
  · show at2 (swapL s.lead.length i s.a) m (s.lead.getD j 0) = _
    have hj' : j < s.lead.length := hj
    rw [at2_swap hra hia]
    split
    · rw [h.unit j hj i h2, if_neg (by omega), if_neg (by omega)]
    · split
      · rw [h.unit j hj _ hr, if_neg (by omega), if_neg (by omega)]
      · exact h.unit j hj m hm
  · show at2 (swapL s.lead.length i s.a) j k = 0
    have hj' : j < s.lead.length := hj
    rw [at2_swap hra hia, if_neg (by omega), if_neg (by omega)]
    exact h.left j hj k hk
  · show at2 (swapL s.lead.length i s.a) m j = 0
    have hm1' : s.lead.length ≤ m := hm1
    rw [at2_swap hra hia]
    split
    · exact h.rest i h1 h2 j hj
    · split
      · exact h.rest _ (Nat.le_refl _) hr j hj
      · exact h.rest m hm1 hm2 j hj
  · show 1 ≤ (if i = s.lead.length then s.det else (p - s.det) % p) ∧ (if i = s.lead.length then s.det else (p - s.det) % p) < p
    split
    · exact hd
    · rw [Int.emod_eq_of_lt (by omega) (by omega)]
      omega
  · show 1 ≤ (if i = s.lead.length then s.fac else s.fac * (p - 1) % p) ∧ (if i = s.lead.length then s.fac else s.fac * (p - 1) % p) < p
    split
    · exact hf
    · have e : s.fac * (p - 1) % p = p - s.fac := by
        rw [show s.fac * (p - 1) = (p - s.fac) + p * (s.fac - 1) by grind, Int.add_mul_emod_self_left, Int.emod_eq_of_lt (by omega) (by omega)]
      rw [e]
      omega
  · show (if i = s.lead.length then s.det else (p - s.det) % p) * (if i = s.lead.length then s.fac else s.fac * (p - 1) % p) % p = 1
    split
    · exact hinv
    · rw [mod_mul_mod, mul_mod_mod]
      exact mod_of_eq (show (p - s.det) * (s.fac * (p - 1)) = s.det * s.fac + p * (s.fac * p - s.fac - s.det * s.fac) by grind) hinv
theorem RInv.mult {p : Int} {n c w col : Nat} {s : Red} (h : RInv p n c w col s) (hf : fld p = true) (hr : s.lead.length < n) (hc : col < c) (hk : at2 s.a s.lead.length col ≠ 0) :
    RInv p n c w col (mult p col s) ∧ at2 (mult p col s).a s.lead.length col = 1 := by
  obtain ⟨hp, hp97⟩ := fld_bd hf
  have hel : 0 ≤ at2 s.a s.lead.length col ∧ at2 s.a s.lead.length col < p := h.a.el hr hc
  have hpos : 0 < at2 s.a s.lead.length col := by omega
  have hI := inv_mul hf hpos hel.2
  have hIb := inv_bd hp (at2 s.a s.lead.length col)
  have hI1 := inv_pos hf hpos hel.2
  have hd := h.det0
  have hfc := h.fac0
  have hinv := h.inv
  generalize hx : at2 s.a s.lead.length col = x at *
  have e : at2 (Go.Proofs.YtahlicbjbbpihaaDoor.mult p col s).a s.lead.length col = 1 := by
    show at2 (scaleAt p s.lead.length (Go.Proofs.YtahlicbjbbpihaaDoor.inv p (at2 s.a s.lead.length col)) s.a) s.lead.length col = 1
    rw [at2_scale h.a hr _ hc, if_pos rfl, hx, Int.mul_comm]
    exact hI
  have e2 : s.det * x % p * (s.fac * Go.Proofs.YtahlicbjbbpihaaDoor.inv p x % p) % p = 1 := by
    rw [mod_mul_mod, mul_mod_mod]
    obtain ⟨k1, e1⟩ := div_of hinv
    obtain ⟨k2, e2⟩ := div_of hI
    exact unit_of (k := k1 + k2 + p * k1 * k2) (by
      rw [show s.det * x * (s.fac * Go.Proofs.YtahlicbjbbpihaaDoor.inv p x) = (s.det * s.fac) * (x * Go.Proofs.YtahlicbjbbpihaaDoor.inv p x) by grind, e1, e2]
      grind) hp
  refine ⟨⟨h.a.scaleAt hp hr _, h.t.scaleAt hp hr _, h.rank, h.lead, h.rise, fun j hj m hm => ?_, fun j hj k hk => ?_, fun m hm1 hm2 j hj => ?_, ?_, ?_, ?_⟩, e⟩
  · show at2 (scaleAt p s.lead.length (Go.Proofs.YtahlicbjbbpihaaDoor.inv p (at2 s.a s.lead.length col)) s.a) m (s.lead.getD j 0) = _
    have hj' : j < s.lead.length := hj
    rw [at2_scale h.a hr _ (by have := h.lead j hj; omega)]
    split
    · rw [h.unit j hj _ hr, if_neg (by omega), if_neg (by omega)]
      simp
    · exact h.unit j hj m hm
  · show at2 (scaleAt p s.lead.length (Go.Proofs.YtahlicbjbbpihaaDoor.inv p (at2 s.a s.lead.length col)) s.a) j k = 0
    have hj' : j < s.lead.length := hj
    have hk' : k < s.lead.getD j 0 := hk
    have := h.lead j hj
    rw [at2_scale h.a hr _ (by omega), if_neg (by omega)]
    exact h.left j hj k hk
  · show at2 (scaleAt p s.lead.length (Go.Proofs.YtahlicbjbbpihaaDoor.inv p (at2 s.a s.lead.length col)) s.a) m j = 0
    rw [at2_scale h.a hr _ (by omega)]
    split
    · rw [h.rest _ (Nat.le_refl _) hr j hj]
      simp
    · exact h.rest m hm1 hm2 j hj
  · show 1 ≤ s.det * at2 s.a s.lead.length col % p ∧ s.det * at2 s.a s.lead.length col % p < p
    rw [hx]
    exact unit_pos hp (emod_bd hp _) e2
  · show 1 ≤ s.fac * Go.Proofs.YtahlicbjbbpihaaDoor.inv p (at2 s.a s.lead.length col) % p ∧ s.fac * Go.Proofs.YtahlicbjbbpihaaDoor.inv p (at2 s.a s.lead.length col) % p < p
    rw [hx]
    exact unit_pos hp (emod_bd hp _) (y := s.det * x % p) (by rw [Int.mul_comm]; exact e2)
  · show s.det * at2 s.a s.lead.length col % p * (s.fac * Go.Proofs.YtahlicbjbbpihaaDoor.inv p (at2 s.a s.lead.length col) % p) % p = 1
    rw [hx]
    exact e2
theorem neg_self_mod {p x : Int} (h : 0 ≤ x ∧ x < p) : (x + (p - x) % p * 1) % p = 0 := by
  by_cases c : x = 0
  · subst c
    simp
  · rw [Int.emod_eq_of_lt (show 0 ≤ p - x by omega) (by omega), show x + (p - x) * 1 = p by omega]
    simp
theorem RInv.clean {p : Int} {n c w col : Nat} {s : Red} (h : RInv p n c w col s) (hp : 2 ≤ p) (hr : s.lead.length < n) (hc : col < c) (hk : at2 s.a s.lead.length col = 1) : RInv p n c w (col + 1) (clean p col s) := by
  have hlen : (s.lead ++ [col]).length = s.lead.length + 1 := by simp
  have hL : ∀ i, i < s.lead.length → (s.lead ++ [col]).getD i 0 = s.lead.getD i 0 := fun i hi => by
    rw [List.getD_eq_getElem?_getD, List.getD_eq_getElem?_getD, List.getElem?_append_left hi]
  have hL2 : (s.lead ++ [col]).getD s.lead.length 0 = col := by
    rw [List.getD_eq_getElem?_getD, List.getElem?_append_right (Nat.le_refl _)]
    simp
  have A : ∀ m j, m < n → j < c → at2 (Go.Proofs.YtahlicbjbbpihaaDoor.clean p col s).a m j = if m = s.lead.length then at2 s.a m j else (at2 s.a m j + (p - at2 s.a m col) % p * at2 s.a s.lead.length j) % p := fun m j hm hj => at2_elim h.a hm hj
  have z : ∀ x, 0 ≤ x ∧ x < p → ∀ y, (x + y * 0) % p = x := fun x hx y => by rw [Int.mul_zero, Int.add_zero, Int.emod_eq_of_lt hx.1 hx.2]
  have hb := h.lead
  refine ⟨h.a.elim hp _ _ _, h.t.elim hp _ _ _, by show (s.lead ++ [col]).length ≤ n; omega, fun i hi => ?_, fun i j hij hj => ?_, fun i hi m hm => ?_, fun i hi j hj => ?_, fun m hm1 hm2 j hj => ?_, h.det0, h.fac0, h.inv⟩
  · show (s.lead ++ [col]).getD i 0 < col + 1
    have hi' : i < (s.lead ++ [col]).length := hi
    by_cases c1 : i < s.lead.length
    · rw [hL i c1]
      have := hb i c1
      omega
    · rw [show i = s.lead.length by omega, hL2]
      omega
  · show (s.lead ++ [col]).getD i 0 < (s.lead ++ [col]).getD j 0
    have hj' : j < (s.lead ++ [col]).length := hj
    by_cases c1 : j < s.lead.length
    · rw [hL i (by omega), hL j c1]
      exact h.rise i j hij c1
    · rw [show j = s.lead.length by omega, hL2, hL i (by omega)]
      exact hb i (by omega)
  · show at2 _ m ((s.lead ++ [col]).getD i 0) = _
    have hi' : i < (s.lead ++ [col]).length := hi
    by_cases c1 : i < s.lead.length
    · have := hb i c1
      rw [hL i c1, A m _ hm (by omega), h.unit i c1 m hm, h.unit i c1 _ hr, if_neg (show ¬ s.lead.length = i by omega)]
      split
      · rfl
      · exact z _ (by split <;> omega) _
    · obtain rfl : i = s.lead.length := by omega
      rw [hL2, A m _ hm hc]
      by_cases c2 : m = s.lead.length
      · rw [if_pos c2, if_pos c2, c2, hk]
      · rw [if_neg c2, if_neg c2, hk]
        exact neg_self_mod (h.a.el hm hc)
  · show at2 _ i j = 0
    have hi' : i < (s.lead ++ [col]).length := hi
    have hj' : j < (s.lead ++ [col]).getD i 0 := hj
    by_cases c1 : i < s.lead.length
    · rw [hL i c1] at hj'
      have := hb i c1
      rw [A i j (by omega) (by omega), if_neg (by omega), h.left i c1 j hj', h.rest _ (Nat.le_refl _) hr j (by omega)]
      exact z 0 (by omega) _
    · obtain rfl : i = s.lead.length := by omega
      rw [hL2] at hj'
      rw [A _ j hr (by omega), if_pos rfl]
      exact h.rest _ (Nat.le_refl _) hr j hj'
  · show at2 _ m j = 0
    have hm1' : (s.lead ++ [col]).length ≤ m := hm1
    rw [A m j hm2 (by omega), if_neg (by omega)]
    by_cases c1 : j < col
    · rw [h.rest m (by omega) hm2 j c1, h.rest _ (Nat.le_refl _) hr j c1]
      exact z 0 (by omega) _
    · rw [show j = col by omega, hk]
      exact neg_self_mod (h.a.el hm2 hc)
theorem RInv.stay {p : Int} {n c w col : Nat} {s : Red} (h : RInv p n c w col s) (hk : ∀ j, s.lead.length ≤ j → j < n → at2 s.a j col = 0) : RInv p n c w (col + 1) s :=
  ⟨h.a, h.t, h.rank, fun i hi => by have := h.lead i hi; omega, h.rise, h.unit, h.left, fun m h1 h2 j hj => by
    by_cases c1 : j < col
    · exact h.rest m h1 h2 j c1
    · rw [show j = col by omega]
      exact hk m h1 h2, h.det0, h.fac0, h.inv⟩
theorem RInv.exch_at {p : Int} {n c w col : Nat} {s : Red} (h : RInv p n c w col s) {i : Nat} (h1 : s.lead.length ≤ i) (h2 : i < n) : at2 (Go.Proofs.YtahlicbjbbpihaaDoor.exch p i s).a s.lead.length col = at2 s.a i col := by
  show at2 (swapL s.lead.length i s.a) s.lead.length col = _
  rw [at2_swap (by rw [h.a.1]; omega) (by rw [h.a.1]; exact h2), if_pos rfl]
theorem RInv.step {p : Int} {n c w col : Nat} {s : Red} (h : RInv p n c w col s) (hf : fld p = true) (hc : col < c) : RInv p n c w (col + 1) (stepCol p col s) := by
  obtain ⟨hp, _⟩ := fld_bd hf
  obtain ⟨h1, h2, h3, h4⟩ := piv_spec (rows := s.a) (col := col) (r := s.lead.length) (by rw [h.a.1]; exact h.rank)
  unfold stepCol
  split
  · rename_i hlt
    have hlt' : piv s.a col s.lead.length < n := by rw [← h.a.1]; exact hlt
    have he := h.exch hp h1 hlt'
    have hk : at2 (Go.Proofs.YtahlicbjbbpihaaDoor.exch p (piv s.a col s.lead.length) s).a s.lead.length col ≠ 0 := by
      rw [h.exch_at h1 hlt']
      exact h4 hlt
    obtain ⟨hm, hm1⟩ := he.mult hf (show s.lead.length < n by omega) hc hk
    exact hm.clean hp (show s.lead.length < n by omega) hc hm1
  · rename_i hge
    exact h.stay fun j a b => h3 j a (by rw [h.a.1] at hge; omega)
theorem red_inv {p : Int} (hf : fld p = true) {n c w : Nat} {a t : List (List Int)} (ha : Mat p n c a) (ht : Mat p n w t) : ∀ k, k ≤ c → RInv p n c w k (red p a t k)
  | 0, _ => red_zero (fld_bd hf).1 ha ht
  | k + 1, hk => (red_inv hf ha ht k (by omega)).step hf (by omega)
end Go.Proofs.YtahlicbjbbpihaaDoor
