/- Mx Red Rref SpanM NullM VecM RlM in one text. -/
import Derived.Test.YtdcgoeapgboclaaFdMath
import Derived.Test.YtdcgoeapgboclaaUpd
/-! Matrices over a field as lists of rows: what both sides' functions compute. -/
namespace Go.Proofs.Ytdcgoeapgboclaa
set_option maxRecDepth 100000
def isMat (p cols : Int) (rows : List (List Int)) : Bool :=
  fld p && decide (0 ≤ cols) && decide (cols ≤ 24) && decide (rows.length ≤ 24) && rows.all fun r => decide ((r.length : Int) = cols) && r.all (el p)
/-- n rows of c elements of the field. -/
def Mat (p : Int) (n c : Nat) (rows : List (List Int)) : Prop := rows.length = n ∧ ∀ r, r ∈ rows → r.length = c ∧ ∀ x, x ∈ r → 0 ≤ x ∧ x < p
theorem isMat_iff (p cols : Int) (rows : List (List Int)) : isMat p cols rows = true ↔ fld p = true ∧ rows.length ≤ 24 ∧ ∃ c : Nat, cols = c ∧ c ≤ 24 ∧ Mat p rows.length c rows := by
  unfold isMat Mat
  simp only [Bool.and_eq_true, decide_eq_true_eq, List.all_eq_true, el_iff]
  constructor
  · rintro ⟨⟨⟨⟨h1, h2⟩, h3⟩, h4⟩, h5⟩
    refine ⟨h1, h4, cols.toNat, by omega, by omega, trivial, fun r hr => ⟨?_, (h5 r hr).2⟩⟩
    have := (h5 r hr).1
    omega
  · rintro ⟨h1, h4, c, rfl, h3, _, h5⟩
    exact ⟨⟨⟨⟨h1, by omega⟩, by omega⟩, h4⟩, fun r hr => ⟨by rw [(h5 r hr).1], (h5 r hr).2⟩⟩
theorem Mat.row {p : Int} {n c : Nat} {rows : List (List Int)} (h : Mat p n c rows) {r : Nat} (hr : r < n) : (rows.getD r []).length = c ∧ ∀ x, x ∈ rows.getD r [] → 0 ≤ x ∧ x < p := by
  rw [List.getD_eq_getElem?_getD, List.getElem?_eq_getElem (by rw [h.1]; exact hr)]
  exact h.2 _ (List.getElem_mem _)
theorem getD_mem' {α : Type} {l : List α} {i : Nat} (h : i < l.length) (d : α) : l.getD i d ∈ l := by
  rw [List.getD_eq_getElem?_getD, List.getElem?_eq_getElem h]
  exact List.getElem_mem h
theorem Mat.el {p : Int} {n c : Nat} {rows : List (List Int)} (h : Mat p n c rows) {r j : Nat} (hr : r < n) (hj : j < c) : 0 ≤ (rows.getD r []).getD j 0 ∧ (rows.getD r []).getD j 0 < p :=
  (h.row hr).2 _ (getD_mem' (by rw [(h.row hr).1]; exact hj) 0)
theorem Mat.intro {p : Int} {n c : Nat} {rows : List (List Int)} (hl : rows.length = n) (h : ∀ r, r < n → (rows.getD r []).length = c ∧ ∀ j, j < c → 0 ≤ (rows.getD r []).getD j 0 ∧ (rows.getD r []).getD j 0 < p) : Mat p n c rows := by
  refine ⟨hl, fun r hr => ?_⟩
  obtain ⟨i, hi, rfl⟩ := List.getElem_of_mem hr
  have e : rows.getD i [] = rows[i] := by rw [List.getD_eq_getElem?_getD, List.getElem?_eq_getElem hi]; rfl
  obtain ⟨h1, h2⟩ := h i (by omega)
  rw [e] at h1 h2
  refine ⟨h1, fun x hx => ?_⟩
  obtain ⟨j, hj, rfl⟩ := List.getElem_of_mem hx
  have := h2 j (by omega)
  rwa [List.getD_eq_getElem?_getD, List.getElem?_eq_getElem hj] at this
/-- Two matrices of one shape are equal if their elements are. -/
theorem Mat.ext {p q : Int} {n c : Nat} {a b : List (List Int)} (ha : Mat p n c a) (hb : Mat q n c b) (h : ∀ r, r < n → ∀ j, j < c → (a.getD r []).getD j 0 = (b.getD r []).getD j 0) : a = b := by
  refine ext_getD [] (by rw [ha.1, hb.1]) fun r hr => ?_
  rw [ha.1] at hr
  exact ext_getD 0 (by rw [(ha.row hr).1, (hb.row hr).1]) fun j hj => h r hr j (by rw [(ha.row hr).1] at hj; exact hj)

/-- A row plus a multiple of another one. -/
def axpy (p : Int) (r : List Int) (k : Int) (s : List Int) : List Int := r.mapIdx fun j x => (x + k * s.getD j 0) % p
theorem axpy_len (p : Int) (r : List Int) (k : Int) (s : List Int) : (axpy p r k s).length = r.length := by simp [axpy]
theorem axpy_get {p : Int} {r : List Int} {k : Int} {s : List Int} {j : Nat} (hj : j < r.length) : (axpy p r k s).getD j 0 = (r.getD j 0 + k * s.getD j 0) % p := by
  unfold axpy
  rw [mapIdx_getD _ _ _ hj 0]
def scale (p k : Int) (r : List Int) : List Int := r.mapIdx fun _ x => k * x % p
theorem scale_len (p k : Int) (r : List Int) : (scale p k r).length = r.length := by simp [scale]
theorem scale_get {p k : Int} {r : List Int} {j : Nat} (hj : j < r.length) : (scale p k r).getD j 0 = k * r.getD j 0 % p := by
  unfold scale
  rw [mapIdx_getD _ _ _ hj 0]
theorem emod_bd {p : Int} (hp : 2 ≤ p) (x : Int) : 0 ≤ x % p ∧ x % p < p := ⟨Int.emod_nonneg _ (by omega), Int.emod_lt_of_pos _ (by omega)⟩
theorem axpy_bd {p : Int} (hp : 2 ≤ p) {r : List Int} {k : Int} {s : List Int} : ∀ x, x ∈ axpy p r k s → 0 ≤ x ∧ x < p := by
  intro x hx
  obtain ⟨j, hj, rfl⟩ := List.getElem_of_mem hx
  simp only [axpy, List.getElem_mapIdx]
  exact emod_bd hp _
theorem scale_bd {p : Int} (hp : 2 ≤ p) {k : Int} {r : List Int} : ∀ x, x ∈ scale p k r → 0 ≤ x ∧ x < p := by
  intro x hx
  obtain ⟨j, hj, rfl⟩ := List.getElem_of_mem hx
  simp only [scale, List.getElem_mapIdx]
  exact emod_bd hp _
theorem axpy_zero {p : Int} {r s : List Int} (hr : ∀ x, x ∈ r → 0 ≤ x ∧ x < p) : axpy p r 0 s = r := by
  refine ext_getD 0 (axpy_len _ _ _ _) fun j hj => ?_
  rw [axpy_len] at hj
  rw [axpy_get hj]
  have := hr _ (getD_mem' hj 0)
  rw [Int.zero_mul, Int.add_zero, Int.emod_eq_of_lt this.1 this.2]
theorem scale_one {p : Int} {r : List Int} (hr : ∀ x, x ∈ r → 0 ≤ x ∧ x < p) : scale p 1 r = r := by
  refine ext_getD 0 (scale_len _ _ _) fun j hj => ?_
  rw [scale_len] at hj
  rw [scale_get hj]
  have := hr _ (getD_mem' hj 0)
  rw [Int.one_mul, Int.emod_eq_of_lt this.1 this.2]
/-- acc plus the sum of the rows, each multiplied by its factor. -/
def comb (p : Int) : List Int → List Int → List (List Int) → List Int
  | acc, f :: fs, r :: rs => comb p (axpy p acc f r) fs rs
  | acc, _, _ => acc
theorem comb_len (p : Int) : ∀ (acc fs : List Int) (rs : List (List Int)), (comb p acc fs rs).length = acc.length
  | acc, [], _ => by simp [comb]
  | acc, _ :: _, [] => by simp [comb]
  | acc, f :: fs, r :: rs => by
    rw [comb, comb_len p _ fs rs, axpy_len]
theorem comb_bd {p : Int} (hp : 2 ≤ p) : ∀ (acc fs : List Int) (rs : List (List Int)), (∀ x, x ∈ acc → 0 ≤ x ∧ x < p) → ∀ x, x ∈ comb p acc fs rs → 0 ≤ x ∧ x < p
  | acc, [], _, h => by simpa [comb] using h
  | acc, _ :: _, [], h => by simpa [comb] using h
  | acc, f :: fs, r :: rs, h => by
    rw [comb]
    exact comb_bd hp _ fs rs (axpy_bd hp)
theorem comb_step {p : Int} {acc fs : List Int} {rs : List (List Int)} {i : Nat} (h1 : i < fs.length) (h2 : i < rs.length) :
    comb p acc (fs.drop i) (rs.drop i) = comb p (axpy p acc (fs.getD i 0) (rs.getD i [])) (fs.drop (i + 1)) (rs.drop (i + 1)) := by
  rw [List.drop_eq_getElem_cons h1, List.drop_eq_getElem_cons h2, comb, List.getD_eq_getElem?_getD, List.getD_eq_getElem?_getD, List.getElem?_eq_getElem h1, List.getElem?_eq_getElem h2]
  rfl
theorem comb_end {p : Int} {acc fs : List Int} {rs : List (List Int)} {i : Nat} (h : fs.length ≤ i) : comb p acc (fs.drop i) (rs.drop i) = acc := by
  rw [List.drop_eq_nil_of_le h, comb.eq_2]
  intro f fs' r rs' h2
  cases h2
/-- The product of a list with a matrix of c columns. -/
def vmul (p : Int) (c : Nat) (x : List Int) (m : List (List Int)) : List Int := comb p (List.replicate c 0) x m
theorem vmul_len (p : Int) (c : Nat) (x : List Int) (m : List (List Int)) : (vmul p c x m).length = c := by simp [vmul, comb_len]
theorem zeros_bd {p : Int} (hp : 2 ≤ p) (c : Nat) : ∀ x, x ∈ List.replicate c (0 : Int) → 0 ≤ x ∧ x < p := by
  intro x hx
  have := (List.mem_replicate.1 hx).2
  omega
theorem vmul_bd {p : Int} (hp : 2 ≤ p) (c : Nat) (x : List Int) (m : List (List Int)) : ∀ y, y ∈ vmul p c x m → 0 ≤ y ∧ y < p := comb_bd hp _ _ _ (zeros_bd hp c)
def mmul (p : Int) (c : Nat) (a b : List (List Int)) : List (List Int) := a.mapIdx fun _ r => vmul p c r b
theorem mmul_len (p : Int) (c : Nat) (a b : List (List Int)) : (mmul p c a b).length = a.length := by simp [mmul]
theorem mmul_mat {p : Int} (hp : 2 ≤ p) (c : Nat) (a b : List (List Int)) : Mat p a.length c (mmul p c a b) := by
  refine ⟨mmul_len _ _ _ _, fun r hr => ?_⟩
  obtain ⟨i, hi, rfl⟩ := List.getElem_of_mem hr
  simp only [mmul, List.getElem_mapIdx]
  exact ⟨vmul_len _ _ _ _, vmul_bd hp _ _ _⟩
/-- The unit rows. -/
def unitRow (n i : Nat) : List Int := (List.replicate n (0 : Int)).set i 1
def idRows (n : Nat) : List (List Int) := (List.replicate n (List.replicate n (0 : Int))).mapIdx fun i r => r.set i 1
theorem idRows_len (n : Nat) : (idRows n).length = n := by simp [idRows]
theorem idRows_get {n i : Nat} (h : i < n) : (idRows n).getD i [] = unitRow n i := by
  unfold idRows unitRow
  rw [mapIdx_getD _ _ _ (by simpa using h) (List.replicate n 0), repl_getD]
theorem unitRow_get {n i j : Nat} (hi : i < n) : (unitRow n i).getD j 0 = if i = j then 1 else 0 := by
  unfold unitRow
  rw [set_getD _ _ _ _ _ (by simpa using hi), repl_getD]
theorem unitRow_len (n i : Nat) : (unitRow n i).length = n := by simp [unitRow]
theorem idRows_mat {p : Int} (hp : 2 ≤ p) (n : Nat) : Mat p n n (idRows n) := by
  refine Mat.intro (idRows_len n) fun r hr => ?_
  rw [idRows_get hr]
  refine ⟨unitRow_len _ _, fun j hj => ?_⟩
  rw [unitRow_get hr]
  split <;> omega
theorem zeroRows_mat {p : Int} (hp : 2 ≤ p) (n c : Nat) : Mat p n c (List.replicate n (List.replicate c (0 : Int))) := by
  refine ⟨by simp, fun r hr => ?_⟩
  rw [(List.mem_replicate.1 hr).2]
  exact ⟨by simp, zeros_bd hp c⟩
end Go.Proofs.Ytdcgoeapgboclaa

/-! The reduction of a matrix, step by step, as both sides make it; what holds at each column. -/
namespace Go.Proofs.Ytdcgoeapgboclaa

def at2 (rows : List (List Int)) (r j : Nat) : Int := (rows.getD r []).getD j 0
/-- The first row from i on with an element other than 0 in the column, with fuel. -/
def pivFrom (rows : List (List Int)) (col : Nat) : Nat → Nat → Nat
  | 0, i => i
  | f + 1, i => if at2 rows i col = 0 then pivFrom rows col f (i + 1) else i
def piv (rows : List (List Int)) (col r : Nat) : Nat := pivFrom rows col (rows.length - r) r
theorem pivFrom_eq {rows : List (List Int)} {col : Nat} : ∀ {f r i : Nat}, r ≤ i → i ≤ r + f → (∀ j, r ≤ j → j < i → at2 rows j col = 0) → (i < r + f → at2 rows i col ≠ 0) → pivFrom rows col f r = i
  | 0, r, i, h1, h2, _, _ => by unfold pivFrom; omega
  | f + 1, r, i, h1, h2, h3, h4 => by
    unfold pivFrom
    by_cases c : r = i
    · rw [if_neg (by rw [c]; exact h4 (by omega))]
      exact c
    · rw [if_pos (h3 r (Nat.le_refl _) (by omega))]
      exact pivFrom_eq (by omega) (by omega) (fun j a b => h3 j (by omega) b) (fun a => h4 (by omega))
theorem piv_eq {rows : List (List Int)} {col r i : Nat} (h1 : r ≤ i) (h2 : i ≤ rows.length) (h3 : ∀ j, r ≤ j → j < i → at2 rows j col = 0) (h4 : i < rows.length → at2 rows i col ≠ 0) : piv rows col r = i :=
  pivFrom_eq h1 (by omega) h3 (fun a => h4 (by omega))
theorem pivFrom_spec (rows : List (List Int)) (col : Nat) : ∀ f r, r ≤ pivFrom rows col f r ∧ pivFrom rows col f r ≤ r + f ∧ (∀ j, r ≤ j → j < pivFrom rows col f r → at2 rows j col = 0) ∧ (pivFrom rows col f r < r + f → at2 rows (pivFrom rows col f r) col ≠ 0)
  | 0, r => ⟨Nat.le_refl _, Nat.le_refl _, fun j a b => by unfold pivFrom at b; omega, fun a => by unfold pivFrom at a; omega⟩
  | f + 1, r => by
    unfold pivFrom
    by_cases c : at2 rows r col = 0
    · rw [if_pos c]
      obtain ⟨h1, h2, h3, h4⟩ := pivFrom_spec rows col f (r + 1)
      refine ⟨by omega, by omega, fun j a b => ?_, fun a => h4 (by omega)⟩
      by_cases e : r = j
      · rw [← e]; exact c
      · exact h3 j (by omega) b
    · rw [if_neg c]
      exact ⟨Nat.le_refl _, by omega, fun j a b => by omega, fun _ => c⟩
theorem piv_spec {rows : List (List Int)} {col r : Nat} (h : r ≤ rows.length) : r ≤ piv rows col r ∧ piv rows col r ≤ rows.length ∧ (∀ j, r ≤ j → j < piv rows col r → at2 rows j col = 0) ∧ (piv rows col r < rows.length → at2 rows (piv rows col r) col ≠ 0) := by
  obtain ⟨h1, h2, h3, h4⟩ := pivFrom_spec rows col (rows.length - r) r
  unfold piv
  exact ⟨h1, by omega, h3, fun a => h4 (by omega)⟩

/-- Rows r and i exchanged. -/
def swapL (r i : Nat) (rows : List (List Int)) : List (List Int) := (rows.set r (rows.getD i [])).set i (rows.getD r [])
theorem swapL_len (r i : Nat) (rows : List (List Int)) : (swapL r i rows).length = rows.length := by simp [swapL]
theorem swapL_self {r : Nat} {rows : List (List Int)} (h : r < rows.length) : swapL r r rows = rows := by
  refine ext_getD [] (swapL_len _ _ _) fun j hj => ?_
  unfold swapL
  rw [set_getD _ _ _ _ _ (by rw [List.length_set]; exact h), set_getD _ _ _ _ _ h]
  by_cases c : r = j
  · rw [if_pos c, c]
  · rw [if_neg c, if_neg c]
theorem swapL_get {r i : Nat} {rows : List (List Int)} (hr : r < rows.length) (hi : i < rows.length) (m : Nat) : (swapL r i rows).getD m [] = if m = r then rows.getD i [] else if m = i then rows.getD r [] else rows.getD m [] := by
  unfold swapL
  rw [set_getD _ _ _ _ _ (by rw [List.length_set]; exact hi), set_getD _ _ _ _ _ hr]
  by_cases c : m = r
  · have c' : r = m := c.symm
    by_cases c2 : i = m
    · rw [if_pos c, if_pos c2, c2, c']
    · rw [if_pos c, if_neg c2, if_pos c']
  · have c' : ¬ r = m := fun e => c e.symm
    by_cases c2 : i = m
    · rw [if_neg c, if_pos c2, if_pos c2.symm]
    · have c3 : ¬ m = i := fun e => c2 e.symm
      rw [if_neg c, if_neg c2, if_neg c', if_neg c3]
/-- Exchanged in the other order. -/
theorem swapL_comm {r i : Nat} {rows : List (List Int)} (hr : r < rows.length) (hi : i < rows.length) : (rows.set i (rows.getD r [])).set r (rows.getD i []) = swapL r i rows := by
  refine ext_getD [] (by simp [swapL]) fun m hm => ?_
  rw [swapL_get hr hi, set_getD _ _ _ _ _ (by rw [List.length_set]; exact hr), set_getD _ _ _ _ _ hi]
  by_cases c : m = r
  · have c' : r = m := c.symm
    rw [if_pos c, if_pos c']
  · have c' : ¬ r = m := fun e => c e.symm
    rw [if_neg c, if_neg c']
    by_cases c2 : m = i
    · have c3 : i = m := c2.symm
      rw [if_pos c2, if_pos c3]
    · have c3 : ¬ i = m := fun e => c2 e.symm
      rw [if_neg c2, if_neg c3]
/-- Row r multiplied. -/
def scaleAt (p : Int) (r : Nat) (k : Int) (rows : List (List Int)) : List (List Int) := rows.set r (scale p k (rows.getD r []))
theorem scaleAt_len (p : Int) (r : Nat) (k : Int) (rows : List (List Int)) : (scaleAt p r k rows).length = rows.length := by simp [scaleAt]
theorem scaleAt_get {p : Int} {r : Nat} {k : Int} {rows : List (List Int)} (hr : r < rows.length) (m : Nat) : (scaleAt p r k rows).getD m [] = if m = r then scale p k (rows.getD r []) else rows.getD m [] := by
  unfold scaleAt
  rw [set_getD _ _ _ _ _ hr]
  by_cases c : m = r
  · have c' : r = m := c.symm
    rw [if_pos c, if_pos c']
  · have c' : ¬ r = m := fun e => c e.symm
    rw [if_neg c, if_neg c']
/-- What row n becomes when multiples of row r are added so that the column of b becomes 0. -/
def elimRow (p : Int) (r col : Nat) (b : List (List Int)) (pr : List Int) (n : Nat) (row : List Int) : List Int := if n = r then row else axpy p row ((p - at2 b n col) % p) pr
def elim (p : Int) (r col : Nat) (b rows : List (List Int)) : List (List Int) := rows.mapIdx (elimRow p r col b (rows.getD r []))
theorem elim_len (p : Int) (r col : Nat) (b rows : List (List Int)) : (elim p r col b rows).length = rows.length := by simp [elim]
theorem elim_get {p : Int} {r col : Nat} {b rows : List (List Int)} {m : Nat} (hm : m < rows.length) : (elim p r col b rows).getD m [] = if m = r then rows.getD m [] else axpy p (rows.getD m []) ((p - at2 b m col) % p) (rows.getD r []) := by
  unfold elim elimRow
  rw [mapIdx_getD _ _ _ hm []]

structure Red where
  a : List (List Int)
  t : List (List Int)
  lead : List Nat
  det : Int
  fac : Int
def exch (p : Int) (i : Nat) (s : Red) : Red := { a := swapL s.lead.length i s.a, t := swapL s.lead.length i s.t, lead := s.lead, det := if i = s.lead.length then s.det else (p - s.det) % p, fac := if i = s.lead.length then s.fac else s.fac * (p - 1) % p }
def mult (p : Int) (col : Nat) (s : Red) : Red :=
  { a := scaleAt p s.lead.length (inv p (at2 s.a s.lead.length col)) s.a, t := scaleAt p s.lead.length (inv p (at2 s.a s.lead.length col)) s.t, lead := s.lead,
    det := s.det * at2 s.a s.lead.length col % p, fac := s.fac * inv p (at2 s.a s.lead.length col) % p }
def clean (p : Int) (col : Nat) (s : Red) : Red := { a := elim p s.lead.length col s.a s.a, t := elim p s.lead.length col s.a s.t, lead := s.lead ++ [col], det := s.det, fac := s.fac }
/-- What is made of a column. -/
def stepCol (p : Int) (col : Nat) (s : Red) : Red :=
  if piv s.a col s.lead.length < s.a.length then clean p col (mult p col (exch p (piv s.a col s.lead.length) s)) else s
def red (p : Int) (a t : List (List Int)) : Nat → Red
  | 0 => { a := a, t := t, lead := [], det := 1, fac := 1 }
  | c + 1 => stepCol p c (red p a t c)

theorem Mat.swap {p : Int} {n c : Nat} {a : List (List Int)} (h : Mat p n c a) {r i : Nat} (hr : r < n) (hi : i < n) : Mat p n c (swapL r i a) := by
  have hl := h.1
  refine ⟨by rw [swapL_len, h.1], fun x hx => ?_⟩
  obtain ⟨m, hm, rfl⟩ := List.getElem_of_mem hx
  have e := swapL_get (rows := a) (by rw [hl]; exact hr) (by rw [hl]; exact hi) m
  rw [List.getD_eq_getElem?_getD, List.getElem?_eq_getElem hm] at e
  rw [swapL_len, hl] at hm
  simp only [Option.getD_some] at e
  rw [e]
  split
  · exact h.row hi
  · split
    · exact h.row hr
    · exact h.row hm
theorem Mat.scaleAt {p : Int} (hp : 2 ≤ p) {n c : Nat} {a : List (List Int)} (h : Mat p n c a) {r : Nat} (hr : r < n) (k : Int) : Mat p n c (scaleAt p r k a) := by
  have hl := h.1
  refine ⟨by rw [scaleAt_len, h.1], fun x hx => ?_⟩
  obtain ⟨m, hm, rfl⟩ := List.getElem_of_mem hx
  have e := scaleAt_get (p := p) (k := k) (rows := a) (by rw [hl]; exact hr) m
  rw [List.getD_eq_getElem?_getD, List.getElem?_eq_getElem hm] at e
  rw [scaleAt_len, hl] at hm
  simp only [Option.getD_some] at e
  rw [e]
  split
  · exact ⟨by rw [scale_len, (h.row hr).1], scale_bd hp⟩
  · exact h.row hm
theorem Mat.elim {p : Int} (hp : 2 ≤ p) {n c : Nat} {a : List (List Int)} (h : Mat p n c a) (r col : Nat) (b : List (List Int)) : Mat p n c (elim p r col b a) := by
  have hl := h.1
  refine ⟨by rw [elim_len, h.1], fun x hx => ?_⟩
  obtain ⟨m, hm, rfl⟩ := List.getElem_of_mem hx
  rw [elim_len] at hm
  have e := elim_get (p := p) (r := r) (col := col) (b := b) hm
  rw [List.getD_eq_getElem?_getD, List.getElem?_eq_getElem (by rw [elim_len]; exact hm)] at e
  rw [hl] at hm
  simp only [Option.getD_some] at e
  rw [e]
  split
  · exact h.row hm
  · exact ⟨by rw [axpy_len, (h.row hm).1], axpy_bd hp⟩
theorem at2_swap {r i : Nat} {rows : List (List Int)} (hr : r < rows.length) (hi : i < rows.length) (m j : Nat) : at2 (swapL r i rows) m j = if m = r then at2 rows i j else if m = i then at2 rows r j else at2 rows m j := by
  unfold at2
  rw [swapL_get hr hi]
  split
  · rfl
  · split <;> rfl
theorem at2_scale {p : Int} {n c : Nat} {a : List (List Int)} (h : Mat p n c a) {r : Nat} (hr : r < n) (k : Int) {m j : Nat} (hj : j < c) : at2 (scaleAt p r k a) m j = if m = r then k * at2 a r j % p else at2 a m j := by
  unfold at2
  rw [scaleAt_get (by rw [h.1]; exact hr)]
  split
  · rw [scale_get (by rw [(h.row hr).1]; exact hj)]
  · rfl
theorem at2_elim {p : Int} {n c : Nat} {a : List (List Int)} (h : Mat p n c a) {r col : Nat} {b : List (List Int)} {m j : Nat} (hm : m < n) (hj : j < c) : at2 (elim p r col b a) m j = if m = r then at2 a m j else (at2 a m j + (p - at2 b m col) % p * at2 a r j) % p := by
  unfold at2
  rw [elim_get (by rw [h.1]; exact hm)]
  split
  · rfl
  · rw [axpy_get (by rw [(h.row hm).1]; exact hj)]
    rfl

/-- What holds when the first col columns are reduced. -/
structure RInv (p : Int) (n c w : Nat) (col : Nat) (s : Red) : Prop where
  a : Mat p n c s.a
  t : Mat p n w s.t
  rank : s.lead.length ≤ n
  lead : ∀ i, i < s.lead.length → s.lead.getD i 0 < col
  rise : ∀ i j, i < j → j < s.lead.length → s.lead.getD i 0 < s.lead.getD j 0
  unit : ∀ i, i < s.lead.length → ∀ m, m < n → at2 s.a m (s.lead.getD i 0) = if m = i then 1 else 0
  left : ∀ i, i < s.lead.length → ∀ j, j < s.lead.getD i 0 → at2 s.a i j = 0
  rest : ∀ m, s.lead.length ≤ m → m < n → ∀ j, j < col → at2 s.a m j = 0
  det0 : 1 ≤ s.det ∧ s.det < p
  fac0 : 1 ≤ s.fac ∧ s.fac < p
  inv : s.det * s.fac % p = 1
theorem red_zero {p : Int} (hp : 2 ≤ p) {n c w : Nat} {a t : List (List Int)} (ha : Mat p n c a) (ht : Mat p n w t) : RInv p n c w 0 (red p a t 0) :=
  ⟨ha, ht, Nat.zero_le _, fun i h => absurd h (Nat.not_lt_zero i), fun i j _ h => absurd h (Nat.not_lt_zero j), fun i h => absurd h (Nat.not_lt_zero i), fun i h => absurd h (Nat.not_lt_zero i), fun m _ _ j h => absurd h (Nat.not_lt_zero j),
    ⟨by simp [red], by simp [red]; omega⟩, ⟨by simp [red], by simp [red]; omega⟩, by simp [red]; exact Int.emod_eq_of_lt (by omega) (by omega)⟩
theorem mod_mul_mod (p x y : Int) : x % p * y % p = x * y % p := by rw [Int.mul_emod, Int.emod_emod_of_dvd _ (Int.dvd_refl p), ← Int.mul_emod]
theorem mul_mod_mod (p x y : Int) : x * (y % p) % p = x * y % p := by rw [Int.mul_emod, Int.emod_emod_of_dvd _ (Int.dvd_refl p), ← Int.mul_emod]
theorem ne_zero_pos {p x : Int} (h : 0 ≤ x ∧ x < p) (hx : x % p ≠ 0) : 1 ≤ x ∧ x < p := by
  refine ⟨?_, h.2⟩
  by_cases c : x = 0
  · rw [c] at hx; simp at hx
  · omega
theorem unit_pos {p x y : Int} (_hp : 2 ≤ p) (h : 0 ≤ x ∧ x < p) (hxy : x * y % p = 1) : 1 ≤ x ∧ x < p := by
  refine ⟨?_, h.2⟩
  by_cases c : x = 0
  · rw [c, Int.zero_mul] at hxy; simp at hxy
  · omega
theorem mod_of_eq {p a b m k : Int} (h : a = b + p * m) (hb : b % p = k) : a % p = k := by rw [h, Int.add_mul_emod_self_left, hb]
theorem unit_of {p a : Int} {k : Int} (h : a = 1 + p * k) (hp : 2 ≤ p) : a % p = 1 := by rw [h, Int.add_mul_emod_self_left]; exact Int.emod_eq_of_lt (by omega) (by omega)
theorem div_of {p a : Int} (h : a % p = 1) : ∃ k, a = 1 + p * k := ⟨a / p, by have := Int.emod_add_mul_ediv a p; rw [h] at this; exact this.symm⟩
theorem div_mod (p a : Int) : ∃ k, a % p = a + p * k := ⟨-(a / p), by have := Int.emod_add_mul_ediv a p; rw [Int.mul_neg]; omega⟩

theorem RInv.exch {p : Int} {n c w col : Nat} {s : Red} (h : RInv p n c w col s) (_hp : 2 ≤ p) {i : Nat} (h1 : s.lead.length ≤ i) (h2 : i < n) : RInv p n c w col (exch p i s) := by
  have hr : s.lead.length < n := by omega
  have hra : s.lead.length < s.a.length := by rw [h.a.1]; exact hr
  have hia : i < s.a.length := by rw [h.a.1]; exact h2
  have hd := h.det0
  have hf := h.fac0
  have hinv := h.inv
  refine ⟨h.a.swap hr h2, h.t.swap hr h2, h.rank, h.lead, h.rise, fun j hj m hm => ?_, fun j hj k hk => ?_, fun m hm1 hm2 j hj => ?_, ?_, ?_, ?_⟩
  · show at2 (swapL s.lead.length i s.a) m (s.lead.getD j 0) = _
    have hj' : j < s.lead.length := hj
    rw [at2_swap hra hia]
    split
    · rw [h.unit j hj i h2, if_neg (by omega), if_neg (by omega)]
    · split
      · rw [h.unit j hj _ hr, if_neg (by omega), if_neg (by omega)]
      · exact h.unit j hj m hm
  · show at2 (swapL s.lead.length i s.a) j k = 0
    have hj' : j < s.lead.length := hj
    rw [at2_swap hra hia, if_neg (by omega), if_neg (by omega)]
    exact h.left j hj k hk
  · show at2 (swapL s.lead.length i s.a) m j = 0
    have hm1' : s.lead.length ≤ m := hm1
    rw [at2_swap hra hia]
    split
    · exact h.rest i h1 h2 j hj
    · split
      · exact h.rest _ (Nat.le_refl _) hr j hj
      · exact h.rest m hm1 hm2 j hj
  · show 1 ≤ (if i = s.lead.length then s.det else (p - s.det) % p) ∧ (if i = s.lead.length then s.det else (p - s.det) % p) < p
    split
    · exact hd
    · rw [Int.emod_eq_of_lt (by omega) (by omega)]
      omega
  · show 1 ≤ (if i = s.lead.length then s.fac else s.fac * (p - 1) % p) ∧ (if i = s.lead.length then s.fac else s.fac * (p - 1) % p) < p
    split
    · exact hf
    · have e : s.fac * (p - 1) % p = p - s.fac := by
        rw [show s.fac * (p - 1) = (p - s.fac) + p * (s.fac - 1) by grind, Int.add_mul_emod_self_left, Int.emod_eq_of_lt (by omega) (by omega)]
      rw [e]
      omega
  · show (if i = s.lead.length then s.det else (p - s.det) % p) * (if i = s.lead.length then s.fac else s.fac * (p - 1) % p) % p = 1
    split
    · exact hinv
    · rw [mod_mul_mod, mul_mod_mod]
      exact mod_of_eq (show (p - s.det) * (s.fac * (p - 1)) = s.det * s.fac + p * (s.fac * p - s.fac - s.det * s.fac) by grind) hinv
theorem RInv.mult {p : Int} {n c w col : Nat} {s : Red} (h : RInv p n c w col s) (hf : fld p = true) (hr : s.lead.length < n) (hc : col < c) (hk : at2 s.a s.lead.length col ≠ 0) :
    RInv p n c w col (mult p col s) ∧ at2 (mult p col s).a s.lead.length col = 1 := by
  obtain ⟨hp, hp97⟩ := fld_bd hf
  have hel : 0 ≤ at2 s.a s.lead.length col ∧ at2 s.a s.lead.length col < p := h.a.el hr hc
  have hpos : 0 < at2 s.a s.lead.length col := by omega
  have hI := inv_mul hf hpos hel.2
  have hIb := inv_bd hp (at2 s.a s.lead.length col)
  have hI1 := inv_pos hf hpos hel.2
  have hd := h.det0
  have hfc := h.fac0
  have hinv := h.inv
  generalize hx : at2 s.a s.lead.length col = x at *
  have e : at2 (Go.Proofs.Ytdcgoeapgboclaa.mult p col s).a s.lead.length col = 1 := by
    show at2 (scaleAt p s.lead.length (Go.Proofs.Ytdcgoeapgboclaa.inv p (at2 s.a s.lead.length col)) s.a) s.lead.length col = 1
    rw [at2_scale h.a hr _ hc, if_pos rfl, hx, Int.mul_comm]
    exact hI
  have e2 : s.det * x % p * (s.fac * Go.Proofs.Ytdcgoeapgboclaa.inv p x % p) % p = 1 := by
    rw [mod_mul_mod, mul_mod_mod]
    obtain ⟨k1, e1⟩ := div_of hinv
    obtain ⟨k2, e2⟩ := div_of hI
    exact unit_of (k := k1 + k2 + p * k1 * k2) (by
      rw [show s.det * x * (s.fac * Go.Proofs.Ytdcgoeapgboclaa.inv p x) = (s.det * s.fac) * (x * Go.Proofs.Ytdcgoeapgboclaa.inv p x) by grind, e1, e2]
      grind) hp
  refine ⟨⟨h.a.scaleAt hp hr _, h.t.scaleAt hp hr _, h.rank, h.lead, h.rise, fun j hj m hm => ?_, fun j hj k hk => ?_, fun m hm1 hm2 j hj => ?_, ?_, ?_, ?_⟩, e⟩
  · show at2 (scaleAt p s.lead.length (Go.Proofs.Ytdcgoeapgboclaa.inv p (at2 s.a s.lead.length col)) s.a) m (s.lead.getD j 0) = _
    have hj' : j < s.lead.length := hj
    rw [at2_scale h.a hr _ (by have := h.lead j hj; omega)]
    split
    · rw [h.unit j hj _ hr, if_neg (by omega), if_neg (by omega)]
      simp
    · exact h.unit j hj m hm
  · show at2 (scaleAt p s.lead.length (Go.Proofs.Ytdcgoeapgboclaa.inv p (at2 s.a s.lead.length col)) s.a) j k = 0
    have hj' : j < s.lead.length := hj
    have hk' : k < s.lead.getD j 0 := hk
    have := h.lead j hj
    rw [at2_scale h.a hr _ (by omega), if_neg (by omega)]
    exact h.left j hj k hk
  · show at2 (scaleAt p s.lead.length (Go.Proofs.Ytdcgoeapgboclaa.inv p (at2 s.a s.lead.length col)) s.a) m j = 0
    rw [at2_scale h.a hr _ (by omega)]
    split
    · rw [h.rest _ (Nat.le_refl _) hr j hj]
      simp
    · exact h.rest m hm1 hm2 j hj
  · show 1 ≤ s.det * at2 s.a s.lead.length col % p ∧ s.det * at2 s.a s.lead.length col % p < p
    rw [hx]
    exact unit_pos hp (emod_bd hp _) e2
  · show 1 ≤ s.fac * Go.Proofs.Ytdcgoeapgboclaa.inv p (at2 s.a s.lead.length col) % p ∧ s.fac * Go.Proofs.Ytdcgoeapgboclaa.inv p (at2 s.a s.lead.length col) % p < p
    rw [hx]
    exact unit_pos hp (emod_bd hp _) (y := s.det * x % p) (by rw [Int.mul_comm]; exact e2)
  · show s.det * at2 s.a s.lead.length col % p * (s.fac * Go.Proofs.Ytdcgoeapgboclaa.inv p (at2 s.a s.lead.length col) % p) % p = 1
    rw [hx]
    exact e2
theorem neg_self_mod {p x : Int} (h : 0 ≤ x ∧ x < p) : (x + (p - x) % p * 1) % p = 0 := by
  by_cases c : x = 0
  · subst c
    simp
  · rw [Int.emod_eq_of_lt (show 0 ≤ p - x by omega) (by omega), show x + (p - x) * 1 = p by omega]
    simp
theorem RInv.clean {p : Int} {n c w col : Nat} {s : Red} (h : RInv p n c w col s) (hp : 2 ≤ p) (hr : s.lead.length < n) (hc : col < c) (hk : at2 s.a s.lead.length col = 1) : RInv p n c w (col + 1) (clean p col s) := by
  have hlen : (s.lead ++ [col]).length = s.lead.length + 1 := by simp
  have hL : ∀ i, i < s.lead.length → (s.lead ++ [col]).getD i 0 = s.lead.getD i 0 := fun i hi => by
    rw [List.getD_eq_getElem?_getD, List.getD_eq_getElem?_getD, List.getElem?_append_left hi]
  have hL2 : (s.lead ++ [col]).getD s.lead.length 0 = col := by
    rw [List.getD_eq_getElem?_getD, List.getElem?_append_right (Nat.le_refl _)]
    simp
  have A : ∀ m j, m < n → j < c → at2 (Go.Proofs.Ytdcgoeapgboclaa.clean p col s).a m j = if m = s.lead.length then at2 s.a m j else (at2 s.a m j + (p - at2 s.a m col) % p * at2 s.a s.lead.length j) % p := fun m j hm hj => at2_elim h.a hm hj
  have z : ∀ x, 0 ≤ x ∧ x < p → ∀ y, (x + y * 0) % p = x := fun x hx y => by rw [Int.mul_zero, Int.add_zero, Int.emod_eq_of_lt hx.1 hx.2]
  have hb := h.lead
  refine ⟨h.a.elim hp _ _ _, h.t.elim hp _ _ _, by show (s.lead ++ [col]).length ≤ n; omega, fun i hi => ?_, fun i j hij hj => ?_, fun i hi m hm => ?_, fun i hi j hj => ?_, fun m hm1 hm2 j hj => ?_, h.det0, h.fac0, h.inv⟩
  · show (s.lead ++ [col]).getD i 0 < col + 1
    have hi' : i < (s.lead ++ [col]).length := hi
    by_cases c1 : i < s.lead.length
    · rw [hL i c1]
      have := hb i c1
      omega
    · rw [show i = s.lead.length by omega, hL2]
      omega
  · show (s.lead ++ [col]).getD i 0 < (s.lead ++ [col]).getD j 0
    have hj' : j < (s.lead ++ [col]).length := hj
    by_cases c1 : j < s.lead.length
    · rw [hL i (by omega), hL j c1]
      exact h.rise i j hij c1
    · rw [show j = s.lead.length by omega, hL2, hL i (by omega)]
      exact hb i (by omega)
  · show at2 _ m ((s.lead ++ [col]).getD i 0) = _
    have hi' : i < (s.lead ++ [col]).length := hi
    by_cases c1 : i < s.lead.length
    · have := hb i c1
      rw [hL i c1, A m _ hm (by omega), h.unit i c1 m hm, h.unit i c1 _ hr, if_neg (show ¬ s.lead.length = i by omega)]
      split
      · rfl
      · exact z _ (by split <;> omega) _
    · obtain rfl : i = s.lead.length := by omega
      rw [hL2, A m _ hm hc]
      by_cases c2 : m = s.lead.length
      · rw [if_pos c2, if_pos c2, c2, hk]
      · rw [if_neg c2, if_neg c2, hk]
        exact neg_self_mod (h.a.el hm hc)
  · show at2 _ i j = 0
    have hi' : i < (s.lead ++ [col]).length := hi
    have hj' : j < (s.lead ++ [col]).getD i 0 := hj
    by_cases c1 : i < s.lead.length
    · rw [hL i c1] at hj'
      have := hb i c1
      rw [A i j (by omega) (by omega), if_neg (by omega), h.left i c1 j hj', h.rest _ (Nat.le_refl _) hr j (by omega)]
      exact z 0 (by omega) _
    · obtain rfl : i = s.lead.length := by omega
      rw [hL2] at hj'
      rw [A _ j hr (by omega), if_pos rfl]
      exact h.rest _ (Nat.le_refl _) hr j hj'
  · show at2 _ m j = 0
    have hm1' : (s.lead ++ [col]).length ≤ m := hm1
    rw [A m j hm2 (by omega), if_neg (by omega)]
    by_cases c1 : j < col
    · rw [h.rest m (by omega) hm2 j c1, h.rest _ (Nat.le_refl _) hr j c1]
      exact z 0 (by omega) _
    · rw [show j = col by omega, hk]
      exact neg_self_mod (h.a.el hm2 hc)
theorem RInv.stay {p : Int} {n c w col : Nat} {s : Red} (h : RInv p n c w col s) (hk : ∀ j, s.lead.length ≤ j → j < n → at2 s.a j col = 0) : RInv p n c w (col + 1) s :=
  ⟨h.a, h.t, h.rank, fun i hi => by have := h.lead i hi; omega, h.rise, h.unit, h.left, fun m h1 h2 j hj => by
    by_cases c1 : j < col
    · exact h.rest m h1 h2 j c1
    · rw [show j = col by omega]
      exact hk m h1 h2, h.det0, h.fac0, h.inv⟩
theorem RInv.exch_at {p : Int} {n c w col : Nat} {s : Red} (h : RInv p n c w col s) {i : Nat} (h1 : s.lead.length ≤ i) (h2 : i < n) : at2 (Go.Proofs.Ytdcgoeapgboclaa.exch p i s).a s.lead.length col = at2 s.a i col := by
  show at2 (swapL s.lead.length i s.a) s.lead.length col = _
  rw [at2_swap (by rw [h.a.1]; omega) (by rw [h.a.1]; exact h2), if_pos rfl]
theorem RInv.step {p : Int} {n c w col : Nat} {s : Red} (h : RInv p n c w col s) (hf : fld p = true) (hc : col < c) : RInv p n c w (col + 1) (stepCol p col s) := by
  obtain ⟨hp, _⟩ := fld_bd hf
  obtain ⟨h1, h2, h3, h4⟩ := piv_spec (rows := s.a) (col := col) (r := s.lead.length) (by rw [h.a.1]; exact h.rank)
  unfold stepCol
  split
  · rename_i hlt
    have hlt' : piv s.a col s.lead.length < n := by rw [← h.a.1]; exact hlt
    have he := h.exch hp h1 hlt'
    have hk : at2 (Go.Proofs.Ytdcgoeapgboclaa.exch p (piv s.a col s.lead.length) s).a s.lead.length col ≠ 0 := by
      rw [h.exch_at h1 hlt']
      exact h4 hlt
    obtain ⟨hm, hm1⟩ := he.mult hf (show s.lead.length < n by omega) hc hk
    exact hm.clean hp (show s.lead.length < n by omega) hc hm1
  · rename_i hge
    exact h.stay fun j a b => h3 j a (by rw [h.a.1] at hge; omega)
theorem red_inv {p : Int} (hf : fld p = true) {n c w : Nat} {a t : List (List Int)} (ha : Mat p n c a) (ht : Mat p n w t) : ∀ k, k ≤ c → RInv p n c w k (red p a t k)
  | 0, _ => red_zero (fld_bd hf).1 ha ht
  | k + 1, hk => (red_inv hf ha ht k (by omega)).step hf (by omega)
end Go.Proofs.Ytdcgoeapgboclaa

/-! The reduced list of a span: what both sides' reductions leave, without the zero rows; lists that are reduced already. -/
namespace Go.Proofs.Ytdcgoeapgboclaa

theorem scaleAt_one' {p : Int} {n c : Nat} {rows : List (List Int)} (h : Mat p n c rows) {r : Nat} (hr : r < n) : scaleAt p r 1 rows = rows := by
  unfold scaleAt
  rw [scale_one (h.row hr).2]
  refine ext_getD [] (by simp) fun j hj => ?_
  rw [set_getD _ _ _ _ _ (by rw [h.1]; exact hr)]
  split
  · rename_i e; rw [e]
  · rfl
/-- Nothing to take away in the column: the rows stay. -/
theorem elim_stay {p : Int} {n c : Nat} {rows : List (List Int)} (h : Mat p n c rows) {r col : Nat} (b : List (List Int)) (hz : ∀ m, m < n → m ≠ r → at2 b m col = 0) : elim p r col b rows = rows := by
  refine ext_getD [] (elim_len _ _ _ _ _) fun m hm => ?_
  rw [elim_len] at hm
  rw [elim_get hm]
  have hm' : m < n := by rw [← h.1]; exact hm
  split
  · rfl
  · rename_i hne
    rw [hz m hm' hne, Int.sub_zero, Int.emod_self, axpy_zero (h.row hm').2]
/-- The reduction of the rows does not look at what stands beside them. -/
theorem red_beside (p : Int) (a t t' : List (List Int)) : ∀ k, (red p a t k).a = (red p a t' k).a ∧ (red p a t k).lead = (red p a t' k).lead ∧ (red p a t k).det = (red p a t' k).det ∧ (red p a t k).fac = (red p a t' k).fac
  | 0 => ⟨rfl, rfl, rfl, rfl⟩
  | k + 1 => by
    obtain ⟨h1, h2, h3, h4⟩ := red_beside p a t t' k
    show (stepCol p k (red p a t k)).a = (stepCol p k (red p a t' k)).a ∧ (stepCol p k (red p a t k)).lead = (stepCol p k (red p a t' k)).lead ∧ (stepCol p k (red p a t k)).det = (stepCol p k (red p a t' k)).det ∧ (stepCol p k (red p a t k)).fac = (stepCol p k (red p a t' k)).fac
    unfold stepCol
    rw [h1, h2]
    split
    · simp only [clean, mult, exch, h1, h2, h3, h4]
      exact ⟨trivial, trivial, trivial, trivial⟩
    · exact ⟨h1, h2, h3, h4⟩
/-- No row is left: nothing changes any more. -/
theorem red_full {p : Int} (hf : fld p = true) {n c w : Nat} {a t : List (List Int)} (ha : Mat p n c a) (ht : Mat p n w t) {k : Nat} (hk : k ≤ c) (hr : (red p a t k).lead.length = n) : ∀ d, k + d ≤ c → red p a t (k + d) = red p a t k
  | 0, _ => rfl
  | d + 1, hd => by
    have h := red_full hf ha ht hk hr d (by omega)
    show stepCol p (k + d) (red p a t (k + d)) = _
    rw [h]
    have hI := red_inv hf ha ht k hk
    unfold stepCol
    rw [if_neg]
    have := (piv_spec (rows := (red p a t k).a) (col := k + d) (r := (red p a t k).lead.length) (by rw [hI.a.1]; exact hI.rank)).1
    rw [hI.a.1]
    omega
/-- n rows without elements. -/
def nils (n : Nat) : List (List Int) := List.replicate n []
theorem nils_mat (p : Int) (n : Nat) : Mat p n 0 (nils n) := ⟨by simp [nils], fun r hr => by
  rw [(List.mem_replicate.1 hr).2]
  exact ⟨rfl, fun x hx => by cases hx⟩⟩
def rr (p : Int) (rows : List (List Int)) (c : Nat) : Red := red p rows (nils rows.length) c
/-- The reduced list. -/
def rref (p : Int) (rows : List (List Int)) (c : Nat) : List (List Int) := (rr p rows c).a.take (rr p rows c).lead.length
theorem red_rr (p : Int) (a t : List (List Int)) (k : Nat) : (red p a t k).a = (rr p a k).a ∧ (red p a t k).lead = (rr p a k).lead :=
  ⟨(red_beside p a t _ k).1, (red_beside p a t _ k).2.1⟩
theorem rr_inv {p : Int} (hf : fld p = true) {n c : Nat} {a : List (List Int)} (ha : Mat p n c a) {k : Nat} (hk : k ≤ c) : RInv p n c 0 k (rr p a k) := by
  unfold rr
  rw [ha.1]
  exact red_inv hf ha (nils_mat p n) k hk
/-- The index of the first element other than 0, or the length. -/
def lead0 : List Int → Nat
  | [] => 0
  | x :: xs => if x = 0 then lead0 xs + 1 else 0
theorem lead0_le : ∀ v : List Int, lead0 v ≤ v.length
  | [] => Nat.le_refl _
  | x :: xs => by
    have := lead0_le xs
    unfold lead0
    rw [List.length_cons]
    split <;> omega
theorem lead0_zero : ∀ {v : List Int} {j : Nat}, j < lead0 v → v.getD j 0 = 0
  | [], j, h => absurd h (Nat.not_lt_zero j)
  | x :: xs, j, h => by
    unfold lead0 at h
    split at h
    · rename_i e
      cases j with
      | zero => exact e
      | succ j => exact lead0_zero (v := xs) (j := j) (by omega)
    · exact absurd h (Nat.not_lt_zero j)
theorem lead0_ne : ∀ {v : List Int}, lead0 v < v.length → v.getD (lead0 v) 0 ≠ 0
  | [], h => absurd h (Nat.not_lt_zero _)
  | x :: xs, h => by
    unfold lead0 at h ⊢
    split at h
    · rename_i e
      rw [if_pos e]
      rw [List.length_cons] at h
      exact lead0_ne (v := xs) (by omega)
    · rename_i e
      rw [if_neg e]
      exact e
theorem lead0_eq {v : List Int} {j : Nat} (h1 : j ≤ v.length) (h2 : ∀ i, i < j → v.getD i 0 = 0) (h3 : j < v.length → v.getD j 0 ≠ 0) : lead0 v = j := by
  rcases Nat.lt_trichotomy (lead0 v) j with h | h | h
  · exact absurd (h2 _ h) (lead0_ne (by omega))
  · exact h
  · have := lead0_le v
    exact absurd (lead0_zero h) (h3 (by omega))
/-- A reduced list: the leading indices rise, and a leading element is 1 and the only one of its column. -/
structure IsRed (p : Int) (n c : Nat) (rows : List (List Int)) : Prop where
  mat : Mat p n c rows
  lt : ∀ i, i < n → lead0 (rows.getD i []) < c
  rise : ∀ i j, i < j → j < n → lead0 (rows.getD i []) < lead0 (rows.getD j [])
  unit : ∀ i, i < n → ∀ m, m < n → at2 rows m (lead0 (rows.getD i [])) = if m = i then 1 else 0
theorem Mat.take {p : Int} {n c : Nat} {rows : List (List Int)} (h : Mat p n c rows) {r : Nat} (hr : r ≤ n) : Mat p r c (rows.take r) :=
  ⟨by rw [List.length_take, h.1]; omega, fun x hx => h.2 x (List.mem_of_mem_take hx)⟩
theorem take_getD {α : Type} (l : List α) {i r : Nat} (h : i < r) (d : α) : (l.take r).getD i d = l.getD i d := by
  rw [List.getD_eq_getElem?_getD, List.getD_eq_getElem?_getD, List.getElem?_take_of_lt h]
theorem rref_len {p : Int} (hf : fld p = true) {n c : Nat} {rows : List (List Int)} (h : Mat p n c rows) : (rref p rows c).length = (rr p rows c).lead.length := by
  have hI := rr_inv hf h (Nat.le_refl c)
  unfold rref
  rw [List.length_take, hI.a.1]
  have := hI.rank
  omega
/-- What is left when the columns are reduced is a reduced list. -/
theorem rref_red {p : Int} (hf : fld p = true) {n c : Nat} {rows : List (List Int)} (h : Mat p n c rows) : IsRed p (rr p rows c).lead.length c (rref p rows c) := by
  have hI := rr_inv hf h (Nat.le_refl c)
  have hm : Mat p (rr p rows c).lead.length c (rref p rows c) := hI.a.take hI.rank
  have hl : ∀ i, i < (rr p rows c).lead.length → lead0 ((rref p rows c).getD i []) = (rr p rows c).lead.getD i 0 := fun i hi => by
    have e : (rref p rows c).getD i [] = (rr p rows c).a.getD i [] := take_getD _ hi _
    have hlen := (hm.row hi).1
    refine lead0_eq (by rw [hlen]; exact Nat.le_of_lt (hI.lead i hi)) (fun j hj => ?_) (fun _ => ?_)
    · rw [e]
      exact hI.left i hi j hj
    · rw [e]
      have h1 := hI.unit i hi i (Nat.lt_of_lt_of_le hi hI.rank)
      rw [if_pos rfl] at h1
      unfold at2 at h1
      rw [h1]
      decide
  refine ⟨hm, fun i hi => by rw [hl i hi]; exact hI.lead i hi, fun i j hij hj => by rw [hl i (by omega), hl j hj]; exact hI.rise i j hij hj, fun i hi m hm2 => ?_⟩
  rw [hl i hi]
  have h1 := hI.unit i hi m (Nat.lt_of_lt_of_le hm2 hI.rank)
  unfold at2 at h1 ⊢
  rw [show (rref p rows c).getD m [] = (rr p rows c).a.getD m [] from take_getD _ hm2 _]
  exact h1
theorem inv_one {p : Int} (hf : fld p = true) : inv p 1 = 1 := by
  obtain ⟨hp, _⟩ := fld_bd hf
  exact (inv_unique hf (by omega) (by omega) (x := 1) (by omega) (by omega) (by rw [Int.one_mul]; exact Int.emod_eq_of_lt (by omega) (by omega))).symm
/-- A reduced list stays as it is. -/
theorem red_of_red {p : Int} (hf : fld p = true) {n c : Nat} {rows t : List (List Int)} (h : IsRed p n c rows) : ∀ k, k ≤ c →
    (red p rows t k).a = rows ∧ (red p rows t k).lead.length ≤ n ∧ (∀ i, i < (red p rows t k).lead.length → lead0 (rows.getD i []) < k) ∧ (∀ i, (red p rows t k).lead.length ≤ i → i < n → k ≤ lead0 (rows.getD i []))
  | 0, _ => ⟨rfl, Nat.zero_le _, fun i hi => absurd hi (Nat.not_lt_zero i), fun i _ _ => Nat.zero_le _⟩
  | k + 1, hk => by
    obtain ⟨ha, hl, h1, h2⟩ := red_of_red hf (t := t) h k (by omega)
    show (stepCol p k (red p rows t k)).a = rows ∧ (stepCol p k (red p rows t k)).lead.length ≤ n ∧ (∀ i, i < (stepCol p k (red p rows t k)).lead.length → lead0 (rows.getD i []) < k + 1) ∧ (∀ i, (stepCol p k (red p rows t k)).lead.length ≤ i → i < n → k + 1 ≤ lead0 (rows.getD i []))
    generalize red p rows t k = s at *
    have hz : ∀ i, s.lead.length ≤ i → i < n → lead0 (rows.getD i []) ≠ k → at2 rows i k = 0 := fun i a b e => lead0_zero (v := rows.getD i []) (by have := h2 i a b; omega)
    by_cases c1 : s.lead.length < n ∧ lead0 (rows.getD s.lead.length []) = k
    · obtain ⟨c1, c2⟩ := c1
      have hu := h.unit _ c1
      rw [c2] at hu
      have hpv : piv s.a k s.lead.length = s.lead.length := piv_eq (Nat.le_refl _) (by rw [ha, h.mat.1]; exact hl) (fun j a b => by omega) (fun _ => by rw [ha, hu _ c1, if_pos rfl]; decide)
      have hlt : piv s.a k s.lead.length < s.a.length := by rw [hpv, ha, h.mat.1]; exact c1
      have ea : (stepCol p k s).a = rows := by
        unfold stepCol
        rw [if_pos hlt, hpv]
        show elim p s.lead.length k (scaleAt p s.lead.length (inv p (at2 (swapL s.lead.length s.lead.length s.a) s.lead.length k)) (swapL s.lead.length s.lead.length s.a)) (scaleAt p s.lead.length (inv p (at2 (swapL s.lead.length s.lead.length s.a) s.lead.length k)) (swapL s.lead.length s.lead.length s.a)) = rows
        rw [ha, swapL_self (by rw [h.mat.1]; exact c1), hu _ c1, if_pos rfl, inv_one hf, scaleAt_one' h.mat c1]
        exact elim_stay h.mat _ (fun m hm hne => by rw [hu m hm, if_neg hne])
      have el : (stepCol p k s).lead = s.lead ++ [k] := by
        unfold stepCol
        rw [if_pos hlt]
        rfl
      have ell : (stepCol p k s).lead.length = s.lead.length + 1 := by rw [el]; simp
      refine ⟨ea, by rw [ell]; omega, fun i hi => ?_, fun i hi hn => ?_⟩
      · rw [ell] at hi
        by_cases c3 : i = s.lead.length
        · rw [c3, c2]; omega
        · have := h1 i (by omega); omega
      · rw [ell] at hi
        have := h.rise s.lead.length i (by omega) hn
        omega
    · have hall : ∀ i, s.lead.length ≤ i → i < n → lead0 (rows.getD i []) ≠ k := fun i a b e => by
        by_cases c3 : i = s.lead.length
        · exact c1 ⟨by omega, by rw [← c3]; exact e⟩
        · have h3 := h.rise s.lead.length i (by omega) b
          have h4 := h2 s.lead.length (Nat.le_refl _) (by omega)
          omega
      have hge : ¬ piv s.a k s.lead.length < s.a.length := fun hlt => by
        have hs := piv_spec (rows := s.a) (col := k) (r := s.lead.length) (by rw [ha, h.mat.1]; exact hl)
        have hne := hs.2.2.2 hlt
        rw [ha] at hne hlt hs
        rw [h.mat.1] at hlt
        exact hne (hz _ hs.1 hlt (hall _ hs.1 hlt))
      have e : stepCol p k s = s := by unfold stepCol; rw [if_neg hge]
      rw [e]
      exact ⟨ha, hl, fun i hi => by have := h1 i hi; omega, fun i a b => by have h3 := h2 i a b; have h4 := hall i a b; omega⟩
theorem rref_of_red {p : Int} (hf : fld p = true) {n c : Nat} {rows : List (List Int)} (h : IsRed p n c rows) : rref p rows c = rows := by
  obtain ⟨h1, h2, h3, h4⟩ := red_of_red hf (t := nils rows.length) h c (Nat.le_refl c)
  have hn : (rr p rows c).lead.length = n := by
    by_cases c1 : (rr p rows c).lead.length = n
    · exact c1
    · have h5 := h4 _ (Nat.le_refl _) (Nat.lt_of_le_of_ne h2 c1)
      have h6 := h.lt _ (Nat.lt_of_le_of_ne h2 c1)
      unfold rr at c1
      omega
  unfold rref
  rw [hn, show (rr p rows c).a = rows from h1, List.take_of_length_le (by rw [h.mat.1]; exact Nat.le_refl _)]
/-- A list of rows is the reduced list of its span exactly if it is reduced. -/
theorem rref_iff {p : Int} (hf : fld p = true) {n c : Nat} {rows : List (List Int)} (h : Mat p n c rows) : rref p rows c = rows ↔ IsRed p n c rows := by
  constructor
  · intro e
    have hr := rref_red hf h
    have hl := rref_len hf h
    rw [e] at hr hl
    rw [h.1] at hl
    rw [← hl] at hr
    exact hr
  · exact rref_of_red hf
theorem rref_mat {p : Int} (hf : fld p = true) {n c : Nat} {rows : List (List Int)} (h : Mat p n c rows) : Mat p (rref p rows c).length c (rref p rows c) := by
  rw [rref_len hf h]
  exact (rref_red hf h).mat
theorem IsRed.le {p : Int} {n c : Nat} {rows : List (List Int)} (h : IsRed p n c rows) : n ≤ c := by
  have key : ∀ i, i < n → i ≤ lead0 (rows.getD i []) := by
    intro i
    induction i with
    | zero => intro _; exact Nat.zero_le _
    | succ i ih =>
      intro hi
      have h1 := ih (by omega)
      have h2 := h.rise i (i + 1) (by omega) hi
      omega
  by_cases c1 : n = 0
  · omega
  · have h1 := key (n - 1) (by omega)
    have h2 := h.lt (n - 1) (by omega)
    omega
theorem rref_rref {p : Int} (hf : fld p = true) {n c : Nat} {rows : List (List Int)} (h : Mat p n c rows) : rref p (rref p rows c) c = rref p rows c :=
  rref_of_red hf (rref_red hf h)
theorem rref_le {p : Int} (hf : fld p = true) {n c : Nat} {rows : List (List Int)} (h : Mat p n c rows) : (rref p rows c).length ≤ c := by
  rw [rref_len hf h]
  exact (rref_red hf h).le
end Go.Proofs.Ytdcgoeapgboclaa

/-! Spans of rows over a field: closed under sums, kept by the reduction; a span has one reduced list alone. Plain mathematics. -/
namespace Go.Proofs.Ytdcgoeapgboclaa

def Vec (p : Int) (c : Nat) (v : List Int) : Prop := v.length = c ∧ ∀ x, x ∈ v → 0 ≤ x ∧ x < p
theorem Vec.el {p : Int} {c : Nat} {v : List Int} (h : Vec p c v) {j : Nat} (hj : j < c) : 0 ≤ v.getD j 0 ∧ v.getD j 0 < p := h.2 _ (getD_mem' (by rw [h.1]; exact hj) 0)
theorem Vec.zero {p : Int} (hp : 2 ≤ p) (c : Nat) : Vec p c (List.replicate c 0) := ⟨by simp, zeros_bd hp c⟩
theorem Vec.axpy {p : Int} (hp : 2 ≤ p) {c : Nat} {v : List Int} (h : v.length = c) (k : Int) (r : List Int) : Vec p c (axpy p v k r) := ⟨by rw [axpy_len, h], axpy_bd hp⟩
theorem Vec.ext {p q : Int} {c : Nat} {u v : List Int} (hu : Vec p c u) (hv : Vec q c v) (h : ∀ j, j < c → u.getD j 0 = v.getD j 0) : u = v :=
  ext_getD 0 (by rw [hu.1, hv.1]) fun j hj => h j (by rw [hu.1] at hj; exact hj)
theorem Mat.vec {p : Int} {n c : Nat} {rows : List (List Int)} (h : Mat p n c rows) {r : List Int} (hr : r ∈ rows) : Vec p c r := h.2 r hr
theorem Vec.mod {p : Int} {c : Nat} {v : List Int} (h : Vec p c v) {j : Nat} (hj : j < c) : v.getD j 0 % p = v.getD j 0 := Int.emod_eq_of_lt (h.el hj).1 (h.el hj).2
theorem add_mod_l (p a b : Int) : (a % p + b) % p = (a + b) % p := by rw [Int.add_emod, Int.emod_emod_of_dvd _ (Int.dvd_refl p), ← Int.add_emod]
theorem add_mod_r (p a b : Int) : (a + b % p) % p = (a + b) % p := by rw [Int.add_emod, Int.emod_emod_of_dvd _ (Int.dvd_refl p), ← Int.add_emod]
theorem add_mul_mod (p a k b : Int) : (a + k * (b % p)) % p = (a + k * b) % p := by rw [Int.add_emod, mul_mod_mod, ← Int.add_emod]
theorem mod_mul_add (p a k b : Int) : (a + k % p * b) % p = (a + k * b) % p := by rw [Int.add_emod, mod_mul_mod, ← Int.add_emod]
theorem axpy_axpy {p : Int} {u v r : List Int} {k j : Int} (h : u.length = v.length) : axpy p u k (axpy p v j r) = axpy p (axpy p u k v) (k * j) r := by
  refine ext_getD 0 (by simp [axpy_len]) fun i hi => ?_
  rw [axpy_len] at hi
  rw [axpy_get hi, axpy_get (by rw [← h]; exact hi), axpy_get (by rw [axpy_len]; exact hi), axpy_get hi, add_mul_mod, add_mod_l]
  congr 1
  grind
theorem axpy_zeros {p : Int} {u : List Int} {k : Int} {c : Nat} (h : ∀ x, x ∈ u → 0 ≤ x ∧ x < p) : axpy p u k (List.replicate c 0) = u := by
  refine ext_getD 0 (axpy_len _ _ _ _) fun j hj => ?_
  rw [axpy_len] at hj
  rw [axpy_get hj, repl_getD, Int.mul_zero, Int.add_zero]
  have := h _ (getD_mem' hj 0)
  exact Int.emod_eq_of_lt this.1 this.2
theorem zeros_axpy {p : Int} {u : List Int} (h : ∀ x, x ∈ u → 0 ≤ x ∧ x < p) : axpy p (List.replicate u.length 0) 1 u = u := by
  refine ext_getD 0 (by simp [axpy_len]) fun j hj => ?_
  rw [axpy_len, List.length_replicate] at hj
  rw [axpy_get (by simpa using hj), repl_getD, Int.one_mul, Int.zero_add]
  have := h _ (getD_mem' hj 0)
  exact Int.emod_eq_of_lt this.1 this.2
theorem zeros_axpy_scale {p : Int} {u : List Int} {k : Int} : axpy p (List.replicate u.length 0) k u = scale p k u := by
  refine ext_getD 0 (by simp [axpy_len, scale_len]) fun j hj => ?_
  rw [axpy_len, List.length_replicate] at hj
  rw [axpy_get (by simpa using hj), repl_getD, scale_get hj, Int.zero_add]
/-- The span of the rows. -/
inductive Sp (p : Int) (c : Nat) (rows : List (List Int)) : List Int → Prop
  | zero : Sp p c rows (List.replicate c 0)
  | add {v r : List Int} (k : Int) (h : Sp p c rows v) (hr : r ∈ rows) : Sp p c rows (axpy p v k r)
section
variable {p : Int} {c : Nat} {rows : List (List Int)}
theorem Sp.vec (hp : 2 ≤ p) {v : List Int} (h : Sp p c rows v) : Vec p c v := by
  induction h with
  | zero => exact Vec.zero hp c
  | add k h hr ih => exact Vec.axpy hp ih.1 k _
theorem Sp.comb (hp : 2 ≤ p) {u v : List Int} (hu : Sp p c rows u) (k : Int) (hv : Sp p c rows v) : Sp p c rows (axpy p u k v) := by
  induction hv with
  | zero => rw [axpy_zeros (hu.vec hp).2]; exact hu
  | @add v r j h hr ih =>
    rw [axpy_axpy (by rw [(hu.vec hp).1, (h.vec hp).1])]
    exact Sp.add _ ih hr
theorem Sp.row {r : List Int} (hv : Vec p c r) (hr : r ∈ rows) : Sp p c rows r := by
  have := Sp.add (p := p) (c := c) 1 Sp.zero hr
  rw [← hv.1, zeros_axpy hv.2, hv.1] at this
  exact this
theorem Sp.scale {r : List Int} (k : Int) (hv : r.length = c) (hr : r ∈ rows) : Sp p c rows (scale p k r) := by
  have := Sp.add (p := p) (c := c) k Sp.zero hr
  rw [← hv, zeros_axpy_scale, hv] at this
  exact this
theorem Sp.sub (hp : 2 ≤ p) {b : List (List Int)} (h : ∀ r, r ∈ rows → Sp p c b r) {v : List Int} (hv : Sp p c rows v) : Sp p c b v := by
  induction hv with
  | zero => exact Sp.zero
  | add k _ hr ih => exact Sp.comb hp ih k (h _ hr)
end
/-- Two lists of rows have one span. -/
def SpEq (p : Int) (c : Nat) (a b : List (List Int)) : Prop := ∀ v, Sp p c a v ↔ Sp p c b v
theorem SpEq.refl (p : Int) (c : Nat) (a : List (List Int)) : SpEq p c a a := fun _ => Iff.rfl
theorem SpEq.symm {p : Int} {c : Nat} {a b : List (List Int)} (h : SpEq p c a b) : SpEq p c b a := fun v => (h v).symm
theorem SpEq.trans {p : Int} {c : Nat} {a b d : List (List Int)} (h : SpEq p c a b) (h2 : SpEq p c b d) : SpEq p c a d := fun v => (h v).trans (h2 v)
theorem SpEq.of {p : Int} (hp : 2 ≤ p) {c : Nat} {a b : List (List Int)} (h : ∀ r, r ∈ a → Sp p c b r) (h2 : ∀ r, r ∈ b → Sp p c a r) : SpEq p c a b := fun _ => ⟨Sp.sub hp h, Sp.sub hp h2⟩
theorem mem_getD {α : Type} {l : List α} {x : α} (d : α) (h : x ∈ l) : ∃ i, i < l.length ∧ l.getD i d = x := by
  obtain ⟨i, hi, rfl⟩ := List.getElem_of_mem h
  exact ⟨i, hi, by rw [List.getD_eq_getElem?_getD, List.getElem?_eq_getElem hi]; rfl⟩
/-! ### The row operations keep the span -/
section
variable {p : Int} {n c : Nat} {rows : List (List Int)}
theorem sp_swap (hp : 2 ≤ p) (h : Mat p n c rows) {r i : Nat} (hr : r < n) (hi : i < n) : SpEq p c (swapL r i rows) rows := by
  have hr' : r < rows.length := by rw [h.1]; exact hr
  have hi' : i < rows.length := by rw [h.1]; exact hi
  have hm := h.swap hr hi
  refine SpEq.of hp (fun x hx => ?_) (fun x hx => ?_)
  · obtain ⟨m, hm2, rfl⟩ := mem_getD [] hx
    refine Sp.row (hm.vec hx) ?_
    rw [swapL_len] at hm2
    rw [swapL_get hr' hi']
    split
    · exact getD_mem' hi' _
    · split
      · exact getD_mem' hr' _
      · exact getD_mem' hm2 _
  · obtain ⟨m, hm2, rfl⟩ := mem_getD [] hx
    refine Sp.row (h.vec hx) ?_
    by_cases c1 : m = r
    · have : (swapL r i rows).getD i [] = rows.getD m [] := by
        rw [swapL_get hr' hi']
        split
        · rename_i e; rw [e, c1]
        · rw [if_pos rfl, c1]
      rw [← this]
      exact getD_mem' (by rw [swapL_len]; exact hi') _
    · by_cases c2 : m = i
      · have : (swapL r i rows).getD r [] = rows.getD m [] := by rw [swapL_get hr' hi', if_pos rfl, c2]
        rw [← this]
        exact getD_mem' (by rw [swapL_len]; exact hr') _
      · have : (swapL r i rows).getD m [] = rows.getD m [] := by rw [swapL_get hr' hi', if_neg c1, if_neg c2]
        rw [← this]
        exact getD_mem' (by rw [swapL_len]; exact hm2) _
theorem scale_scale {p k j : Int} {r : List Int} (hr : ∀ x, x ∈ r → 0 ≤ x ∧ x < p) (h : k * j % p = 1) : scale p k (scale p j r) = r := by
  refine ext_getD 0 (by simp [scale_len]) fun i hi => ?_
  rw [scale_len, scale_len] at hi
  rw [scale_get (by rw [scale_len]; exact hi), scale_get hi, mul_mod_mod, ← Int.mul_assoc, ← mod_mul_mod, h, Int.one_mul]
  have := hr _ (getD_mem' hi 0)
  exact Int.emod_eq_of_lt this.1 this.2
theorem sp_scale (hp : 2 ≤ p) (h : Mat p n c rows) {r : Nat} (hr : r < n) {k j : Int} (hk : j * k % p = 1) : SpEq p c (scaleAt p r k rows) rows := by
  have hr' : r < rows.length := by rw [h.1]; exact hr
  have hm := h.scaleAt hp hr k
  refine SpEq.of hp (fun x hx => ?_) (fun x hx => ?_)
  · obtain ⟨m, hm2, rfl⟩ := mem_getD [] hx
    rw [scaleAt_len] at hm2
    rw [scaleAt_get hr']
    split
    · exact Sp.scale k (h.row hr).1 (getD_mem' hr' _)
    · exact Sp.row (h.row (by rw [← h.1]; exact hm2)) (getD_mem' hm2 _)
  · obtain ⟨m, hm2, rfl⟩ := mem_getD [] hx
    by_cases c1 : m = r
    · subst c1
      have e : (scaleAt p m k rows).getD m [] = scale p k (rows.getD m []) := by rw [scaleAt_get hr', if_pos rfl]
      have := Sp.scale (p := p) (c := c) j (by rw [e, scale_len]; exact (h.row hr).1) (getD_mem' (l := scaleAt p m k rows) (by rw [scaleAt_len]; exact hm2) [])
      rw [e, scale_scale (h.row hr).2 hk] at this
      exact this
    · have e : (scaleAt p r k rows).getD m [] = rows.getD m [] := by rw [scaleAt_get hr', if_neg c1]
      rw [← e]
      exact Sp.row (by rw [e]; exact h.row (by rw [← h.1]; exact hm2)) (getD_mem' (by rw [scaleAt_len]; exact hm2) _)
theorem axpy_back {p k : Int} {a s : List Int} (ha : ∀ x, x ∈ a → 0 ≤ x ∧ x < p) : axpy p (axpy p a k s) (-k) s = a := by
  refine ext_getD 0 (by simp [axpy_len]) fun i hi => ?_
  rw [axpy_len, axpy_len] at hi
  rw [axpy_get (by rw [axpy_len]; exact hi), axpy_get hi, add_mod_l, show a.getD i 0 + k * s.getD i 0 + -k * s.getD i 0 = a.getD i 0 by grind]
  have := ha _ (getD_mem' hi 0)
  exact Int.emod_eq_of_lt this.1 this.2
theorem sp_elim (hp : 2 ≤ p) (h : Mat p n c rows) {r : Nat} (hr : r < n) (col : Nat) (b : List (List Int)) : SpEq p c (elim p r col b rows) rows := by
  have hr' : r < rows.length := by rw [h.1]; exact hr
  have hm := h.elim hp r col b
  have er : (elim p r col b rows).getD r [] = rows.getD r [] := by rw [elim_get hr', if_pos rfl]
  refine SpEq.of hp (fun x hx => ?_) (fun x hx => ?_)
  · obtain ⟨m, hm2, rfl⟩ := mem_getD [] hx
    rw [elim_len] at hm2
    have hv := h.row (show m < n by rw [← h.1]; exact hm2)
    rw [elim_get hm2]
    split
    · exact Sp.row hv (getD_mem' hm2 _)
    · exact Sp.add _ (Sp.row hv (getD_mem' hm2 _)) (getD_mem' hr' _)
  · obtain ⟨m, hm2, rfl⟩ := mem_getD [] hx
    have hv := h.row (show m < n by rw [← h.1]; exact hm2)
    have hmem : (elim p r col b rows).getD m [] ∈ elim p r col b rows := getD_mem' (by rw [elim_len]; exact hm2) _
    by_cases c1 : m = r
    · have e : rows.getD m [] = (elim p r col b rows).getD m [] := by rw [c1, er]
      rw [e]
      exact Sp.row (hm.vec hmem) hmem
    · have e : (elim p r col b rows).getD m [] = axpy p (rows.getD m []) ((p - at2 b m col) % p) (rows.getD r []) := by rw [elim_get hm2, if_neg c1]
      have := Sp.add (-((p - at2 b m col) % p)) (Sp.row (hm.vec hmem) hmem) (getD_mem' (l := elim p r col b rows) (by rw [elim_len]; exact hr') [])
      rw [e, er, axpy_back hv.2] at this
      exact this
end
/-- The reduction keeps the span of the rows. -/
theorem red_sp {p : Int} (hf : fld p = true) {n c w : Nat} {a t : List (List Int)} (ha : Mat p n c a) (ht : Mat p n w t) : ∀ k, k ≤ c → SpEq p c (red p a t k).a a
  | 0, _ => SpEq.refl _ _ _
  | k + 1, hk => by
    obtain ⟨hp, hp97⟩ := fld_bd hf
    have hI := red_inv hf ha ht k (by omega)
    have ih := red_sp hf ha ht k (by omega)
    show SpEq p c (stepCol p k (red p a t k)).a a
    generalize red p a t k = s at hI ih
    obtain ⟨h1, h2, h3, h4⟩ := piv_spec (rows := s.a) (col := k) (r := s.lead.length) (by rw [hI.a.1]; exact hI.rank)
    unfold stepCol
    split
    · rename_i hlt
      have hlt' : piv s.a k s.lead.length < n := by rw [← hI.a.1]; exact hlt
      have hr : s.lead.length < n := by omega
      have he := hI.exch hp h1 hlt'
      have hk2 : at2 (Go.Proofs.Ytdcgoeapgboclaa.exch p (piv s.a k s.lead.length) s).a s.lead.length k ≠ 0 := by
        rw [hI.exch_at h1 hlt']
        exact h4 hlt
      obtain ⟨hm, hm1⟩ := he.mult hf hr (show k < c by omega) hk2
      have hel := he.a.el hr (show k < c by omega)
      have e1 : SpEq p c (Go.Proofs.Ytdcgoeapgboclaa.exch p (piv s.a k s.lead.length) s).a s.a := sp_swap hp hI.a hr hlt'
      have hel2 : 0 ≤ at2 (Go.Proofs.Ytdcgoeapgboclaa.exch p (piv s.a k s.lead.length) s).a s.lead.length k ∧ at2 (Go.Proofs.Ytdcgoeapgboclaa.exch p (piv s.a k s.lead.length) s).a s.lead.length k < p := hel
      have e2 : SpEq p c (Go.Proofs.Ytdcgoeapgboclaa.mult p k (Go.Proofs.Ytdcgoeapgboclaa.exch p (piv s.a k s.lead.length) s)).a (Go.Proofs.Ytdcgoeapgboclaa.exch p (piv s.a k s.lead.length) s).a :=
        sp_scale hp he.a hr (inv_mul hf (show 0 < at2 (Go.Proofs.Ytdcgoeapgboclaa.exch p (piv s.a k s.lead.length) s).a s.lead.length k by omega) hel2.2)
      have e3 : SpEq p c (Go.Proofs.Ytdcgoeapgboclaa.clean p k (Go.Proofs.Ytdcgoeapgboclaa.mult p k (Go.Proofs.Ytdcgoeapgboclaa.exch p (piv s.a k s.lead.length) s))).a (Go.Proofs.Ytdcgoeapgboclaa.mult p k (Go.Proofs.Ytdcgoeapgboclaa.exch p (piv s.a k s.lead.length) s)).a :=
        sp_elim hp hm.a hr _ _
      exact ((e3.trans e2).trans e1).trans ih
    · exact ih
theorem sp_drop_zero {p : Int} (hp : 2 ≤ p) {n c r : Nat} {a : List (List Int)} (ha : Mat p n c a) (hz : ∀ m, r ≤ m → m < n → ∀ j, j < c → at2 a m j = 0) : SpEq p c (a.take r) a := by
  refine SpEq.of hp (fun x hx => Sp.row (ha.vec (List.mem_of_mem_take hx)) (List.mem_of_mem_take hx)) (fun x hx => ?_)
  obtain ⟨m, hm, rfl⟩ := mem_getD [] hx
  have hm' : m < n := by rw [← ha.1]; exact hm
  by_cases c1 : m < r
  · refine Sp.row (ha.row hm') ?_
    rw [← take_getD a c1]
    exact getD_mem' (by rw [List.length_take]; omega) _
  · have : a.getD m [] = List.replicate c 0 := Vec.ext (ha.row hm') (Vec.zero hp c) fun j hj => by
      rw [repl_getD]
      exact hz m (by omega) hm' j hj
    rw [this]
    exact Sp.zero
/-- The reduced list has the span of the rows. -/
theorem rref_sp {p : Int} (hf : fld p = true) {n c : Nat} {rows : List (List Int)} (h : Mat p n c rows) : SpEq p c (rref p rows c) rows := by
  have hp := (fld_bd hf).1
  have hI := rr_inv hf h (Nat.le_refl c)
  have e1 : SpEq p c (rr p rows c).a rows := by
    unfold rr
    rw [h.1]
    exact red_sp hf h (nils_mat p n) c (Nat.le_refl c)
  exact (sp_drop_zero hp hI.a fun m h1 h2 j hj => hI.rest m h1 h2 j hj).trans e1
/-! ### Coordinates -/
/-- The sum of the first r rows' elements at j, each multiplied by its factor. -/
def dsum (f : Nat → Int) (rows : List (List Int)) (j : Nat) : Nat → Int
  | 0 => 0
  | r + 1 => dsum f rows j r + f r * at2 rows r j
theorem dsum_lin {p k : Int} (f d : Nat → Int) (rows : List (List Int)) (j : Nat) : ∀ r, dsum (fun i => (f i + k * d i) % p) rows j r % p = (dsum f rows j r + k * dsum d rows j r) % p
  | 0 => by simp [dsum]
  | r + 1 => by
    have ih := dsum_lin (p := p) (k := k) f d rows j r
    simp only [dsum]
    rw [← add_mod_l, ih, add_mod_l, mod_mul_add]
    congr 1
    grind
theorem dsum_congr {f g : Nat → Int} {rows : List (List Int)} {j : Nat} : ∀ {r : Nat}, (∀ i, i < r → f i = g i) → dsum f rows j r = dsum g rows j r
  | 0, _ => rfl
  | r + 1, h => by
    simp only [dsum]
    rw [dsum_congr (r := r) fun i hi => h i (by omega), h r (by omega)]
theorem dsum_zero {f : Nat → Int} {rows : List (List Int)} {j : Nat} : ∀ {r : Nat}, (∀ i, i < r → f i * at2 rows i j = 0) → dsum f rows j r = 0
  | 0, _ => rfl
  | r + 1, h => by
    simp only [dsum]
    rw [dsum_zero (r := r) fun i hi => h i (by omega), h r (by omega), Int.add_zero]
theorem dsum_unit {rows : List (List Int)} {j m : Nat} : ∀ {r : Nat}, dsum (fun i => if m = i then 1 else 0) rows j r = if m < r then at2 rows m j else 0
  | 0 => by simp [dsum]
  | r + 1 => by
    simp only [dsum]
    rw [dsum_unit (r := r)]
    by_cases c1 : m < r
    · rw [if_pos c1, if_pos (show m < r + 1 by omega), if_neg (show ¬ m = r by omega)]
      omega
    · by_cases c2 : m = r
      · rw [if_neg c1, if_pos (show m < r + 1 by omega), if_pos c2, c2]
        omega
      · rw [if_neg c1, if_neg (show ¬ m < r + 1 by omega), if_neg c2]
        omega
theorem dsum_ne {f : Nat → Int} {rows : List (List Int)} {j : Nat} : ∀ {r : Nat}, dsum f rows j r ≠ 0 → ∃ i, i < r ∧ f i ≠ 0 ∧ at2 rows i j ≠ 0
  | 0, h => absurd rfl h
  | r + 1, h => by
    simp only [dsum] at h
    by_cases c1 : dsum f rows j r = 0
    · rw [c1, Int.zero_add] at h
      refine ⟨r, by omega, fun e => h (by rw [e, Int.zero_mul]), fun e => h (by rw [e, Int.mul_zero])⟩
    · obtain ⟨i, hi, h2⟩ := dsum_ne c1
      exact ⟨i, by omega, h2⟩
/-- Rows whose first r ones have unit columns: what a vector of the span is made of. -/
theorem sp_coords {p : Int} (hp : 2 ≤ p) {n c r : Nat} {a : List (List Int)} {l : Nat → Nat} (ha : Mat p n c a) (hl : ∀ i, i < r → l i < c) (hu : ∀ i, i < r → ∀ m, m < n → at2 a m (l i) = if m = i then 1 else 0) {v : List Int} (hv : Sp p c a v) :
    ∃ w, Sp p c (a.drop r) w ∧ ∀ j, j < c → v.getD j 0 = (w.getD j 0 + dsum (fun i => v.getD (l i) 0) a j r) % p := by
  induction hv with
  | zero => exact ⟨_, Sp.zero, fun j hj => by
      rw [dsum_zero (fun i _ => by rw [repl_getD, Int.zero_mul]), repl_getD]
      simp⟩
  | @add v s k h hs ih =>
    obtain ⟨w, hw, e⟩ := ih
    obtain ⟨m, hm, rfl⟩ := mem_getD [] hs
    have hm' : m < n := by rw [← ha.1]; exact hm
    have hvl : v.length = c := (h.vec hp).1
    have hfl : ∀ i, i < r → (axpy p v k (a.getD m [])).getD (l i) 0 = (v.getD (l i) 0 + k * (if m = i then 1 else 0)) % p := fun i hi => by
      rw [axpy_get (by rw [hvl]; exact hl i hi)]
      have := hu i hi m hm'
      unfold at2 at this
      rw [this]
    have key : ∀ j, dsum (fun i => (axpy p v k (a.getD m [])).getD (l i) 0) a j r % p = (dsum (fun i => v.getD (l i) 0) a j r + k * (if m < r then at2 a m j else 0)) % p := fun j => by
      rw [dsum_congr hfl, dsum_lin, dsum_unit]
    by_cases c1 : m < r
    · refine ⟨w, hw, fun j hj => ?_⟩
      have k2 := key j
      rw [if_pos c1] at k2
      rw [axpy_get (by rw [hvl]; exact hj), e j hj, add_mod_l, ← add_mod_r p (w.getD j 0) (dsum (fun i => (axpy p v k (a.getD m [])).getD (l i) 0) a j r), k2, add_mod_r]
      congr 1
      show _ + k * at2 a m j = _
      omega
    · refine ⟨axpy p w k (a.getD m []), Sp.add k hw ?_, fun j hj => ?_⟩
      · have : (a.drop r).getD (m - r) [] = a.getD m [] := by
          rw [List.getD_eq_getElem?_getD, List.getD_eq_getElem?_getD, List.getElem?_drop, show r + (m - r) = m by omega]
        rw [← this]
        exact getD_mem' (by rw [List.length_drop]; omega) _
      · have k2 := key j
        rw [if_neg c1, Int.mul_zero, Int.add_zero] at k2
        rw [axpy_get (by rw [hvl]; exact hj), axpy_get (by rw [(hw.vec hp).1]; exact hj), e j hj, add_mod_l, add_mod_l, ← add_mod_r p (w.getD j 0 + k * (a.getD m []).getD j 0) (dsum (fun i => (axpy p v k (a.getD m [])).getD (l i) 0) a j r), k2, add_mod_r]
        congr 1
        omega
theorem sp_nil {p : Int} {c : Nat} {w : List Int} (h : Sp p c [] w) : w = List.replicate c 0 := by
  cases h with
  | zero => rfl
  | add _ _ hr => cases hr
/-- A vector of the span of a reduced list is made of its elements at the leading indices. -/
theorem IsRed.coords {p : Int} (hp : 2 ≤ p) {n c : Nat} {a : List (List Int)} (h : IsRed p n c a) {v : List Int} (hv : Sp p c a v) : ∀ j, j < c → v.getD j 0 = dsum (fun i => v.getD (lead0 (a.getD i [])) 0) a j n % p := by
  obtain ⟨w, hw, e⟩ := sp_coords hp (r := n) (l := fun i => lead0 (a.getD i [])) h.mat h.lt h.unit hv
  rw [List.drop_eq_nil_of_le (by rw [h.mat.1]; exact Nat.le_refl _)] at hw
  have := sp_nil hw
  intro j hj
  rw [e j hj, this, repl_getD, Int.zero_add]
theorem IsRed.lead {p : Int} (hp : 2 ≤ p) {n c : Nat} {a : List (List Int)} (h : IsRed p n c a) {v : List Int} (hv : Sp p c a v) (hn : lead0 v < c) : ∃ i, i < n ∧ lead0 v = lead0 (a.getD i []) := by
  have hvl := (hv.vec hp).1
  have hne := lead0_ne (v := v) (by rw [hvl]; exact hn)
  have e := h.coords hp hv _ hn
  have hd : dsum (fun i => v.getD (lead0 (a.getD i [])) 0) a (lead0 v) n ≠ 0 := fun c0 => by
    rw [c0] at e
    exact hne (by rw [e]; simp)
  obtain ⟨i, hi, h1, h2⟩ := dsum_ne hd
  refine ⟨i, hi, ?_⟩
  rcases Nat.lt_trichotomy (lead0 v) (lead0 (a.getD i [])) with h3 | h3 | h3
  · exact absurd (lead0_zero h3) h2
  · exact h3
  · exact absurd (lead0_zero h3) h1
theorem rise_unique {n m : Nat} {l s : Nat → Nat} (hl : ∀ i j, i < j → j < n → l i < l j) (hs : ∀ i j, i < j → j < m → s i < s j) (h1 : ∀ i, i < n → ∃ k, k < m ∧ l i = s k) (h2 : ∀ i, i < m → ∃ k, k < n ∧ s i = l k) : ∀ i, i < n → i < m ∧ l i = s i := by
  intro i
  induction i using Nat.strongRecOn with
  | ind i ih =>
    intro hi
    obtain ⟨k, hk, e⟩ := h1 i hi
    have hki : i ≤ k := by
      refine Nat.not_lt.1 fun c => ?_
      have h3 := (ih k c (by omega)).2
      have h4 := hl k i c hi
      omega
    have him : i < m := by omega
    obtain ⟨k2, hk2, e2⟩ := h2 i him
    have hk2i : i ≤ k2 := by
      refine Nat.not_lt.1 fun c => ?_
      have h3 := (ih k2 c hk2).2
      have h4 := hs k2 i c him
      omega
    refine ⟨him, ?_⟩
    have h5 : s i ≤ s k := by
      by_cases c : i = k
      · rw [c]; exact Nat.le_refl _
      · exact Nat.le_of_lt (hs i k (by omega) hk)
    have h6 : l i ≤ l k2 := by
      by_cases c : i = k2
      · rw [c]; exact Nat.le_refl _
      · exact Nat.le_of_lt (hl i k2 (by omega) hk2)
    omega
/-- Two reduced lists of one span are the same. -/
theorem IsRed.unique {p : Int} (hp : 2 ≤ p) {n m c : Nat} {a b : List (List Int)} (ha : IsRed p n c a) (hb : IsRed p m c b) (h : SpEq p c a b) : a = b := by
  have la : ∀ i, i < n → ∃ k, k < m ∧ lead0 (a.getD i []) = lead0 (b.getD k []) := fun i hi =>
    hb.lead hp ((h _).1 (Sp.row (ha.mat.row hi) (getD_mem' (by rw [ha.mat.1]; exact hi) _))) (ha.lt i hi)
  have lb : ∀ i, i < m → ∃ k, k < n ∧ lead0 (b.getD i []) = lead0 (a.getD k []) := fun i hi =>
    ha.lead hp ((h _).2 (Sp.row (hb.mat.row hi) (getD_mem' (by rw [hb.mat.1]; exact hi) _))) (hb.lt i hi)
  have e1 := rise_unique ha.rise hb.rise la lb
  have e2 := rise_unique hb.rise ha.rise lb la
  have hnm : n = m := by
    have h3 : n ≤ m := Nat.not_lt.1 fun c => by have := (e1 m c).1; omega
    have h4 : m ≤ n := Nat.not_lt.1 fun c => by have := (e2 n c).1; omega
    omega
  subst hnm
  refine ha.mat.ext hb.mat fun r hr j hj => ?_
  have hs := (h _).1 (Sp.row (ha.mat.row hr) (getD_mem' (l := a) (by rw [ha.mat.1]; exact hr) []))
  rw [hb.coords hp hs j hj, dsum_congr (g := fun i => if r = i then 1 else 0) (fun i hi => by
    show (a.getD r []).getD (lead0 (b.getD i [])) 0 = _
    rw [← (e1 i hi).2]
    exact ha.unit i hi r hr), dsum_unit, if_pos hr]
  exact Int.emod_eq_of_lt (hb.mat.el hr hj).1 (hb.mat.el hr hj).2
/-- Rows of one span have one reduced list. -/
theorem rref_eq {p : Int} (hf : fld p = true) {n m c : Nat} {a b : List (List Int)} (ha : Mat p n c a) (hb : Mat p m c b) (h : SpEq p c a b) : rref p a c = rref p b c :=
  (rref_red hf ha).unique (fld_bd hf).1 (rref_red hf hb) (((rref_sp hf ha).trans h).trans (rref_sp hf hb).symm)
end Go.Proofs.Ytdcgoeapgboclaa

/-! Null spaces: the vectors whose product with each row is 0; their reduced list. Plain mathematics. -/
namespace Go.Proofs.Ytdcgoeapgboclaa

/-- The product of two vectors, of their first c elements. -/
def dot (a b : List Int) : Nat → Int
  | 0 => 0
  | j + 1 => dot a b j + a.getD j 0 * b.getD j 0
theorem dot_zero (b : List Int) (c n : Nat) : dot (List.replicate n 0) b c = 0 := by
  induction c with
  | zero => rfl
  | succ c ih => unfold dot; rw [ih, repl_getD]; simp
theorem dot_axpy {p : Int} {u r v : List Int} {k : Int} : ∀ {c : Nat}, c ≤ u.length → dot (axpy p u k r) v c % p = (dot u v c + k * dot r v c) % p
  | 0, _ => by simp [dot]
  | c + 1, h => by
    have ih := dot_axpy (p := p) (u := u) (r := r) (v := v) (k := k) (c := c) (by omega)
    simp only [dot]
    rw [axpy_get (by omega), ← add_mod_l, ih, add_mod_l, mod_mul_add]
    congr 1
    grind
theorem dot_comm (a b : List Int) : ∀ c, dot a b c = dot b a c
  | 0 => rfl
  | c + 1 => by
    unfold dot
    rw [dot_comm a b c, Int.mul_comm]
/-- The vectors whose product with each row is 0. -/
def Null (p : Int) (c : Nat) (rows : List (List Int)) (v : List Int) : Prop := Vec p c v ∧ ∀ r, r ∈ rows → dot r v c % p = 0
theorem null_sp {p : Int} (hp : 2 ≤ p) {c : Nat} {rows : List (List Int)} {v r : List Int} (h : Null p c rows v) (hr : Sp p c rows r) : dot r v c % p = 0 := by
  induction hr with
  | zero => rw [dot_zero]; simp
  | @add u s k hu hs ih =>
    rw [dot_axpy (by rw [(hu.vec hp).1]; exact Nat.le_refl _), Int.add_emod, ih, Int.mul_emod, h.2 _ hs]
    simp
theorem null_of_sp {p : Int} (hp : 2 ≤ p) {c : Nat} {a b : List (List Int)} (h : ∀ r, r ∈ b → Sp p c a r) {v : List Int} (hv : Null p c a v) : Null p c b v := ⟨hv.1, fun r hr => null_sp hp hv (h r hr)⟩
theorem null_eq {p : Int} (hp : 2 ≤ p) {n m c : Nat} {a b : List (List Int)} (ha : Mat p n c a) (hb : Mat p m c b) (h : SpEq p c a b) (v : List Int) : Null p c a v ↔ Null p c b v :=
  ⟨null_of_sp hp fun r hr => (h r).2 (Sp.row (hb.vec hr) hr), null_of_sp hp fun r hr => (h r).1 (Sp.row (ha.vec hr) hr)⟩
theorem Null.comb {p : Int} (hp : 2 ≤ p) {c : Nat} {rows : List (List Int)} {u v : List Int} (hu : Null p c rows u) (k : Int) (hv : Null p c rows v) : Null p c rows (axpy p u k v) := by
  refine ⟨Vec.axpy hp hu.1.1 k v, fun r hr => ?_⟩
  rw [dot_comm, dot_axpy (by rw [hu.1.1]; exact Nat.le_refl _), dot_comm u, dot_comm v, Int.add_emod, hu.2 _ hr, Int.mul_emod, hv.2 _ hr]
  simp
theorem Null.zero {p : Int} (hp : 2 ≤ p) (c : Nat) (rows : List (List Int)) : Null p c rows (List.replicate c 0) := ⟨Vec.zero hp c, fun r _ => by rw [dot_comm, dot_zero]; simp⟩
theorem Null.sub {p : Int} (hp : 2 ≤ p) {c : Nat} {rows b : List (List Int)} (h : ∀ r, r ∈ b → Null p c rows r) {v : List Int} (hv : Sp p c b v) : Null p c rows v := by
  induction hv with
  | zero => exact Null.zero hp c rows
  | add k _ hr ih => exact Null.comb hp ih k (h _ hr)
/-! ### The vector of a free index -/
/-- The free index j: 1 there, and at the first k rows' leading indices what makes the products 0. -/
def nullK (p : Int) (c : Nat) (rows : List (List Int)) (j : Nat) : Nat → List Int
  | 0 => unitRow c j
  | k + 1 => (nullK p c rows j k).set (lead0 (rows.getD k [])) ((p - at2 rows k j) % p)
theorem nullK_len (p : Int) (c : Nat) (rows : List (List Int)) (j : Nat) : ∀ k, (nullK p c rows j k).length = c
  | 0 => unitRow_len _ _
  | k + 1 => by unfold nullK; rw [List.length_set, nullK_len p c rows j k]
def isLead (rows : List (List Int)) (j : Nat) : Nat → Bool
  | 0 => false
  | k + 1 => isLead rows j k || decide (lead0 (rows.getD k []) = j)
theorem isLead_iff {rows : List (List Int)} {j : Nat} : ∀ {k : Nat}, isLead rows j k = true ↔ ∃ i, i < k ∧ lead0 (rows.getD i []) = j
  | 0 => by simp [isLead]
  | k + 1 => by
    simp only [isLead, Bool.or_eq_true, decide_eq_true_eq, isLead_iff (k := k)]
    constructor
    · rintro (⟨i, hi, h⟩ | h)
      · exact ⟨i, by omega, h⟩
      · exact ⟨k, by omega, h⟩
    · rintro ⟨i, hi, h⟩
      by_cases c : i = k
      · exact Or.inr (by rw [← c]; exact h)
      · exact Or.inl ⟨i, by omega, h⟩
theorem isLead_no {rows : List (List Int)} {j k : Nat} (h : isLead rows j k = false) : ∀ i, i < k → lead0 (rows.getD i []) ≠ j := fun i hi e => by
  have := isLead_iff.2 ⟨i, hi, e⟩
  rw [h] at this
  cases this
/-- The vectors of the free indices below J. -/
def nullRows (p : Int) (c : Nat) (rows : List (List Int)) : Nat → List (List Int)
  | 0 => []
  | j + 1 => nullRows p c rows j ++ if isLead rows j rows.length then [] else [nullK p c rows j rows.length]
theorem nullRows_len (p : Int) (c : Nat) (rows : List (List Int)) : ∀ J, (nullRows p c rows J).length ≤ J
  | 0 => Nat.le_refl _
  | J + 1 => by
    have := nullRows_len p c rows J
    unfold nullRows
    rw [List.length_append]
    split <;> simp <;> omega
theorem nullRows_mem {p : Int} {c : Nat} {rows : List (List Int)} {v : List Int} : ∀ {J : Nat}, v ∈ nullRows p c rows J ↔ ∃ j, j < J ∧ isLead rows j rows.length = false ∧ v = nullK p c rows j rows.length
  | 0 => by simp [nullRows]
  | J + 1 => by
    unfold nullRows
    rw [List.mem_append, nullRows_mem (J := J)]
    constructor
    · rintro (⟨j, hj, h⟩ | h)
      · exact ⟨j, by omega, h⟩
      · split at h
        · cases h
        · rename_i hl
          exact ⟨J, by omega, by simpa using hl, by simpa using h⟩
    · rintro ⟨j, hj, hl, h⟩
      by_cases e : j = J
      · subst e
        right
        rw [if_neg (by rw [hl]; decide), h]
        exact List.mem_singleton.2 rfl
      · exact Or.inl ⟨j, by omega, hl, h⟩
section
variable {p : Int} {n c : Nat} {R : List (List Int)}
theorem nullK_vec (hp : 2 ≤ p) (j : Nat) (hj : j < c) : ∀ k, Vec p c (nullK p c R j k)
  | 0 => ⟨unitRow_len _ _, fun x hx => by
      obtain ⟨i, hi, rfl⟩ := mem_getD 0 hx
      show 0 ≤ (unitRow c j).getD i 0 ∧ (unitRow c j).getD i 0 < p
      rw [unitRow_get hj]
      split <;> omega⟩
  | k + 1 => by
    have ih := nullK_vec hp j hj k
    refine ⟨nullK_len _ _ _ _ _, fun x hx => ?_⟩
    unfold nullK at hx
    rcases List.mem_or_eq_of_mem_set hx with h | h
    · exact ih.2 x h
    · rw [h]
      exact emod_bd hp _
theorem nullRows_mat (hp : 2 ≤ p) (J : Nat) (hJ : J ≤ c) : Mat p (nullRows p c R J).length c (nullRows p c R J) := by
  refine ⟨rfl, fun r hr => ?_⟩
  obtain ⟨j, hj, _, rfl⟩ := nullRows_mem.1 hr
  exact nullK_vec hp j (by omega) _
theorem IsRed.inj (h : IsRed p n c R) {i k : Nat} (hi : i < n) (hk : k < n) (e : lead0 (R.getD i []) = lead0 (R.getD k [])) : i = k := by
  rcases Nat.lt_trichotomy i k with h1 | h1 | h1
  · have := h.rise i k h1 hk; omega
  · exact h1
  · have := h.rise k i h1 hi; omega
theorem nullK_lead (h : IsRed p n c R) (j : Nat) {i : Nat} (hi : i < n) : ∀ k, i < k → k ≤ n → (nullK p c R j k).getD (lead0 (R.getD i [])) 0 = (p - at2 R i j) % p
  | 0, h0, _ => absurd h0 (Nat.not_lt_zero _)
  | k + 1, h1, h2 => by
    unfold nullK
    rw [set_getD _ _ _ _ _ (by rw [nullK_len]; exact h.lt k (by omega))]
    by_cases e : i = k
    · subst e
      rw [if_pos rfl]
    · rw [if_neg (fun e2 => e (h.inj hi (by omega) e2.symm))]
      exact nullK_lead h j hi k (by omega) (by omega)
theorem nullK_free (h : IsRed p n c R) {j : Nat} (hj : j < c) {x : Nat} : ∀ k, k ≤ n → (∀ i, i < k → lead0 (R.getD i []) ≠ x) → (nullK p c R j k).getD x 0 = if j = x then 1 else 0
  | 0, _, _ => unitRow_get hj
  | k + 1, h1, h2 => by
    unfold nullK
    rw [set_getD _ _ _ _ _ (by rw [nullK_len]; exact h.lt k (by omega)), if_neg (h2 k (by omega))]
    exact nullK_free h hj k (by omega) fun i hi => h2 i (by omega)
/-- A free index's vector has the product 0 with each row. -/
theorem nullK_dot (h : IsRed p n c R) {j m : Nat} (hj : j < c) (hm : m < n) (hl : isLead R j n = false) : ∀ X, X ≤ c → dot (R.getD m []) (nullK p c R j n) X = (if j < X then at2 R m j else 0) + (if lead0 (R.getD m []) < X then (p - at2 R m j) % p else 0)
  | 0, _ => rfl
  | X + 1, hX => by
    have ih := nullK_dot h hj hm hl X (by omega)
    unfold dot
    rw [ih]
    have hjl := isLead_no hl
    cases hx : isLead R X n with
    | true =>
      obtain ⟨i, hi, e⟩ := isLead_iff.1 hx
      have hjX : j ≠ X := fun e2 => hjl i hi (by rw [e, e2])
      have hu := h.unit i hi m hm
      rw [e] at hu
      unfold at2 at hu
      have hN := nullK_lead (p := p) (c := c) h j hi n hi (Nat.le_refl _)
      rw [e] at hN
      rw [hu, hN]
      by_cases e2 : m = i
      · subst e2
        rw [if_pos rfl, e, if_neg (Nat.lt_irrefl X), if_pos (Nat.lt_succ_self X)]
        by_cases c1 : j < X
        · rw [if_pos c1, if_pos (by omega)]; omega
        · rw [if_neg c1, if_neg (by omega)]; omega
      · have hne : lead0 (R.getD m []) ≠ X := fun e3 => e2 (h.inj hm hi (by rw [e3, e]))
        rw [if_neg e2, Int.zero_mul, Int.add_zero]
        by_cases c1 : j < X
        · rw [if_pos c1, if_pos (show j < X + 1 by omega)]
          by_cases c2 : lead0 (R.getD m []) < X
          · rw [if_pos c2, if_pos (by omega)]
          · rw [if_neg c2, if_neg (by omega)]
        · rw [if_neg c1, if_neg (show ¬ j < X + 1 by omega)]
          by_cases c2 : lead0 (R.getD m []) < X
          · rw [if_pos c2, if_pos (by omega)]
          · rw [if_neg c2, if_neg (by omega)]
    | false =>
      have hxl := isLead_no hx
      rw [nullK_free h hj n (Nat.le_refl _) hxl]
      have hne := hxl m hm
      have e2 : (if lead0 (R.getD m []) < X + 1 then (p - at2 R m j) % p else 0) = if lead0 (R.getD m []) < X then (p - at2 R m j) % p else 0 := by
        by_cases c2 : lead0 (R.getD m []) < X
        · rw [if_pos c2, if_pos (by omega)]
        · rw [if_neg c2, if_neg (by omega)]
      rw [e2]
      by_cases c1 : j = X
      · subst c1
        rw [if_pos rfl, if_neg (Nat.lt_irrefl j), if_pos (Nat.lt_succ_self j)]
        unfold at2
        omega
      · rw [if_neg c1, Int.mul_zero, Int.add_zero]
        by_cases c3 : j < X
        · rw [if_pos c3, if_pos (show j < X + 1 by omega)]
        · rw [if_neg c3, if_neg (show ¬ j < X + 1 by omega)]
theorem nullK_null (hp : 2 ≤ p) (h : IsRed p n c R) {j : Nat} (hj : j < c) (hl : isLead R j n = false) : Null p c R (nullK p c R j n) := by
  refine ⟨nullK_vec hp j hj n, fun r hr => ?_⟩
  obtain ⟨m, hm, rfl⟩ := mem_getD [] hr
  have hm' : m < n := by rw [← h.mat.1]; exact hm
  rw [nullK_dot h hj hm' hl c (Nat.le_refl _), if_pos hj, if_pos (h.lt m hm')]
  have := neg_self_mod (h.mat.el hm' hj)
  rw [Int.mul_one] at this
  exact this
/-- The first J free indices' part of a vector. -/
def nullAcc (p : Int) (c : Nat) (R : List (List Int)) (x : List Int) : Nat → List Int
  | 0 => List.replicate c 0
  | J + 1 => if isLead R J R.length then nullAcc p c R x J else axpy p (nullAcc p c R x J) (x.getD J 0) (nullK p c R J R.length)
theorem nullAcc_len (x : List Int) : ∀ J, (nullAcc p c R x J).length = c
  | 0 => by simp [nullAcc]
  | J + 1 => by
    unfold nullAcc
    split
    · exact nullAcc_len x J
    · rw [axpy_len]; exact nullAcc_len x J
theorem nullAcc_sp (x : List Int) : ∀ J, J ≤ c → Sp p c (nullRows p c R c) (nullAcc p c R x J)
  | 0, _ => Sp.zero
  | J + 1, h => by
    unfold nullAcc
    split
    · exact nullAcc_sp x J (by omega)
    · rename_i hl
      exact Sp.add _ (nullAcc_sp x J (by omega)) (nullRows_mem.2 ⟨J, by omega, by simpa using hl, rfl⟩)
theorem nullAcc_free (h : IsRed p n c R) {x : List Int} (hx : Vec p c x) {y : Nat} (hy : y < c) (hl : isLead R y n = false) : ∀ J, J ≤ c → (nullAcc p c R x J).getD y 0 = if y < J then x.getD y 0 else 0
  | 0, _ => by unfold nullAcc; rw [repl_getD]; rfl
  | J + 1, hJ => by
    have ih := nullAcc_free h hx hy hl J (by omega)
    have hn := h.mat.1
    unfold nullAcc
    split
    · rename_i hl2
      rw [ih]
      have hne : y ≠ J := fun e => by rw [← e, hn, hl] at hl2; cases hl2
      by_cases c1 : y < J
      · rw [if_pos c1, if_pos (by omega)]
      · rw [if_neg c1, if_neg (by omega)]
    · rw [axpy_get (by rw [nullAcc_len]; exact hy), ih, hn, nullK_free h (show J < c by omega) n (Nat.le_refl _) (isLead_no hl)]
      by_cases c1 : y = J
      · subst c1
        rw [if_neg (Nat.lt_irrefl y), if_pos rfl, if_pos (Nat.lt_succ_self y), Int.zero_add, Int.mul_one]
        exact hx.mod hy
      · have c1' : ¬ J = y := fun e => c1 e.symm
        rw [if_neg c1', Int.mul_zero, Int.add_zero]
        by_cases c2 : y < J
        · rw [if_pos c2, if_pos (by omega)]
          exact hx.mod hy
        · rw [if_neg c2, if_neg (by omega)]
          simp
theorem nullAcc_lead (h : IsRed p n c R) {x : List Int} {i : Nat} (hi : i < n) : ∀ J, J ≤ c → ((nullAcc p c R x J).getD (lead0 (R.getD i [])) 0 + dot (R.getD i []) x J) % p = (if lead0 (R.getD i []) < J then x.getD (lead0 (R.getD i [])) 0 else 0) % p
  | 0, _ => by unfold nullAcc dot; rw [repl_getD]; simp
  | J + 1, hJ => by
    have ih := nullAcc_lead h (x := x) hi J (by omega)
    have hn := h.mat.1
    have hli := h.lt i hi
    unfold nullAcc dot
    cases hl : isLead R J R.length with
    | true =>
      rw [if_pos rfl]
      obtain ⟨k, hk, e⟩ := isLead_iff.1 hl
      rw [hn] at hk
      have hu := h.unit k hk i hi
      rw [e] at hu
      unfold at2 at hu
      rw [hu]
      by_cases c1 : i = k
      · subst c1
        rw [if_pos rfl, e, if_pos (Nat.lt_succ_self J), Int.one_mul]
        rw [e, if_neg (Nat.lt_irrefl J)] at ih
        rw [← Int.add_assoc, ← add_mod_l, ih]
        simp
      · have hne : lead0 (R.getD i []) ≠ J := fun e2 => c1 (h.inj hi hk (by rw [e2, e]))
        rw [if_neg c1, Int.zero_mul, Int.add_zero, ih]
        by_cases c2 : lead0 (R.getD i []) < J
        · rw [if_pos c2, if_pos (by omega)]
        · rw [if_neg c2, if_neg (by omega)]
    | false =>
      rw [if_neg (by decide)]
      have hne : lead0 (R.getD i []) ≠ J := isLead_no hl i (by rw [hn]; exact hi)
      rw [axpy_get (by rw [nullAcc_len]; exact hli), hn, nullK_lead h J hi n hi (Nat.le_refl _), add_mod_l]
      have e1 : ((nullAcc p c R x J).getD (lead0 (R.getD i [])) 0 + x.getD J 0 * ((p - at2 R i J) % p) + (dot (R.getD i []) x J + (R.getD i []).getD J 0 * x.getD J 0)) % p = ((nullAcc p c R x J).getD (lead0 (R.getD i [])) 0 + dot (R.getD i []) x J) % p := by
        rw [show (nullAcc p c R x J).getD (lead0 (R.getD i [])) 0 + x.getD J 0 * ((p - at2 R i J) % p) + (dot (R.getD i []) x J + (R.getD i []).getD J 0 * x.getD J 0) = ((nullAcc p c R x J).getD (lead0 (R.getD i [])) 0 + dot (R.getD i []) x J + at2 R i J * x.getD J 0) + x.getD J 0 * ((p - at2 R i J) % p) by unfold at2; omega, add_mul_mod]
        rw [show (nullAcc p c R x J).getD (lead0 (R.getD i [])) 0 + dot (R.getD i []) x J + at2 R i J * x.getD J 0 + x.getD J 0 * (p - at2 R i J) = ((nullAcc p c R x J).getD (lead0 (R.getD i [])) 0 + dot (R.getD i []) x J) + p * x.getD J 0 by grind, Int.add_mul_emod_self_left]
      rw [e1, ih]
      by_cases c2 : lead0 (R.getD i []) < J
      · rw [if_pos c2, if_pos (by omega)]
      · rw [if_neg c2, if_neg (by omega)]
/-- The free indices' vectors span the null space of a reduced list. -/
theorem null_rows (hp : 2 ≤ p) (h : IsRed p n c R) (v : List Int) : Sp p c (nullRows p c R c) v ↔ Null p c R v := by
  have hn := h.mat.1
  constructor
  · refine Null.sub hp fun r hr => ?_
    obtain ⟨j, hj, hl, rfl⟩ := nullRows_mem.1 hr
    rw [hn] at hl ⊢
    exact nullK_null hp h hj hl
  · intro hv
    have : v = nullAcc p c R v c := by
      refine Vec.ext hv.1 ((nullAcc_sp v c (Nat.le_refl _)).vec hp) fun y hy => ?_
      cases hl : isLead R y n with
      | false => rw [nullAcc_free h hv.1 hy hl c (Nat.le_refl _), if_pos hy]
      | true =>
        obtain ⟨i, hi, e⟩ := isLead_iff.1 hl
        have h1 := nullAcc_lead h (x := v) hi c (Nat.le_refl _)
        have hmem : R.getD i [] ∈ R := getD_mem' (by rw [hn]; exact hi) _
        rw [e, if_pos hy, ← add_mod_r, hv.2 _ hmem, Int.add_zero, hv.1.mod hy, ((nullAcc_sp v c (Nat.le_refl _)).vec hp).mod hy] at h1
        exact h1.symm
    rw [this]
    exact nullAcc_sp v c (Nat.le_refl _)
end
/-- The reduced list of the null space of the rows. -/
def nullB (p : Int) (rows : List (List Int)) (c : Nat) : List (List Int) := rref p (nullRows p c (rref p rows c) c) c
theorem null_mid_mat {p : Int} (hf : fld p = true) {c : Nat} (rows : List (List Int)) : Mat p (nullRows p c (rref p rows c) c).length c (nullRows p c (rref p rows c) c) := nullRows_mat (fld_bd hf).1 c (Nat.le_refl c)
theorem nullB_sp {p : Int} (hf : fld p = true) {n c : Nat} {rows : List (List Int)} (h : Mat p n c rows) (v : List Int) : Sp p c (nullB p rows c) v ↔ Null p c rows v := by
  have hp := (fld_bd hf).1
  have h1 := rref_sp hf (null_mid_mat hf (c := c) rows) v
  have h2 := null_rows hp (rref_red hf h) v
  have h3 := null_eq hp (rref_mat hf h) h (rref_sp hf h) v
  exact h1.trans (h2.trans h3)
/-- Rows that span the null space have its reduced list. -/
theorem nullB_eq {p : Int} (hf : fld p = true) {n m c : Nat} {rows b : List (List Int)} (h : Mat p n c rows) (hb : Mat p m c b) (hs : ∀ v, Sp p c b v ↔ Null p c rows v) : rref p b c = nullB p rows c := by
  refine rref_eq hf hb (null_mid_mat hf (c := c) rows) fun v => ?_
  have hp := (fld_bd hf).1
  exact (hs v).trans (((null_rows hp (rref_red hf h) v).trans (null_eq hp (rref_mat hf h) h (rref_sp hf h) v)).symm)
end Go.Proofs.Ytdcgoeapgboclaa

/-! Coordinates over a reduced list, and what is left of a vector without them. Plain mathematics. -/
namespace Go.Proofs.Ytdcgoeapgboclaa

/-- The elements at the leading indices. -/
def coords (R : List (List Int)) (v : List Int) : List Int := R.map fun b => v.getD (lead0 b) 0
theorem coords_len (R : List (List Int)) (v : List Int) : (coords R v).length = R.length := by simp [coords]
theorem coords_get {R : List (List Int)} {v : List Int} {i : Nat} (h : i < R.length) : (coords R v).getD i 0 = v.getD (lead0 (R.getD i [])) 0 := by unfold coords; rw [map_getD _ _ _ h []]
theorem coords_el {p : Int} {n c : Nat} {R : List (List Int)} (h : IsRed p n c R) {v : List Int} (hv : Vec p c v) : ∀ x, x ∈ coords R v → 0 ≤ x ∧ x < p := by
  intro x hx
  obtain ⟨i, hi, rfl⟩ := mem_getD 0 hx
  rw [coords_len] at hi
  rw [coords_get hi]
  exact hv.el (h.lt i (by rw [← h.mat.1]; exact hi))
/-- Whether a reduced list spans a vector. -/
def hasV (p : Int) (c : Nat) (R : List (List Int)) (v : List Int) : Bool := decide (vmul p c (coords R v) R = v)
/-- The vector without the first k rows' parts, and these parts. -/
def restV (p : Int) (R : List (List Int)) (v : List Int) : Nat → List Int
  | 0 => v
  | k + 1 => axpy p (restV p R v k) (p - (restV p R v k).getD (lead0 (R.getD k [])) 0) (R.getD k [])
def accV (p : Int) (c : Nat) (R : List (List Int)) (v : List Int) : Nat → List Int
  | 0 => List.replicate c 0
  | k + 1 => axpy p (accV p c R v k) (v.getD (lead0 (R.getD k [])) 0) (R.getD k [])
section
variable {p : Int} {n c : Nat} {R : List (List Int)} {v : List Int}
theorem restV_vec (hp : 2 ≤ p) (hv : Vec p c v) : ∀ k, Vec p c (restV p R v k)
  | 0 => hv
  | k + 1 => Vec.axpy hp (restV_vec hp hv k).1 _ _
theorem accV_vec (hp : 2 ≤ p) : ∀ k, Vec p c (accV p c R v k)
  | 0 => Vec.zero hp c
  | k + 1 => Vec.axpy hp (accV_vec hp k).1 _ _
theorem restV_lead (hp : 2 ≤ p) (h : IsRed p n c R) (hv : Vec p c v) : ∀ k, k ≤ n → ∀ i, k ≤ i → i < n → (restV p R v k).getD (lead0 (R.getD i [])) 0 = v.getD (lead0 (R.getD i [])) 0
  | 0, _, _, _, _ => rfl
  | k + 1, hk, i, hi, hin => by
    have hl := h.lt i hin
    have hu := h.unit i hin k (by omega)
    rw [if_neg (by omega)] at hu
    unfold at2 at hu
    have hvk := restV_vec (R := R) hp hv k
    unfold restV
    rw [axpy_get (by rw [hvk.1]; exact hl), hu, Int.mul_zero, Int.add_zero, hvk.mod hl]
    exact restV_lead hp h hv k (by omega) i (by omega) hin
theorem rest_acc (hp : 2 ≤ p) (h : IsRed p n c R) (hv : Vec p c v) : ∀ k, k ≤ n → ∀ j, j < c → ((restV p R v k).getD j 0 + (accV p c R v k).getD j 0) % p = v.getD j 0
  | 0, _, j, hj => by
    unfold restV accV
    rw [repl_getD, Int.add_zero]
    exact hv.mod hj
  | k + 1, hk, j, hj => by
    have ih := rest_acc hp h hv k (by omega) j hj
    have hr := restV_lead hp h hv k (by omega) k (Nat.le_refl k) (by omega)
    unfold restV accV
    rw [axpy_get (by rw [(restV_vec hp hv k).1]; exact hj), axpy_get (by rw [(accV_vec hp k).1]; exact hj), add_mod_l, add_mod_r, hr]
    rw [show (restV p R v k).getD j 0 + (p - v.getD (lead0 (R.getD k [])) 0) * (R.getD k []).getD j 0 + ((accV p c R v k).getD j 0 + v.getD (lead0 (R.getD k [])) 0 * (R.getD k []).getD j 0) = ((restV p R v k).getD j 0 + (accV p c R v k).getD j 0) + p * (R.getD k []).getD j 0 by grind, Int.add_mul_emod_self_left]
    exact ih
theorem accV_comb (h : R.length = n) : ∀ k, k ≤ n → comb p (accV p c R v k) ((coords R v).drop k) (R.drop k) = vmul p c (coords R v) R
  | 0, _ => by rw [List.drop_zero, List.drop_zero]; rfl
  | k + 1, hk => by
    have ih := accV_comb h k (by omega)
    rw [comb_step (i := k) (by rw [coords_len]; omega) (by omega), coords_get (by omega)] at ih
    exact ih
theorem accV_end (h : R.length = n) : accV p c R v n = vmul p c (coords R v) R := by rw [← accV_comb h n (Nat.le_refl n), comb_end (by rw [coords_len]; omega)]
/-- Nothing is left exactly of what is spanned. -/
theorem hasV_rest (hp : 2 ≤ p) (h : IsRed p n c R) (hv : Vec p c v) : hasV p c R v = decide (restV p R v n = List.replicate c 0) := by
  unfold hasV
  rw [Bool.eq_iff_iff, decide_eq_true_eq, decide_eq_true_eq, ← accV_end h.mat.1]
  have hk := rest_acc hp h hv n (Nat.le_refl n)
  constructor
  · intro e
    refine Vec.ext (restV_vec hp hv n) (Vec.zero hp c) fun j hj => ?_
    have h1 := hk j hj
    rw [e] at h1
    have h2 := (restV_vec (R := R) hp hv n).el hj
    have h3 := hv.el hj
    rw [repl_getD]
    by_cases c1 : (restV p R v n).getD j 0 + v.getD j 0 < p
    · rw [Int.emod_eq_of_lt (by omega) c1] at h1
      omega
    · rw [show (restV p R v n).getD j 0 + v.getD j 0 = ((restV p R v n).getD j 0 + v.getD j 0 - p) + p * 1 by omega, Int.add_mul_emod_self_left, Int.emod_eq_of_lt (by omega) (by omega)] at h1
      omega
  · intro e
    refine Vec.ext (accV_vec hp n) hv fun j hj => ?_
    have h1 := hk j hj
    rw [e, repl_getD, Int.zero_add, (accV_vec (R := R) hp n).mod hj] at h1
    exact h1
end
end Go.Proofs.Ytdcgoeapgboclaa

/-! The pairs of a relation as rows: their first and their second parts. Plain mathematics. -/
namespace Go.Proofs.Ytdcgoeapgboclaa

def firsts (l : Nat) (R : List (List Int)) : List (List Int) := R.map (List.take l)
def seconds (l : Nat) (R : List (List Int)) : List (List Int) := R.map (List.drop l)
theorem firsts_len (l : Nat) (R : List (List Int)) : (firsts l R).length = R.length := by simp [firsts]
theorem seconds_len (l : Nat) (R : List (List Int)) : (seconds l R).length = R.length := by simp [seconds]
theorem firsts_mat {p : Int} {n l r : Nat} {R : List (List Int)} (h : Mat p n (l + r) R) : Mat p n l (firsts l R) := by
  refine ⟨by rw [firsts_len, h.1], fun x hx => ?_⟩
  obtain ⟨y, hy, rfl⟩ := List.mem_map.1 hx
  exact ⟨by rw [List.length_take, (h.2 y hy).1]; omega, fun z hz => (h.2 y hy).2 z (List.mem_of_mem_take hz)⟩
theorem seconds_mat {p : Int} {n l r : Nat} {R : List (List Int)} (h : Mat p n (l + r) R) : Mat p n r (seconds l R) := by
  refine ⟨by rw [seconds_len, h.1], fun x hx => ?_⟩
  obtain ⟨y, hy, rfl⟩ := List.mem_map.1 hx
  exact ⟨by rw [List.length_drop, (h.2 y hy).1]; omega, fun z hz => (h.2 y hy).2 z (List.mem_of_mem_drop hz)⟩
theorem firsts_row {l : Nat} {R : List (List Int)} {i : Nat} (h : i < R.length) : (firsts l R).getD i [] = (R.getD i []).take l := map_getD _ _ _ h [] []
theorem seconds_row {l : Nat} {R : List (List Int)} {i : Nat} (h : i < R.length) : (seconds l R).getD i [] = (R.getD i []).drop l := map_getD _ _ _ h [] []
theorem firsts_at {l : Nat} {R : List (List Int)} {i j : Nat} (h : i < R.length) (hj : j < l) : at2 (firsts l R) i j = at2 R i j := by
  unfold at2
  rw [firsts_row h, take_getD _ hj]
/-- Of a reduced list the rows that lead in the first l columns are the first k. -/
theorem IsRed.split {p : Int} {n c : Nat} {R : List (List Int)} (h : IsRed p n c R) (l : Nat) : ∀ m, m ≤ n → ∃ k, k ≤ m ∧ (∀ i, i < k → lead0 (R.getD i []) < l) ∧ ∀ i, k ≤ i → i < m → l ≤ lead0 (R.getD i [])
  | 0, _ => ⟨0, Nat.le_refl 0, fun i hi => absurd hi (Nat.not_lt_zero i), fun i _ hi => absurd hi (Nat.not_lt_zero i)⟩
  | m + 1, hm => by
    by_cases c1 : lead0 (R.getD m []) < l
    · refine ⟨m + 1, Nat.le_refl _, fun i hi => ?_, fun i h1 h2 => by omega⟩
      by_cases c2 : i = m
      · rw [c2]; exact c1
      · exact Nat.lt_trans (h.rise i m (by omega) (by omega)) c1
    · obtain ⟨k, hk, h1, h2⟩ := h.split l m (by omega)
      refine ⟨k, by omega, h1, fun i h3 h4 => ?_⟩
      by_cases c2 : i = m
      · rw [c2]; omega
      · exact h2 i h3 (by omega)
theorem firsts_rref {p : Int} (hf : fld p = true) {n l r : Nat} {R : List (List Int)} (h : IsRed p n (l + r) R) :
    ∃ k, k ≤ n ∧ (∀ i, i < k → lead0 (R.getD i []) < l) ∧ (∀ i, k ≤ i → i < n → l ≤ lead0 (R.getD i [])) ∧ rref p (firsts l R) l = (firsts l R).take k := by
  obtain ⟨k, hk, h1, h2⟩ := h.split l n (Nat.le_refl n)
  refine ⟨k, hk, h1, h2, ?_⟩
  have hp := (fld_bd hf).1
  have hA := firsts_mat h.mat
  have hn : R.length = n := h.mat.1
  have hrow : ∀ i, i < k → ((firsts l R).take k).getD i [] = (R.getD i []).take l := fun i hi => by rw [take_getD _ hi, firsts_row (by omega)]
  have hlead : ∀ i, i < k → lead0 (((firsts l R).take k).getD i []) = lead0 (R.getD i []) := fun i hi => by
    have hl := h1 i hi
    have hlen : (R.getD i []).length = l + r := (h.mat.row (by omega)).1
    rw [hrow i hi]
    refine lead0_eq (by rw [List.length_take, hlen]; omega) (fun j hj => ?_) (fun _ => ?_)
    · rw [take_getD _ (by omega)]
      exact lead0_zero hj
    · rw [take_getD _ hl]
      exact lead0_ne (by omega)
  have hred : IsRed p k l ((firsts l R).take k) := by
    refine ⟨hA.take hk, fun i hi => by rw [hlead i hi]; exact h1 i hi, fun i j hij hj => by rw [hlead i (by omega), hlead j hj]; exact h.rise i j hij (by omega), fun i hi m hm => ?_⟩
    rw [hlead i hi]
    unfold at2
    rw [take_getD _ hm]
    show at2 (firsts l R) m _ = _
    rw [firsts_at (by omega) (h1 i hi)]
    exact h.unit i (by omega) m (by omega)
  have hsp : SpEq p l ((firsts l R).take k) (firsts l R) := sp_drop_zero hp hA (fun m hm1 hm2 j hj => by
    rw [firsts_at (by omega) hj]
    exact lead0_zero (Nat.lt_of_lt_of_le hj (h2 m hm1 hm2)))
  rw [rref_eq hf hA (hA.take hk) hsp.symm, rref_of_red hf hred]
/-- No pair has a zero list before another one. -/
def singB (l : Nat) (R : List (List Int)) : Bool := R.all fun x => decide (lead0 x < l)
theorem single_eq {p : Int} (hf : fld p = true) {n l r : Nat} {R : List (List Int)} (h : IsRed p n (l + r) R) : decide ((rref p (firsts l R) l).length = R.length) = singB l R := by
  obtain ⟨k, hk, h1, h2, h3⟩ := firsts_rref hf h
  have hn : R.length = n := h.mat.1
  rw [h3, List.length_take, firsts_len]
  by_cases c : k = n
  · rw [decide_eq_true (by omega), singB, eq_comm, List.all_eq_true]
    intro x hx
    obtain ⟨i, hi, rfl⟩ := mem_getD [] hx
    exact decide_eq_true (h1 i (by omega))
  · rw [decide_eq_false (by omega), singB, eq_comm, List.all_eq_false]
    exact ⟨R.getD k [], getD_mem' (by omega) _, by have := h2 k (Nat.le_refl k) (by omega); rw [decide_eq_true_eq]; omega⟩
theorem singB_no {l : Nat} {R : List (List Int)} {j : Nat} (hj : j < R.length) (h : l ≤ lead0 (R.getD j [])) : singB l R = false := by
  rw [singB, List.all_eq_false]
  exact ⟨_, getD_mem' hj [], by rw [decide_eq_true_eq]; omega⟩
theorem singB_yes {l : Nat} {R : List (List Int)} (h : ∀ j, j < R.length → lead0 (R.getD j []) < l) : singB l R = true := by
  rw [singB, List.all_eq_true]
  intro x hx
  obtain ⟨i, hi, rfl⟩ := mem_getD [] hx
  exact decide_eq_true (h i hi)
end Go.Proofs.Ytdcgoeapgboclaa
