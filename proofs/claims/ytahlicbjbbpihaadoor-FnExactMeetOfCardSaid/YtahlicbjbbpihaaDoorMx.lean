/- Matrices over a field as lists of rows: what both sides' functions compute. -/
import Derived.Test.YtahlicbjbbpihaaDoorFdMath
import Derived.Test.YtahlicbjbbpihaaDoorUpd
namespace Go.Proofs.YtahlicbjbbpihaaDoor
set_option maxRecDepth 100000
def isMat (p cols : Int) (rows : List (List Int)) : Bool :=
  fld p && decide (0 ≤ cols) && decide (cols ≤ 24) && decide (rows.length ≤ 24) && rows.all fun r => decide ((r.length : Int) = cols) && r.all (el p)
/-- n rows of c elements of the field. -/
def Mat (p : Int) (n c : Nat) (rows : List (List Int)) : Prop := rows.length = n ∧ ∀ r, r ∈ rows → r.length = c ∧ ∀ x, x ∈ r → 0 ≤ x ∧ x < p
theorem isMat_iff (p cols : Int) (rows : List (List Int)) : isMat p cols rows = true ↔ fld p = true ∧ rows.length ≤ 24 ∧ ∃ c : Nat, cols = c ∧ c ≤ 24 ∧ Mat p rows.length c rows := by
  unfold isMat Mat
  simp only [Bool.and_eq_true, decide_eq_true_eq, List.all_eq_true, el_iff]
  constructor
  · rintro ⟨⟨⟨⟨h1, h2⟩, h3⟩, h4⟩, h5⟩
    refine ⟨h1, h4, cols.toNat, by omega, by omega, trivial, fun r hr => ⟨?_, (h5 r hr).2⟩⟩
    have := (h5 r hr).1
    omega
  · rintro ⟨h1, h4, c, rfl, h3, _, h5⟩
    exact ⟨⟨⟨⟨h1, by omega⟩, by omega⟩, h4⟩, fun r hr => ⟨by rw [(h5 r hr).1], (h5 r hr).2⟩⟩
theorem Mat.row {p : Int} {n c : Nat} {rows : List (List Int)} (h : Mat p n c rows) {r : Nat} (hr : r < n) : (rows.getD r []).length = c ∧ ∀ x, x ∈ rows.getD r [] → 0 ≤ x ∧ x < p := by
  rw [List.getD_eq_getElem?_getD, List.getElem?_eq_getElem (by rw [h.1]; exact hr)]
  exact h.2 _ (List.getElem_mem _)
theorem getD_mem' {α : Type} {l : List α} {i : Nat} (h : i < l.length) (d : α) : l.getD i d ∈ l := by
  rw [List.getD_eq_getElem?_getD, List.getElem?_eq_getElem h]
  exact List.getElem_mem h
theorem Mat.el {p : Int} {n c : Nat} {rows : List (List Int)} (h : Mat p n c rows) {r j : Nat} (hr : r < n) (hj : j < c) : 0 ≤ (rows.getD r []).getD j 0 ∧ (rows.getD r []).getD j 0 < p :=
  (h.row hr).2 _ (getD_mem' (by rw [(h.row hr).1]; exact hj) 0)
theorem Mat.intro {p : Int} {n c : Nat} {rows : List (List Int)} (hl : rows.length = n) (h : ∀ r, r < n → (rows.getD r []).length = c ∧ ∀ j, j < c → 0 ≤ (rows.getD r []).getD j 0 ∧ (rows.getD r []).getD j 0 < p) : Mat p n c rows := by
  refine ⟨hl, fun r hr => ?_⟩
  obtain ⟨i, hi, rfl⟩ := List.getElem_of_mem hr
  have e : rows.getD i [] = rows[i] := by rw [List.getD_eq_getElem?_getD, List.getElem?_eq_getElem hi]; rfl
  obtain ⟨h1, h2⟩ := h i (by omega)
  rw [e] at h1 h2
  refine ⟨h1, fun x hx => ?_⟩
  obtain ⟨j, hj, rfl⟩ := List.getElem_of_mem hx
  have := h2 j (by omega)
  rwa [List.getD_eq_getElem?_getD, List.getElem?_eq_getElem hj] at this
/-- Two matrices of one shape are equal if their elements are. -/
theorem Mat.ext {p q : Int} {n c : Nat} {a b : List (List Int)} (ha : Mat p n c a) (hb : Mat q n c b) (h : ∀ r, r < n → ∀ j, j < c → (a.getD r []).getD j 0 = (b.getD r []).getD j 0) : a = b := by
  refine ext_getD [] (by rw [ha.1, hb.1]) fun r hr => ?_
  rw [ha.1] at hr
  exact ext_getD 0 (by rw [(ha.row hr).1, (hb.row hr).1]) fun j hj => h r hr j (by rw [(ha.row hr).1] at hj; exact hj)

/-- A row plus a multiple of another one. -/
def axpy (p : Int) (r : List Int) (k : Int) (s : List Int) : List Int := r.mapIdx fun j x => (x + k * s.getD j 0) % p
theorem axpy_len (p : Int) (r : List Int) (k : Int) (s : List Int) : (axpy p r k s).length = r.length := by simp [axpy]
theorem axpy_get {p : Int} {r : List Int} {k : Int} {s : List Int} {j : Nat} (hj : j < r.length) : (axpy p r k s).getD j 0 = (r.getD j 0 + k * s.getD j 0) % p := by
  unfold axpy
  rw [mapIdx_getD _ _ _ hj 0]
def scale (p k : Int) (r : List Int) : List Int := r.mapIdx fun _ x => k * x % p
theorem scale_len (p k : Int) (r : List Int) : (scale p k r).length = r.length := by simp [scale]
theorem scale_get {p k : Int} {r : List Int} {j : Nat} (hj : j < r.length) : (scale p k r).getD j 0 = k * r.getD j 0 % p := by
  unfold scale
  rw [mapIdx_getD _ _ _ hj 0]
theorem emod_bd {p : Int} (hp : 2 ≤ p) (x : Int) : 0 ≤ x % p ∧ x % p < p := ⟨Int.emod_nonneg _ (by omega), Int.emod_lt_of_pos _ (by omega)⟩
theorem axpy_bd {p : Int} (hp : 2 ≤ p) {r : List Int} {k : Int} {s : List Int} : ∀ x, x ∈ axpy p r k s → 0 ≤ x ∧ x < p := by
  intro x hx
  obtain ⟨j, hj, rfl⟩ := List.getElem_of_mem hx
  simp only [axpy, List.getElem_mapIdx]
  exact emod_bd hp _
theorem scale_bd {p : Int} (hp : 2 ≤ p) {k : Int} {r : List Int} : ∀ x, x ∈ scale p k r → 0 ≤ x ∧ x < p := by
  intro x hx
  obtain ⟨j, hj, rfl⟩ := List.getElem_of_mem hx
  simp only [scale, List.getElem_mapIdx]
  exact emod_bd hp _
theorem axpy_zero {p : Int} {r s : List Int} (hr : ∀ x, x ∈ r → 0 ≤ x ∧ x < p) : axpy p r 0 s = r := by
  refine ext_getD 0 (axpy_len _ _ _ _) fun j hj => ?_
  rw [axpy_len] at hj
  rw [axpy_get hj]
  have := hr _ (getD_mem' hj 0)
  rw [Int.zero_mul, Int.add_zero, Int.emod_eq_of_lt this.1 this.2]
theorem scale_one {p : Int} {r : List Int} (hr : ∀ x, x ∈ r → 0 ≤ x ∧ x < p) : scale p 1 r = r := by
  refine ext_getD 0 (scale_len _ _ _) fun j hj => ?_
  rw [scale_len] at hj
  rw [scale_get hj]
  have := hr _ (getD_mem' hj 0)
  rw [Int.one_mul, Int.emod_eq_of_lt this.1 this.2]
/-- acc plus the sum of the rows, each multiplied by its factor. -/
def comb (p : Int) : List Int → List Int → List (List Int) → List Int
  | acc, f :: fs, r :: rs => comb p (axpy p acc f r) fs rs
  | acc, _, _ => acc
theorem comb_len (p : Int) : ∀ (acc fs : List Int) (rs : List (List Int)), (comb p acc fs rs).length = acc.length
  | acc, [], _ => by simp [comb]
  | acc, _ :: _, [] => by simp [comb]
  | acc, f :: fs, r :: rs => by
    rw [comb, comb_len p _ fs rs, axpy_len]
theorem comb_bd {p : Int} (hp : 2 ≤ p) : ∀ (acc fs : List Int) (rs : List (List Int)), (∀ x, x ∈ acc → 0 ≤ x ∧ x < p) → ∀ x, x ∈ comb p acc fs rs → 0 ≤ x ∧ x < p
  | acc, [], _, h => by simpa [comb] using h
  | acc, _ :: _, [], h => by simpa [comb] using h
  | acc, f :: fs, r :: rs, h => by
    rw [comb]
    exact comb_bd hp _ fs rs (axpy_bd hp)
theorem comb_step {p : Int} {acc fs : List Int} {rs : List (List Int)} {i : Nat} (h1 : i < fs.length) (h2 : i < rs.length) :
    comb p acc (fs.drop i) (rs.drop i) = comb p (axpy p acc (fs.getD i 0) (rs.getD i [])) (fs.drop (i + 1)) (rs.drop (i + 1)) := by
  rw [List.drop_eq_getElem_cons h1, List.drop_eq_getElem_cons h2, comb, List.getD_eq_getElem?_getD, List.getD_eq_getElem?_getD, List.getElem?_eq_getElem h1, List.getElem?_eq_getElem h2]
  rfl
theorem comb_end {p : Int} {acc fs : List Int} {rs : List (List Int)} {i : Nat} (h : fs.length ≤ i) : comb p acc (fs.drop i) (rs.drop i) = acc := by
  rw [List.drop_eq_nil_of_le h, comb.eq_2]
  intro f fs' r rs' h2
  cases h2
/-- The product of a list with a matrix of c columns. -/
def vmul (p : Int) (c : Nat) (x : List Int) (m : List (List Int)) : List Int := comb p (List.replicate c 0) x m
theorem vmul_len (p : Int) (c : Nat) (x : List Int) (m : List (List Int)) : (vmul p c x m).length = c := by simp [vmul, comb_len]
theorem zeros_bd {p : Int} (hp : 2 ≤ p) (c : Nat) : ∀ x, x ∈ List.replicate c (0 : Int) → 0 ≤ x ∧ x < p := by
  intro x hx
  have := (List.mem_replicate.1 hx).2
  omega
theorem vmul_bd {p : Int} (hp : 2 ≤ p) (c : Nat) (x : List Int) (m : List (List Int)) : ∀ y, y ∈ vmul p c x m → 0 ≤ y ∧ y < p := comb_bd hp _ _ _ (zeros_bd hp c)
def mmul (p : Int) (c : Nat) (a b : List (List Int)) : List (List Int) := a.mapIdx fun _ r => vmul p c r b
theorem mmul_len (p : Int) (c : Nat) (a b : List (List Int)) : (mmul p c a b).length = a.length := by simp [mmul]
theorem mmul_mat {p : Int} (hp : 2 ≤ p) (c : Nat) (a b : List (List Int)) : Mat p a.length c (mmul p c a b) := by
  refine ⟨mmul_len _ _ _ _, fun r hr => ?_⟩
  obtain ⟨i, hi, rfl⟩ := List.getElem_of_mem hr
  simp only [mmul, List.getElem_mapIdx]
  exact ⟨vmul_len _ _ _ _, vmul_bd hp _ _ _⟩
/-- The unit rows. -/
def unitRow (n i : Nat) : List Int := (List.replicate n (0 : Int)).set i 1
def idRows (n : Nat) : List (List Int) := (List.replicate n (List.replicate n (0 : Int))).mapIdx fun i r => r.set i 1
theorem idRows_len (n : Nat) : (idRows n).length = n := by simp [idRows]
theorem idRows_get {n i : Nat} (h : i < n) : (idRows n).getD i [] = unitRow n i := by
  unfold idRows unitRow
  rw [mapIdx_getD _ _ _ (by simpa using h) (List.replicate n 0), repl_getD]
theorem unitRow_get {n i j : Nat} (hi : i < n) : (unitRow n i).getD j 0 = if i = j then 1 else 0 := by
  unfold unitRow
  rw [set_getD _ _ _ _ _ (by simpa using hi), repl_getD]
theorem unitRow_len (n i : Nat) : (unitRow n i).length = n := by simp [unitRow]
theorem idRows_mat {p : Int} (hp : 2 ≤ p) (n : Nat) : Mat p n n (idRows n) := by
  refine Mat.intro (idRows_len n) fun r hr => ?_
  rw [idRows_get hr]
  refine ⟨unitRow_len _ _, fun j hj => ?_⟩
  rw [unitRow_get hr]
  split <;> omega
theorem zeroRows_mat {p : Int} (hp : 2 ≤ p) (n c : Nat) : Mat p n c (List.replicate n (List.replicate c (0 : Int))) := by
  refine ⟨by simp, fun r hr => ?_⟩
  rw [(List.mem_replicate.1 hr).2]
  exact ⟨by simp, zeros_bd hp c⟩
end Go.Proofs.YtahlicbjbbpihaaDoor
