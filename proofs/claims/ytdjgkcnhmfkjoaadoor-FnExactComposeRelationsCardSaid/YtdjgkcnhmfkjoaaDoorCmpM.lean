/- The composition of two relations: the rows of differences that lead behind the middle span what the combinations with equal middles make. Plain mathematics. -/
import Derived.Test.YtdjgkcnhmfkjoaaDoorMath
namespace Go.Proofs.YtdjgkcnhmfkjoaaDoor
set_option maxRecDepth 100000
theorem app_l {α : Type} {a b : List α} {j : Nat} (d : α) (h : j < a.length) : (a ++ b).getD j d = a.getD j d := by
  rw [List.getD_eq_getElem?_getD, List.getD_eq_getElem?_getD, List.getElem?_append_left h]
theorem app_r {α : Type} {a b : List α} {j : Nat} (d : α) (h : a.length ≤ j) : (a ++ b).getD j d = b.getD (j - a.length) d := by
  rw [List.getD_eq_getElem?_getD, List.getD_eq_getElem?_getD, List.getElem?_append_right h]
theorem drop_getD {α : Type} (a : List α) (k j : Nat) (d : α) : (a.drop k).getD j d = a.getD (k + j) d := by
  rw [List.getD_eq_getElem?_getD, List.getD_eq_getElem?_getD, List.getElem?_drop]
/-- The sum of the first r terms. -/
def sm (t : Nat → Int) : Nat → Int
  | 0 => 0
  | r + 1 => sm t r + t r
theorem sm_congr {t u : Nat → Int} : ∀ {r : Nat}, (∀ i, i < r → t i = u i) → sm t r = sm u r
  | 0, _ => rfl
  | r + 1, h => by
    unfold sm
    rw [sm_congr (r := r) fun i hi => h i (by omega), h r (by omega)]
theorem sm_add (t : Nat → Int) (a : Nat) : ∀ b, sm t (a + b) = sm t a + sm (fun i => t (a + i)) b
  | 0 => by simp [sm]
  | b + 1 => by
    show sm t (a + b) + t (a + b) = sm t a + (sm (fun i => t (a + i)) b + t (a + b))
    rw [sm_add t a b, Int.add_assoc]
theorem sm_zero {t : Nat → Int} : ∀ {r : Nat}, (∀ i, i < r → t i = 0) → sm t r = 0
  | 0, _ => rfl
  | r + 1, h => by
    unfold sm
    rw [sm_zero (r := r) fun i hi => h i (by omega), h r (by omega)]
    rfl
theorem dsum_sm (f : Nat → Int) (rows : List (List Int)) (j : Nat) : ∀ r, dsum f rows j r = sm (fun i => f i * at2 rows i j) r
  | 0 => rfl
  | r + 1 => by
    unfold dsum sm
    rw [dsum_sm f rows j r]
theorem dot_sm (a b : List Int) : ∀ r, dot a b r = sm (fun i => a.getD i 0 * b.getD i 0) r
  | 0 => rfl
  | r + 1 => by
    unfold dot sm
    rw [dot_sm a b r]
/-- The sum of the first i rows, each multiplied by its factor. -/
def lin (p : Int) (c : Nat) (k : List Int) (X : List (List Int)) : Nat → List Int
  | 0 => List.replicate c 0
  | i + 1 => axpy p (lin p c k X i) (k.getD i 0) (X.getD i [])
theorem lin_len (p : Int) (c : Nat) (k : List Int) (X : List (List Int)) : ∀ i, (lin p c k X i).length = c
  | 0 => by simp [lin]
  | i + 1 => by rw [lin, axpy_len, lin_len p c k X i]
theorem lin_at {p : Int} {c j : Nat} {k : List Int} {X : List (List Int)} (hj : j < c) : ∀ i, (lin p c k X i).getD j 0 = dsum (fun i => k.getD i 0) X j i % p
  | 0 => by
    unfold lin dsum
    rw [repl_getD]
    simp
  | i + 1 => by
    rw [lin, axpy_get (by rw [lin_len]; exact hj), lin_at hj i, add_mod_l]
    rfl
theorem lin_vec {p : Int} (hp : 2 ≤ p) (c : Nat) (k : List Int) (X : List (List Int)) (i : Nat) : Vec p c (lin p c k X i) := by
  cases i with
  | zero => exact Vec.zero hp c
  | succ i => exact Vec.axpy hp (lin_len p c k X i) _ _
theorem lin_comb {p : Int} {c : Nat} {k : List Int} {X : List (List Int)} (h : k.length = X.length) : ∀ i, i ≤ X.length → comb p (lin p c k X i) (k.drop i) (X.drop i) = vmul p c k X
  | 0, _ => rfl
  | i + 1, hi => by
    have ih := lin_comb (p := p) (c := c) h i (by omega)
    rw [comb_step (by omega) (by omega)] at ih
    exact ih
theorem vmul_lin {p : Int} {c : Nat} {k : List Int} {X : List (List Int)} (h : k.length = X.length) : vmul p c k X = lin p c k X X.length := by
  rw [← lin_comb h X.length (Nat.le_refl _), comb_end (by omega)]
theorem lin_sp {p : Int} {c : Nat} {k : List Int} {X : List (List Int)} : ∀ i, i ≤ X.length → Sp p c X (lin p c k X i)
  | 0, _ => Sp.zero
  | i + 1, hi => Sp.add _ (lin_sp i (by omega)) (getD_mem' (by omega) [])
theorem lin_axpy {p κ : Int} (hp : 2 ≤ p) {c n : Nat} {k s : List Int} {X : List (List Int)} (h : k.length = s.length) (hn : n ≤ k.length) : lin p c (axpy p k κ s) X n = axpy p (lin p c k X n) κ (lin p c s X n) := by
  refine Vec.ext (p := p) (q := p) (c := c) (lin_vec hp c _ X n) (Vec.axpy hp (lin_len p c k X n) _ _) fun j hj => ?_
  rw [lin_at hj, axpy_get (by rw [lin_len]; exact hj), lin_at hj, lin_at hj, add_mod_l, add_mul_mod, ← dsum_lin]
  congr 1
  refine dsum_congr fun i hi => ?_
  rw [axpy_get (by omega)]
theorem lin_zero {p : Int} (hp : 2 ≤ p) {c n m : Nat} {X : List (List Int)} : lin p c (List.replicate m 0) X n = List.replicate c 0 := by
  refine Vec.ext (p := p) (q := p) (c := c) (lin_vec hp c _ X n) (Vec.zero hp c) fun j hj => ?_
  rw [lin_at hj, repl_getD, dsum_zero fun i _ => by rw [repl_getD, Int.zero_mul]]
  simp
/-- Every vector of the span is such a sum. -/
theorem sp_lin {p : Int} (hp : 2 ≤ p) {n c : Nat} {X : List (List Int)} (hX : Mat p n c X) {v : List Int} (hv : Sp p c X v) : ∃ k, Vec p n k ∧ lin p c k X n = v := by
  induction hv with
  | zero => exact ⟨List.replicate n 0, Vec.zero hp n, lin_zero hp⟩
  | @add v r κ h hr ih =>
    obtain ⟨k, hk, rfl⟩ := ih
    obtain ⟨m, hm, rfl⟩ := mem_getD [] hr
    have hm' : m < n := by rw [← hX.1]; exact hm
    refine ⟨axpy p k κ ((List.replicate n 0).set m 1), Vec.axpy hp hk.1 _ _, ?_⟩
    rw [lin_axpy hp (by rw [hk.1]; simp) (by rw [hk.1]; exact Nat.le_refl n)]
    congr 1
    refine Vec.ext (p := p) (q := p) (c := c) (lin_vec hp c _ X n) (hX.vec hr) fun j hj => ?_
    rw [lin_at hj, dsum_congr (g := fun i => if m = i then 1 else 0) (fun i hi => by rw [set_getD _ _ _ _ _ (by simpa using hm'), repl_getD]), dsum_unit, if_pos hm']
    exact (hX.vec hr).mod hj
/-! ### The rows of a reduced list that lead behind the first m columns -/
def tailR (m : Nat) (R : List (List Int)) : List (List Int) := (R.filter fun x => decide (m ≤ lead0 x)).map (List.drop m)
theorem zeros_drop {p : Int} {m d : Nat} {x : List Int} (h : Vec p (m + d) x) (hz : ∀ j, j < m → x.getD j 0 = 0) : List.replicate m 0 ++ x.drop m = x := by
  refine ext_getD 0 (by rw [List.length_append, List.length_replicate, List.length_drop, h.1]; omega) fun j _ => ?_
  by_cases c1 : j < m
  · rw [app_l 0 (by simpa using c1), repl_getD, hz j c1]
  · rw [app_r 0 (by simpa using c1), List.length_replicate, drop_getD, show m + (j - m) = j by omega]
theorem axpy_app {p k : Int} {a b s t : List Int} (h : a.length = s.length) : axpy p (a ++ b) k (s ++ t) = axpy p a k s ++ axpy p b k t := by
  refine ext_getD 0 (by rw [axpy_len, List.length_append, List.length_append, axpy_len, axpy_len]) fun j hj => ?_
  rw [axpy_len] at hj
  rw [axpy_get hj]
  by_cases c1 : j < a.length
  · rw [app_l 0 c1, app_l 0 (by omega), app_l 0 (by rw [axpy_len]; exact c1), axpy_get c1]
  · rw [List.length_append] at hj
    rw [app_r 0 (by omega), app_r 0 (by omega), app_r 0 (by rw [axpy_len]; omega), axpy_len, axpy_get (by omega), h]
theorem axpy_zz (p k : Int) (m : Nat) : axpy p (List.replicate m 0) k (List.replicate m 0) = List.replicate m 0 := by
  refine ext_getD 0 (by rw [axpy_len]) fun j hj => ?_
  rw [axpy_len] at hj
  rw [axpy_get hj, repl_getD]
  simp
theorem zeros_app_inj {m : Nat} {a b : List Int} (h : List.replicate m (0 : Int) ++ a = List.replicate m 0 ++ b) : a = b := List.append_cancel_left h
theorem tail_drop {p : Int} {n c m : Nat} {R : List (List Int)} (h : IsRed p n c R) : ∃ k, k ≤ n ∧ (∀ i, i < k → lead0 (R.getD i []) < m) ∧ (∀ i, k ≤ i → i < n → m ≤ lead0 (R.getD i [])) ∧ tailR m R = (R.drop k).map (List.drop m) := by
  obtain ⟨k, hk, h1, h2⟩ := h.split m n (Nat.le_refl n)
  refine ⟨k, hk, h1, h2, ?_⟩
  have hn := h.mat.1
  unfold tailR
  congr 1
  conv => lhs; rw [← List.take_append_drop k R]
  rw [List.filter_append, List.filter_eq_nil_iff.2 (fun x hx => by
    obtain ⟨i, hi, rfl⟩ := mem_getD [] hx
    rw [List.length_take] at hi
    rw [take_getD _ (by omega)]
    have := h1 i (by omega)
    rw [decide_eq_true_eq]; omega), List.nil_append]
  exact List.filter_eq_self.2 fun x hx => by
    obtain ⟨i, hi, rfl⟩ := mem_getD [] hx
    rw [List.length_drop] at hi
    rw [drop_getD]
    have := h2 (k + i) (by omega) (by omega)
    rw [decide_eq_true_eq]; exact this
theorem tail_red {p : Int} {n m d : Nat} {R : List (List Int)} (h : IsRed p n (m + d) R) : IsRed p (tailR m R).length d (tailR m R) := by
  obtain ⟨k, hk, h1, h2, e⟩ := tail_drop (m := m) h
  have hn := h.mat.1
  have hl : (tailR m R).length = n - k := by rw [e, List.length_map, List.length_drop, hn]
  have hrow : ∀ i, i < n - k → (tailR m R).getD i [] = (R.getD (k + i) []).drop m := fun i hi => by
    rw [e, map_getD _ _ _ (by rw [List.length_drop]; omega) [] [], drop_getD]
  have hlead : ∀ i, i < n - k → lead0 ((tailR m R).getD i []) + m = lead0 (R.getD (k + i) []) := fun i hi => by
    have h3 := h2 (k + i) (by omega) (by omega)
    have h4 := h.lt (k + i) (by omega)
    have hlen : (R.getD (k + i) []).length = m + d := (h.mat.row (by omega)).1
    have : lead0 ((R.getD (k + i) []).drop m) = lead0 (R.getD (k + i) []) - m := by
      refine lead0_eq (by rw [List.length_drop]; omega) (fun j hj => ?_) (fun _ => ?_)
      · rw [drop_getD]; exact lead0_zero (by omega)
      · rw [drop_getD, show m + (lead0 (R.getD (k + i) []) - m) = lead0 (R.getD (k + i) []) by omega]
        exact lead0_ne (by omega)
    rw [hrow i hi, this]
    omega
  rw [hl]
  refine ⟨⟨hl, fun x hx => ?_⟩, fun i hi => ?_, fun i j hij hj => ?_, fun i hi q hq => ?_⟩
  · rw [e] at hx
    obtain ⟨y, hy, rfl⟩ := List.mem_map.1 hx
    have := h.mat.2 y (List.mem_of_mem_drop hy)
    exact ⟨by rw [List.length_drop, this.1]; omega, fun z hz => this.2 z (List.mem_of_mem_drop hz)⟩
  · have := hlead i hi
    have := h.lt (k + i) (by omega)
    omega
  · have := hlead i (by omega)
    have := hlead j hj
    have := h.rise (k + i) (k + j) (by omega) (by omega)
    omega
  · have h3 := hlead i hi
    have h4 := h.unit (k + i) (by omega) (k + q) (by omega)
    unfold at2 at h4 ⊢
    rw [hrow q hq, drop_getD, show m + lead0 ((tailR m R).getD i []) = lead0 (R.getD (k + i) []) by omega, h4]
    by_cases c1 : q = i
    · rw [if_pos c1, if_pos (by omega)]
    · rw [if_neg c1, if_neg (by omega)]
theorem tail_sp {p : Int} (hp : 2 ≤ p) {n m d : Nat} {R : List (List Int)} (h : IsRed p n (m + d) R) (v : List Int) : Sp p d (tailR m R) v ↔ Sp p (m + d) R (List.replicate m 0 ++ v) := by
  obtain ⟨k, hk, h1, h2, e⟩ := tail_drop (m := m) h
  have hn := h.mat.1
  have hz : ∀ r, r ∈ R.drop k → List.replicate m 0 ++ r.drop m = r := fun r hr => by
    obtain ⟨i, hi, rfl⟩ := mem_getD [] hr
    rw [List.length_drop] at hi
    refine zeros_drop (d := d) (h.mat.vec (List.mem_of_mem_drop hr)) fun j hj => ?_
    rw [drop_getD]
    exact lead0_zero (Nat.lt_of_lt_of_le hj (h2 (k + i) (by omega) (by omega)))
  constructor
  · intro hv
    induction hv with
    | zero => rw [List.replicate_append_replicate]; exact Sp.zero
    | @add v r κ hs hr ih =>
      rw [e] at hr
      obtain ⟨y, hy, rfl⟩ := List.mem_map.1 hr
      have := Sp.add κ ih (List.mem_of_mem_drop hy)
      rw [← hz y hy, axpy_app rfl, axpy_zz] at this
      exact this
  · intro hv
    obtain ⟨w, hw, e2⟩ := sp_coords hp (r := k) (l := fun i => lead0 (R.getD i [])) h.mat (fun i hi => h.lt i (by omega)) (fun i hi q hq => h.unit i (by omega) q hq) hv
    have e3 : List.replicate m 0 ++ v = w := by
      refine Vec.ext (p := p) (q := p) (c := m + d) (hv.vec hp) (hw.vec hp) fun j hj => ?_
      rw [e2 j hj, dsum_zero (fun i hi => by rw [app_l 0 (by rw [List.length_replicate]; exact h1 i hi), repl_getD, Int.zero_mul]), Int.add_zero]
      exact (hw.vec hp).mod hj
    rw [← e3] at hw
    clear e2 e3 hv w
    have key : ∀ u, Sp p (m + d) (R.drop k) u → Sp p d (tailR m R) (u.drop m) := fun u hu => by
      induction hu with
      | zero => rw [List.drop_replicate, show m + d - m = d by omega]; exact Sp.zero
      | @add u r κ hs hr ih =>
        have hu := (hs.vec hp).1
        have := Sp.add κ ih (show r.drop m ∈ tailR m R by rw [e]; exact List.mem_map_of_mem hr)
        have hr2 := (h.mat.2 r (List.mem_of_mem_drop hr)).1
        have e4 : (axpy p u κ r).drop m = axpy p (u.drop m) κ (r.drop m) := by
          refine ext_getD 0 (by rw [List.length_drop, axpy_len, axpy_len, List.length_drop]) fun j hj => ?_
          rw [List.length_drop, axpy_len] at hj
          rw [drop_getD, axpy_get (by omega), axpy_get (by rw [List.length_drop]; omega), drop_getD, drop_getD]
        rw [e4]
        exact this
    have := key _ hw
    rwa [List.drop_append_of_le_length (by simp), List.drop_of_length_le (by simp), List.nil_append] at this
/-! ### Composition -/
theorem nullB_vec' {p : Int} (hf : fld p = true) {c : Nat} {rows : List (List Int)} {r : List Int} (hr : r ∈ nullB p rows c) : Vec p c r := (rref_mat hf (null_mid_mat hf rows)).vec hr
section
variable {p : Int} {na nb la m rb : Nat} {A B : List (List Int)}
def cmpA (la rb : Nat) (x : List Int) : List Int := x.drop la ++ x.take la ++ List.replicate rb 0
def cmpB (p : Int) (la m : Nat) (x : List Int) : List Int := (x.take m).map (fun a => (p - a) % p) ++ List.replicate la 0 ++ x.drop m
def cmpX (p : Int) (la m rb : Nat) (A B : List (List Int)) : List (List Int) := A.map (cmpA la rb) ++ B.map (cmpB p la m)
def cmpC (p : Int) (la : Nat) (A B : List (List Int)) (j : Nat) : List Int := A.map (fun r => r.getD (la + j) 0) ++ B.map fun r => (p - r.getD j 0) % p
def cmpN (p : Int) (la m : Nat) (A B : List (List Int)) : List (List Int) := (List.range m).map (cmpC p la A B)
def cmpF (p : Int) (la m rb : Nat) (A B : List (List Int)) (k : List Int) : List Int := (vmul p (la + m) (k.take A.length) A).take la ++ (vmul p (m + rb) (k.drop A.length) B).drop m
def cmpO (p : Int) (la m rb : Nat) (A B : List (List Int)) : List (List Int) := (nullB p (cmpN p la m A B) (A.length + B.length)).map (cmpF p la m rb A B)
theorem neg_bd (hp : 2 ≤ p) (a : Int) : 0 ≤ (p - a) % p ∧ (p - a) % p < p := ⟨Int.emod_nonneg _ (by omega), Int.emod_lt_of_pos _ (by omega)⟩
theorem cmpX_mat (hp : 2 ≤ p) (hA : Mat p na (la + m) A) (hB : Mat p nb (m + rb) B) : Mat p (na + nb) (m + (la + rb)) (cmpX p la m rb A B) := by
  refine ⟨by simp [cmpX, hA.1, hB.1], fun x hx => ?_⟩
  rcases List.mem_append.1 hx with h | h
  · obtain ⟨y, hy, rfl⟩ := List.mem_map.1 h
    have h2 := hA.2 y hy
    refine ⟨by simp [cmpA, h2.1], fun z hz => ?_⟩
    rcases List.mem_append.1 hz with h3 | h3
    · rcases List.mem_append.1 h3 with h4 | h4
      · exact h2.2 z (List.mem_of_mem_drop h4)
      · exact h2.2 z (List.mem_of_mem_take h4)
    · exact zeros_bd hp rb z h3
  · obtain ⟨y, hy, rfl⟩ := List.mem_map.1 h
    have h2 := hB.2 y hy
    refine ⟨by simp [cmpB, h2.1], fun z hz => ?_⟩
    rcases List.mem_append.1 hz with h3 | h3
    · rcases List.mem_append.1 h3 with h4 | h4
      · obtain ⟨a, _, rfl⟩ := List.mem_map.1 h4
        exact neg_bd hp a
      · exact zeros_bd hp la z h4
    · exact h2.2 z (List.mem_of_mem_drop h3)
theorem cmpX_l {i : Nat} (hA : Mat p na (la + m) A) (hi : i < na) : (cmpX p la m rb A B).getD i [] = cmpA la rb (A.getD i []) := by
  unfold cmpX
  rw [app_l [] (by rw [List.length_map, hA.1]; exact hi), map_getD _ _ _ (by rw [hA.1]; exact hi) [] []]
theorem cmpX_r {i : Nat} (hA : Mat p na (la + m) A) (hB : Mat p nb (m + rb) B) (hi : i < nb) : (cmpX p la m rb A B).getD (na + i) [] = cmpB p la m (B.getD i []) := by
  unfold cmpX
  rw [app_r [] (by rw [List.length_map, hA.1]; omega), List.length_map, hA.1, show na + i - na = i by omega, map_getD _ _ _ (by rw [hB.1]; exact hi) [] []]
theorem cmpA_at {x : List Int} (hx : x.length = la + m) {j : Nat} : (cmpA la rb x).getD j 0 = if j < m then x.getD (la + j) 0 else if j < m + la then x.getD (j - m) 0 else 0 := by
  unfold cmpA
  have e1 : (x.drop la).length = m := by rw [List.length_drop]; omega
  have e2 : (x.take la).length = la := by rw [List.length_take]; omega
  by_cases c1 : j < m
  · rw [if_pos c1, app_l 0 (by rw [List.length_append]; omega), app_l 0 (by omega), drop_getD]
  · rw [if_neg c1]
    by_cases c2 : j < m + la
    · rw [if_pos c2, app_l 0 (by rw [List.length_append]; omega), app_r 0 (by omega), e1, take_getD _ (by omega)]
    · rw [if_neg c2, app_r 0 (by rw [List.length_append]; omega), repl_getD]
theorem cmpB_at {x : List Int} (hx : x.length = m + rb) {j : Nat} : (cmpB p la m x).getD j 0 = if j < m then (p - x.getD j 0) % p else if j < m + la then 0 else x.getD (j - la) 0 := by
  unfold cmpB
  have e1 : ((x.take m).map fun a => (p - a) % p).length = m := by rw [List.length_map, List.length_take]; omega
  by_cases c1 : j < m
  · rw [if_pos c1, app_l 0 (by rw [List.length_append]; omega), app_l 0 (by omega), map_getD _ _ _ (by rw [List.length_take]; omega) 0 0, take_getD _ c1]
  · rw [if_neg c1]
    by_cases c2 : j < m + la
    · rw [if_pos c2, app_l 0 (by rw [List.length_append, List.length_replicate]; omega), app_r 0 (by omega), repl_getD]
    · rw [if_neg c2, app_r 0 (by rw [List.length_append, List.length_replicate]; omega), List.length_append, e1, List.length_replicate, drop_getD, show m + (j - (m + la)) = j - la by omega]
theorem cmpN_mat (hp : 2 ≤ p) (hA : Mat p na (la + m) A) (hB : Mat p nb (m + rb) B) : Mat p m (na + nb) (cmpN p la m A B) := by
  refine ⟨by simp [cmpN], fun x hx => ?_⟩
  obtain ⟨j, hj, rfl⟩ := List.mem_map.1 hx
  have hj := List.mem_range.1 hj
  refine ⟨by simp [cmpC, hA.1, hB.1], fun z hz => ?_⟩
  rcases List.mem_append.1 hz with h | h
  · obtain ⟨y, hy, rfl⟩ := List.mem_map.1 h
    exact (hA.vec hy).el (by omega)
  · obtain ⟨y, _, rfl⟩ := List.mem_map.1 h
    exact neg_bd hp _
theorem cmpC_at (hA : Mat p na (la + m) A) (hB : Mat p nb (m + rb) B) {j i : Nat} (hj : j < m) (hi : i < na + nb) : (cmpC p la A B j).getD i 0 = at2 (cmpX p la m rb A B) i j := by
  unfold cmpC at2
  by_cases c1 : i < na
  · rw [cmpX_l hA c1, cmpA_at (hA.row c1).1, if_pos hj, app_l 0 (by rw [List.length_map, hA.1]; exact c1), map_getD _ _ _ (by rw [hA.1]; exact c1) [] 0]
  · have e := cmpX_r (la := la) (m := m) (rb := rb) (p := p) (i := i - na) hA hB (by omega)
    rw [show na + (i - na) = i by omega] at e
    rw [e, cmpB_at (hB.row (by omega)).1, if_pos hj, app_r 0 (by rw [List.length_map, hA.1]; omega), List.length_map, hA.1, map_getD _ _ _ (by rw [hB.1]; omega) [] 0]
theorem cmp_null (hA : Mat p na (la + m) A) (hB : Mat p nb (m + rb) B) {k : List Int} (hk : Vec p (na + nb) k) :
    Null p (na + nb) (cmpN p la m A B) k ↔ ∀ j, j < m → (lin p (m + (la + rb)) k (cmpX p la m rb A B) (na + nb)).getD j 0 = 0 := by
  have e : ∀ j, j < m → dot (cmpC p la A B j) k (na + nb) = dsum (fun i => k.getD i 0) (cmpX p la m rb A B) j (na + nb) := fun j hj => by
    rw [dot_sm, dsum_sm]
    exact sm_congr fun i hi => by rw [cmpC_at hA hB hj hi, Int.mul_comm]
  constructor
  · intro h j hj
    rw [lin_at (by omega), ← e j hj]
    exact h.2 _ (List.mem_map_of_mem (List.mem_range.2 hj))
  · intro h
    refine ⟨hk, fun r hr => ?_⟩
    obtain ⟨j, hj, rfl⟩ := List.mem_map.1 hr
    have hj := List.mem_range.1 hj
    have := h j hj
    rw [lin_at (by omega), ← e j hj] at this
    exact this
theorem cmpF_len {k : List Int} : (cmpF p la m rb A B k).length = la + rb := by simp [cmpF, vmul_len]
theorem cmpF_eq (hA : Mat p na (la + m) A) (hB : Mat p nb (m + rb) B) {k : List Int} (hk : k.length = na + nb) : cmpF p la m rb A B k = (lin p (m + (la + rb)) k (cmpX p la m rb A B) (na + nb)).drop m := by
  refine ext_getD 0 (by rw [cmpF_len, List.length_drop, lin_len]; omega) fun j hj => ?_
  rw [cmpF_len] at hj
  rw [drop_getD, lin_at (by omega), dsum_sm, sm_add]
  unfold cmpF
  rw [vmul_lin (by rw [List.length_take, hA.1]; omega), vmul_lin (by rw [List.length_drop, hA.1, hB.1]; omega), hA.1, hB.1]
  have e0 : ((lin p (la + m) (k.take na) A na).take la).length = la := by rw [List.length_take, lin_len]; omega
  by_cases c1 : j < la
  · rw [app_l 0 (by omega), take_getD _ c1, lin_at (by omega), dsum_sm, sm_zero (r := nb) (fun i hi => by
      unfold at2
      rw [cmpX_r hA hB hi, cmpB_at (hB.row hi).1, if_neg (by omega), if_pos (by omega), Int.mul_zero]), Int.add_zero]
    congr 1
    refine sm_congr fun i hi => ?_
    unfold at2
    rw [cmpX_l hA hi, cmpA_at (hA.row hi).1, if_neg (by omega), if_pos (by omega), take_getD _ hi, show m + j - m = j by omega]
  · rw [app_r 0 (by omega), e0, drop_getD, lin_at (by omega), dsum_sm, sm_zero (r := na) (fun i hi => by
      unfold at2
      rw [cmpX_l hA hi, cmpA_at (hA.row hi).1, if_neg (by omega), if_neg (by omega), Int.mul_zero]), Int.zero_add]
    congr 1
    refine sm_congr fun i hi => ?_
    unfold at2
    rw [cmpX_r hA hB hi, cmpB_at (hB.row hi).1, if_neg (by omega), if_neg (by omega), drop_getD, show m + j - la = m + (j - la) by omega]
theorem drop_axpy {p k : Int} {u s : List Int} {m : Nat} : (axpy p u k s).drop m = axpy p (u.drop m) k (s.drop m) := by
  refine ext_getD 0 (by rw [List.length_drop, axpy_len, axpy_len, List.length_drop]) fun j hj => ?_
  rw [List.length_drop, axpy_len] at hj
  rw [drop_getD, axpy_get (by omega), axpy_get (by rw [List.length_drop]; omega), drop_getD, drop_getD]
/-- The span of what the combinations with equal middles make. -/
theorem cmpO_sp (hf : fld p = true) (hA : Mat p na (la + m) A) (hB : Mat p nb (m + rb) B) (v : List Int) : Sp p (la + rb) (cmpO p la m rb A B) v ↔ Sp p (m + (la + rb)) (cmpX p la m rb A B) (List.replicate m 0 ++ v) := by
  have hp := (fld_bd hf).1
  have hX := cmpX_mat hp hA hB
  have hN := cmpN_mat hp hA hB
  have eN : A.length + B.length = na + nb := by rw [hA.1, hB.1]
  have hlin : ∀ k, Vec p (na + nb) k → Null p (na + nb) (cmpN p la m A B) k → List.replicate m 0 ++ cmpF p la m rb A B k = lin p (m + (la + rb)) k (cmpX p la m rb A B) (na + nb) := fun k hk hn => by
    rw [cmpF_eq hA hB hk.1]
    exact zeros_drop (lin_vec hp _ _ _ _) ((cmp_null hA hB hk).1 hn)
  constructor
  · intro hv
    induction hv with
    | zero => rw [List.replicate_append_replicate]; exact Sp.zero
    | @add v r κ hs hr ih =>
      obtain ⟨k, hk, rfl⟩ := List.mem_map.1 hr
      rw [eN] at hk
      have hkv : Vec p (na + nb) k := (nullB_vec' hf hk)
      have hkn : Null p (na + nb) (cmpN p la m A B) k := (nullB_sp hf hN k).1 (Sp.row hkv hk)
      have h1 := hlin k hkv hkn
      have h2 : Sp p (m + (la + rb)) (cmpX p la m rb A B) (List.replicate m 0 ++ cmpF p la m rb A B k) := by rw [h1]; exact lin_sp _ (by rw [hX.1]; exact Nat.le_refl _)
      have := Sp.comb hp ih κ h2
      rwa [axpy_app rfl, axpy_zz] at this
  · intro hv
    obtain ⟨k, hk, e⟩ := sp_lin hp hX hv
    have hn : Null p (na + nb) (cmpN p la m A B) k := (cmp_null hA hB hk).2 fun j hj => by rw [e, app_l 0 (by simpa using hj), repl_getD]
    have ev : v = cmpF p la m rb A B k := by
      rw [cmpF_eq hA hB hk.1, e, List.drop_append_of_le_length (by simp), List.drop_of_length_le (by simp), List.nil_append]
    rw [ev]
    clear e ev hv v
    have hs := (nullB_sp hf hN k).2 hn
    have key : ∀ u, Sp p (na + nb) (nullB p (cmpN p la m A B) (na + nb)) u → Sp p (la + rb) (cmpO p la m rb A B) (cmpF p la m rb A B u) := fun u hu => by
      induction hu with
      | zero =>
        rw [cmpF_eq hA hB (by simp), lin_zero hp, List.drop_replicate, show m + (la + rb) - m = la + rb by omega]
        exact Sp.zero
      | @add u r κ hs hr ih =>
        have hrv := nullB_vec' hf hr
        have huv := hs.vec hp
        rw [cmpF_eq hA hB (by rw [axpy_len, huv.1]), lin_axpy hp (by rw [huv.1, hrv.1]) (by rw [huv.1]; exact Nat.le_refl _), drop_axpy, ← cmpF_eq hA hB huv.1, ← cmpF_eq hA hB hrv.1]
        refine Sp.add κ ih (List.mem_map.2 ⟨r, ?_, rfl⟩)
        rw [eN]
        exact hr
    exact key k hs
theorem cmpF_vec (hp : 2 ≤ p) (hA : Mat p na (la + m) A) (hB : Mat p nb (m + rb) B) {k : List Int} (hk : k.length = na + nb) : Vec p (la + rb) (cmpF p la m rb A B k) := by
  refine ⟨cmpF_len, fun x hx => ?_⟩
  rw [cmpF_eq hA hB hk] at hx
  exact (lin_vec hp _ _ _ _).2 x (List.mem_of_mem_drop hx)
theorem cmpO_mat (hf : fld p = true) (hA : Mat p na (la + m) A) (hB : Mat p nb (m + rb) B) : Mat p (cmpO p la m rb A B).length (la + rb) (cmpO p la m rb A B) := by
  refine ⟨rfl, fun x hx => ?_⟩
  obtain ⟨k, hk, rfl⟩ := List.mem_map.1 hx
  rw [hA.1, hB.1] at hk
  exact cmpF_vec (fld_bd hf).1 hA hB (nullB_vec' hf hk).1
/-- Both ways to the composition's reduced list. -/
theorem cmp_eq (hf : fld p = true) (hA : Mat p na (la + m) A) (hB : Mat p nb (m + rb) B) : rref p (cmpO p la m rb A B) (la + rb) = tailR m (rref p (cmpX p la m rb A B) (m + (la + rb))) := by
  have hp := (fld_bd hf).1
  have hX := cmpX_mat hp hA hB
  have hR : IsRed p _ (m + (la + rb)) (rref p (cmpX p la m rb A B) (m + (la + rb))) := rref_red hf hX
  have hT := tail_red hR
  rw [rref_eq hf (cmpO_mat hf hA hB) hT.mat fun v => ?_, rref_of_red hf hT]
  rw [tail_sp hp hR, cmpO_sp hf hA hB]
  exact (rref_sp hf hX _).symm
end
end Go.Proofs.YtdjgkcnhmfkjoaaDoor
