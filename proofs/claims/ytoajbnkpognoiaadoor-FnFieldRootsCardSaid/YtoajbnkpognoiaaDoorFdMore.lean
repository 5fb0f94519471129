/- Plain arithmetic behind the laws on fields and their roots: orders divide p - 1, logarithms and square roots are what they should be, a quadratic equation has at most two roots. It imports nothing of the program. -/
import Derived.Test.YtoajbnkpognoiaaDoorFdMath
namespace Go.Proofs.YtoajbnkpognoiaaDoor

theorem ordB : ((List.range 98).all fun p => !fldN p || (List.range p).all fun a => decide (a = 0) || (decide (1 ≤ ordFromN p a (p - 1) 1) && decide (ordFromN p a (p - 1) 1 ≤ p - 1) && decide (a ^ ordFromN p a (p - 1) 1 % p = 1) && decide ((p - 1) % ordFromN p a (p - 1) 1 = 0))) = true := by decide +kernel
theorem ord_facts {p a : Int} (hp : fld p = true) (h0 : 0 < a) (h : a < p) : 1 ≤ ord p a ∧ (ord p a : Int) ≤ p - 1 ∧ pw p a (ord p a) = 1 ∧ (p - 1) % (ord p a : Int) = 0 := by
  obtain ⟨h2, h97⟩ := fld_bd hp
  obtain ⟨P, rfl⟩ := Int.eq_ofNat_of_zero_le (show 0 ≤ p by omega)
  obtain ⟨A, rfl⟩ := Int.eq_ofNat_of_zero_le (show 0 ≤ a by omega)
  have hb := List.all_eq_true.1 ordB P (List.mem_range.2 (by omega))
  rw [fldN_of hp] at hb
  have hb' := List.all_eq_true.1 (by simpa using hb : ((List.range P).all fun a => decide (a = 0) || (decide (1 ≤ ordFromN P a (P - 1) 1) && decide (ordFromN P a (P - 1) 1 ≤ P - 1) && decide (a ^ ordFromN P a (P - 1) 1 % P = 1) && decide ((P - 1) % ordFromN P a (P - 1) 1 = 0))) = true) A (List.mem_range.2 (by omega))
  simp only [Bool.or_eq_true, Bool.and_eq_true, decide_eq_true_eq] at hb'
  have e : ord (P : Int) (A : Int) = ordFromN P A (P - 1) 1 := by
    unfold ord
    rw [ordFrom_nat, Int.toNat_natCast]
  rw [e]
  rcases hb' with hb' | ⟨⟨⟨g1, g2⟩, g3⟩, g4⟩
  · omega
  · refine ⟨g1, by omega, ?_, ?_⟩
    · unfold pw
      have : ((A ^ ordFromN P A (P - 1) 1 % P : Nat) : Int) = (1 : Nat) := by rw [g3]
      simpa using this
    · have : (((P - 1) % ordFromN P A (P - 1) 1 : Nat) : Int) = (0 : Nat) := by rw [g4]
      rw [Int.natCast_emod, Int.natCast_sub (by omega)] at this
      simpa using this
theorem mul_back {p a b : Int} (hp : fld p = true) (a0 : 0 ≤ a) (a1 : a < p) (b0 : 0 < b) (b1 : b < p) : a * b % p * inv p b % p = a := by
  rw [Int.mul_emod, Int.emod_emod_of_dvd _ (Int.dvd_refl p), ← Int.mul_emod, Int.mul_assoc, Int.mul_emod, inv_mul hp b0 b1, Int.mul_one, Int.emod_emod_of_dvd _ (Int.dvd_refl p)]
  exact Int.emod_eq_of_lt a0 a1
theorem logFrom_ok {p b a : Int} : ∀ {f n : Nat} {r : Int}, logFrom p b a f n = (r, true) → ∃ m : Nat, r = (m : Int) ∧ m < n + f ∧ pw p b m = a
  | 0, n, r, h => by simp [logFrom] at h
  | f + 1, n, r, h => by
    unfold logFrom at h
    split at h
    · rename_i hp
      exact ⟨n, by simpa using h.symm, by omega, hp⟩
    · obtain ⟨m, e, hm, hq⟩ := logFrom_ok h
      exact ⟨m, e, by omega, hq⟩
theorem logFrom_no {p b a : Int} : ∀ {f n : Nat}, (logFrom p b a f n).2 = false → logFrom p b a f n = (0, false)
  | 0, n, h => rfl
  | f + 1, n, h => by
    unfold logFrom at h ⊢
    split at h
    · cases h
    · rename_i hp
      rw [if_neg hp]
      exact logFrom_no h
theorem rtFrom_ok {p a : Int} : ∀ {f n : Nat} {r : Int}, rtFrom p a f n = (r, true) → ∃ m : Nat, r = (m : Int) ∧ m < n + f ∧ (m : Int) * m % p = a
  | 0, n, r, h => by simp [rtFrom] at h
  | f + 1, n, r, h => by
    unfold rtFrom at h
    split at h
    · rename_i hp
      exact ⟨n, by simpa using h.symm, by omega, hp⟩
    · obtain ⟨m, e, hm, hq⟩ := rtFrom_ok h
      exact ⟨m, e, by omega, hq⟩
theorem rtFrom_no {p a : Int} : ∀ {f n : Nat}, (rtFrom p a f n).2 = false → ∀ m : Nat, n ≤ m → m < n + f → ¬ (m : Int) * m % p = a
  | 0, n, _, m, h1, h2 => by omega
  | f + 1, n, h, m, h1, h2 => by
    unfold rtFrom at h
    split at h
    · cases h
    · rename_i hp
      by_cases c : m = n
      · rw [c]; exact hp
      · exact rtFrom_no h m (by omega) (by omega)
theorem rtFrom_zero {p a : Int} : ∀ {f n : Nat}, (rtFrom p a f n).2 = false → (rtFrom p a f n).1 = 0
  | 0, n, _ => rfl
  | f + 1, n, h => by
    unfold rtFrom at h ⊢
    split at h
    · cases h
    · rename_i hp
      rw [if_neg hp]
      exact rtFrom_zero h
theorem rootFrom_ok {p r : Int} : ∀ {f : Nat} {a : Int}, a ≤ r → r < a + f → (ord p r : Int) = p - 1 → a ≤ rootFrom p f a ∧ rootFrom p f a ≤ r ∧ (ord p (rootFrom p f a) : Int) = p - 1
  | 0, a, h1, h2, _ => by omega
  | f + 1, a, h1, h2, h3 => by
    unfold rootFrom
    split
    · rename_i hp
      exact ⟨Int.le_refl _, by omega, hp⟩
    · rename_i hp
      have hne : r ≠ a := fun e => hp (by rw [← e]; exact h3)
      obtain ⟨g1, g2, g3⟩ := rootFrom_ok (f := f) (a := a + 1) (by omega) (by omega) h3
      exact ⟨by omega, by omega, g3⟩
/-- A field has no divisors of zero. -/
theorem no_zero_div {p x y : Int} (hp : fld p = true) (x0 : 0 < x) (x1 : x < p) (h : x * y % p = 0) : y % p = 0 := by
  obtain ⟨h2, h97⟩ := fld_bd hp
  have hm := inv_mul hp x0 x1
  have e : (x * inv p x) * y % p = y % p := by
    rw [Int.mul_emod, hm, Int.one_mul, Int.emod_emod_of_dvd _ (Int.dvd_refl p)]
  rw [← e, show x * inv p x * y = inv p x * (x * y) from by rw [Int.mul_comm x, Int.mul_assoc], Int.mul_emod, h]
  simp
theorem qroots_mem {p a b c v : Int} : ∀ {n : Nat}, v ∈ qroots p a b c n → 0 ≤ v ∧ v < n ∧ (a * v * v + b * v + c) % p = 0
  | 0, h => by simp [qroots] at h
  | n + 1, h => by
    unfold qroots at h
    rw [List.mem_append] at h
    rcases h with h | h
    · obtain ⟨h1, h2, h3⟩ := qroots_mem h
      exact ⟨h1, by omega, h3⟩
    · split at h
      · rename_i hd
        simp at h
        rw [h]
        exact ⟨by omega, by omega, hd⟩
      · simp at h
theorem qroots_has {p a b c : Int} {m : Nat} (hm : (a * m * m + b * m + c) % p = 0) : ∀ {n : Nat}, m < n → (m : Int) ∈ qroots p a b c n
  | 0, h => by omega
  | n + 1, h => by
    unfold qroots
    rw [List.mem_append]
    by_cases e : m = n
    · subst e
      rw [if_pos hm]
      exact Or.inr (by simp)
    · exact Or.inl (qroots_has hm (by omega))
theorem qroots_rise (p a b c : Int) : ∀ n : Nat, (qroots p a b c n).Pairwise (· < ·)
  | 0 => by simp [qroots]
  | n + 1 => by
    unfold qroots
    rw [List.pairwise_append]
    refine ⟨qroots_rise p a b c n, by split <;> simp, fun x hx y hy => ?_⟩
    have := (qroots_mem hx).2.1
    split at hy
    · simp at hy
      omega
    · simp at hy
theorem diff_roots (a b c u v : Int) : (a * v * v + b * v + c) - (a * u * u + b * u + c) = (v - u) * (a * (v + u) + b) := by grind
theorem diff_lines (a b u v w : Int) : (a * (w + u) + b) - (a * (v + u) + b) = (w - v) * a := by grind
theorem emod_sub {p x y : Int} (hx : x % p = 0) (hy : y % p = 0) : (y - x) % p = 0 := Int.emod_eq_zero_of_dvd (Int.dvd_sub (Int.dvd_of_emod_eq_zero hy) (Int.dvd_of_emod_eq_zero hx))
/-- A quadratic equation with a coefficient other than 0 has at most two roots. -/
theorem quad_two {p a b c : Int} (hp : fld p = true) (ha : 0 ≤ a ∧ a < p) (hb : 0 ≤ b ∧ b < p) (hc : 0 ≤ c ∧ c < p) : (qroots p a b c p.toNat).length ≤ 2 ∨ (a = 0 ∧ b = 0 ∧ c = 0) := by
  by_cases hl : (qroots p a b c p.toNat).length ≤ 2
  · exact Or.inl hl
  · refine Or.inr ?_
    have hr := qroots_rise p a b c p.toNat
    have hm := fun v => @qroots_mem p a b c v p.toNat
    match hq : qroots p a b c p.toNat, hl, hr, hm with
    | u :: v :: w :: _, _, hr, hm =>
      obtain ⟨u0, u1, eu⟩ := hm u (by simp)
      obtain ⟨v0, v1, ev⟩ := hm v (by simp)
      obtain ⟨w0, w1, ew⟩ := hm w (by simp)
      simp only [List.pairwise_cons, List.mem_cons] at hr
      have huv : u < v := hr.1 v (Or.inl rfl)
      have huw : u < w := hr.1 w (Or.inr (Or.inl rfl))
      have hvw : v < w := hr.2.1 w (Or.inl rfl)
      have e1 := no_zero_div hp (x := v - u) (by omega) (by omega) (by rw [← diff_roots a b c u v]; exact emod_sub eu ev)
      have e2 := no_zero_div hp (x := w - u) (by omega) (by omega) (by rw [← diff_roots a b c u w]; exact emod_sub eu ew)
      have e3 := no_zero_div hp (x := w - v) (y := a) (by omega) (by omega) (by rw [← diff_lines a b u v w]; exact emod_sub e1 e2)
      rw [Int.emod_eq_of_lt ha.1 ha.2] at e3
      subst e3
      simp only [Int.zero_mul, Int.zero_add] at e1 eu
      rw [Int.emod_eq_of_lt hb.1 hb.2] at e1
      subst e1
      simp only [Int.zero_mul, Int.zero_add] at eu
      rw [Int.emod_eq_of_lt hc.1 hc.2] at eu
      exact ⟨rfl, rfl, eu⟩
    | [], hl, _, _ => simp at hl
    | [_], hl, _, _ => simp at hl
    | [_, _], hl, _, _ => simp at hl
/-- An element is a square exactly if x * x - a has a root. -/
theorem square_iff {p a x v : Int} (ha : 0 ≤ a ∧ a < p) (hx : x = -a % p) : (1 * v * v + 0 * v + x) % p = 0 ↔ v * v % p = a := by
  have e0 : (1 * v * v + 0 * v + x) % p = (v * v - a) % p := by
    rw [hx, Int.one_mul, Int.zero_mul, Int.add_zero, Int.add_emod, Int.emod_emod_of_dvd _ (Int.dvd_refl p), ← Int.add_emod, Int.sub_eq_add_neg]
  rw [e0]
  constructor
  · intro h
    have : (v * v) % p = a % p := Int.emod_eq_emod_iff_emod_sub_eq_zero.2 h
    rw [this]
    exact Int.emod_eq_of_lt ha.1 ha.2
  · intro h
    rw [Int.sub_emod, h, Int.emod_eq_of_lt ha.1 ha.2]
    simp
end Go.Proofs.YtoajbnkpognoiaaDoor
