/- Plain arithmetic of prime fields up to 97: which numbers are fields, powers, inverses, orders, roots. It imports nothing of the program. -/
namespace Go.Proofs.Ytdcgoeapgboclaa
set_option maxRecDepth 100000
def fld (p : Int) : Bool := decide (2 ≤ p) && decide (p ≤ 97) && (decide (p = 2) || !decide (p % 2 = 0)) && (decide (p = 3) || !decide (p % 3 = 0)) && (decide (p = 5) || !decide (p % 5 = 0)) && (decide (p = 7) || !decide (p % 7 = 0))

theorem fld_iff (p : Int) : fld p = true ↔ 2 ≤ p ∧ p ≤ 97 ∧ (p = 2 ∨ p % 2 ≠ 0) ∧ (p = 3 ∨ p % 3 ≠ 0) ∧ (p = 5 ∨ p % 5 ≠ 0) ∧ (p = 7 ∨ p % 7 ≠ 0) := by
  simp [fld, and_assoc]
theorem fld_bd {p : Int} (h : fld p = true) : 2 ≤ p ∧ p ≤ 97 := by
  have := (fld_iff p).1 h
  omega
theorem fld_false {p : Int} (h : ¬ (2 ≤ p ∧ p ≤ 97 ∧ (p = 2 ∨ p % 2 ≠ 0) ∧ (p = 3 ∨ p % 3 ≠ 0) ∧ (p = 5 ∨ p % 5 ≠ 0) ∧ (p = 7 ∨ p % 7 ≠ 0))) : fld p = false := by
  cases e : fld p with
  | false => rfl
  | true => exact absurd ((fld_iff p).1 e) h
theorem fld_out {p : Int} (h : p < 2 ∨ 97 < p) : fld p = false := fld_false (by omega)

theorem sq_le9 {k : Int} (h : k * k ≤ 97) : k ≤ 9 := by
  by_cases c : k ≤ 9
  · exact c
  · have : 10 * 10 ≤ k * k := Int.mul_le_mul (by omega) (by omega) (by omega) (by omega)
    omega
theorem fld_of_div {p k : Int} (h2 : 2 ≤ k) (hk : k * k ≤ p) (hp : p ≤ 97) (hd : p % k = 0) : fld p = false := by
  have h9 := sq_le9 (Int.le_trans hk hp)
  have hc : k = 2 ∨ k = 3 ∨ k = 4 ∨ k = 5 ∨ k = 6 ∨ k = 7 ∨ k = 8 ∨ k = 9 := by omega
  apply fld_false
  rcases hc with rfl | rfl | rfl | rfl | rfl | rfl | rfl | rfl <;> omega
def fldN (p : Nat) : Bool := decide (2 ≤ p) && decide (p ≤ 97) && (decide (p = 2) || !decide (p % 2 = 0)) && (decide (p = 3) || !decide (p % 3 = 0)) && (decide (p = 5) || !decide (p % 5 = 0)) && (decide (p = 7) || !decide (p % 7 = 0))
theorem noneB : ((List.range 98).all fun p => (List.range 12).all fun k => decide (p < 2) || decide (k < 2) || decide (k * k ≤ p) || ((List.range k).any fun j => decide (2 ≤ j) && decide (p % j = 0)) || fldN p) = true := by decide +kernel
theorem noneN (p : Nat) (hp : p < 98) (h2 : 2 ≤ p) (k : Nat) (hk : k < 12) (k2 : 2 ≤ k) (hkk : p < k * k) (hn : ∀ j, j < k → 2 ≤ j → p % j ≠ 0) : fldN p = true := by
  have h := List.all_eq_true.1 (List.all_eq_true.1 noneB p (List.mem_range.2 hp)) k (List.mem_range.2 hk)
  simp only [Bool.or_eq_true, decide_eq_true_eq, List.any_eq_true, List.mem_range, Bool.and_eq_true] at h
  rcases h with (((h | h) | h) | ⟨j, hj, h2j, e⟩) | h
  · omega
  · omega
  · omega
  · exact absurd e (hn j hj h2j)
  · exact h
theorem fld_of {p : Nat} (h : fldN p = true) : fld (p : Int) = true := by
  simp [fldN] at h
  rw [fld_iff]
  omega
theorem fld_of_none {p k : Int} (hp2 : 2 ≤ p) (hp : p ≤ 97) (h2 : 2 ≤ k) (h11 : k ≤ 11) (hk : p < k * k) (hn : ∀ j : Int, 2 ≤ j → j < k → p % j ≠ 0) : fld p = true := by
  obtain ⟨P, rfl⟩ := Int.eq_ofNat_of_zero_le (show 0 ≤ p by omega)
  obtain ⟨K, rfl⟩ := Int.eq_ofNat_of_zero_le (show 0 ≤ k by omega)
  refine fld_of (noneN P (by omega) (by omega) K (by omega) (by omega) ?_ ?_)
  · have e : ((K * K : Nat) : Int) = (K : Int) * K := by simp
    omega
  · intro j hj h2j e
    exact hn j (by omega) (by omega) (by omega)

/-- Is the number an element of the field? -/
def el (p a : Int) : Bool := decide (0 ≤ a) && decide (a < p)
theorem el_iff (p a : Int) : el p a = true ↔ 0 ≤ a ∧ a < p := by simp [el]
theorem el_not (p a : Int) : el p a = false ↔ ¬ (0 ≤ a ∧ a < p) := by
  rw [← el_iff]
  simp

/-- The power in the field. -/
def pw (p a : Int) (n : Nat) : Int := a ^ n % p
theorem pw_bd {p : Int} (hp : 2 ≤ p) (a : Int) (n : Nat) : 0 ≤ pw p a n ∧ pw p a n < p := ⟨Int.emod_nonneg _ (by omega), Int.emod_lt_of_pos _ (by omega)⟩
theorem pw_zero {p : Int} (hp : 2 ≤ p) (a : Int) : pw p a 0 = 1 := by
  unfold pw
  rw [Int.pow_zero]
  exact Int.emod_eq_of_lt (by omega) (by omega)
theorem pw_one {p a : Int} (h0 : 0 ≤ a) (h : a < p) : pw p a 1 = a := by
  unfold pw
  rw [Int.pow_succ, Int.pow_zero, Int.one_mul]
  exact Int.emod_eq_of_lt h0 h
theorem pw_succ (p a : Int) (n : Nat) : pw p a (n + 1) = pw p a n * a % p := by
  unfold pw
  rw [Int.pow_succ]
  simp [Int.mul_emod]
theorem pow_emod (p a : Int) : ∀ n : Nat, (a % p) ^ n % p = a ^ n % p
  | 0 => by simp
  | n + 1 => by
    rw [Int.pow_succ, Int.pow_succ, Int.mul_emod, pow_emod p a n, Int.emod_emod_of_dvd _ (Int.dvd_refl p), ← Int.mul_emod]
theorem pow_two_mul (a : Int) : ∀ n : Nat, a ^ (2 * n) = (a * a) ^ n
  | 0 => by simp
  | n + 1 => by
    rw [show 2 * (n + 1) = 2 * n + 1 + 1 from by omega, Int.pow_succ, Int.pow_succ, Int.pow_succ, pow_two_mul a n, Int.mul_assoc]
/-- One round of squaring and multiplying: an even exponent. -/
theorem pw_even (p r a : Int) (m : Nat) : r * (a * a % p) ^ m % p = r * a ^ (2 * m) % p := by
  rw [pow_two_mul, Int.mul_emod, pow_emod, ← Int.mul_emod]
theorem pw_odd (p r a : Int) (m : Nat) : (r * a % p) * (a * a % p) ^ m % p = r * a ^ (2 * m + 1) % p := by
  rw [Int.pow_succ, pow_two_mul, Int.mul_emod, pow_emod, Int.emod_emod_of_dvd _ (Int.dvd_refl p), ← Int.mul_emod]
  congr 1
  rw [Int.mul_assoc, Int.mul_comm a]

theorem fermatB : ((List.range 98).all fun p => !fldN p || (List.range p).all fun a => decide (a = 0) || decide (a ^ (p - 1) % p = 1)) = true := by decide +kernel
theorem fermatN (p : Nat) (hp : p < 98) (hf : fldN p = true) (a : Nat) (ha : a < p) (h0 : 0 < a) : a ^ (p - 1) % p = 1 := by
  have h := List.all_eq_true.1 fermatB p (List.mem_range.2 hp)
  rw [hf] at h
  have h' := List.all_eq_true.1 (by simpa using h : ((List.range p).all fun a => decide (a = 0) || decide (a ^ (p - 1) % p = 1)) = true) a (List.mem_range.2 ha)
  simp only [Bool.or_eq_true, decide_eq_true_eq] at h'
  omega
theorem fldN_of {p : Nat} (h : fld (p : Int) = true) : fldN p = true := by
  have := (fld_iff _).1 h
  simp [fldN]
  omega
/-- Fermat's little theorem for these fields, tried one by one. -/
theorem fermat {p a : Int} (hp : fld p = true) (h0 : 0 < a) (h : a < p) : pw p a (p.toNat - 1) = 1 := by
  obtain ⟨h2, h97⟩ := fld_bd hp
  obtain ⟨P, rfl⟩ := Int.eq_ofNat_of_zero_le (show 0 ≤ p by omega)
  obtain ⟨A, rfl⟩ := Int.eq_ofNat_of_zero_le (show 0 ≤ a by omega)
  have := fermatN P (by omega) (fldN_of hp) A (by omega) (by omega)
  unfold pw
  rw [Int.toNat_natCast]
  have e : ((A ^ (P - 1) % P : Nat) : Int) = (1 : Nat) := by rw [this]
  simpa using e

/-- The inverse in the field. -/
def inv (p a : Int) : Int := pw p a (p.toNat - 2)
theorem inv_bd {p : Int} (hp : 2 ≤ p) (a : Int) : 0 ≤ inv p a ∧ inv p a < p := pw_bd hp a _
theorem inv_mul {p a : Int} (hp : fld p = true) (h0 : 0 < a) (h : a < p) : a * inv p a % p = 1 := by
  have hf := fermat hp h0 h
  obtain ⟨h2, h97⟩ := fld_bd hp
  rw [show p.toNat - 1 = p.toNat - 2 + 1 from by omega, pw_succ] at hf
  rw [Int.mul_comm]
  exact hf
theorem inv_pos {p a : Int} (hp : fld p = true) (h0 : 0 < a) (h : a < p) : 1 ≤ inv p a := by
  obtain ⟨h2, h97⟩ := fld_bd hp
  have hb := inv_bd h2 a
  have hm := inv_mul hp h0 h
  by_cases c : inv p a = 0
  · rw [c] at hm
    simp at hm
  · omega
theorem inv_unique {p a x : Int} (hp : fld p = true) (h0 : 0 < a) (h : a < p) (x0 : 0 ≤ x) (x1 : x < p) (hx : a * x % p = 1) : x = inv p a := by
  obtain ⟨h2, h97⟩ := fld_bd hp
  have hb := inv_bd h2 a
  have hm := inv_mul hp h0 h
  have e1 : x * (a * inv p a) % p = x := by
    rw [Int.mul_emod, hm, Int.mul_one, Int.emod_emod_of_dvd _ (Int.dvd_refl p)]
    exact Int.emod_eq_of_lt x0 x1
  have e2 : x * (a * inv p a) % p = inv p a := by
    rw [← Int.mul_assoc, Int.mul_comm x a, Int.mul_emod, hx, Int.one_mul, Int.emod_emod_of_dvd _ (Int.dvd_refl p)]
    exact Int.emod_eq_of_lt hb.1 hb.2
  rw [← e1, e2]

/-- The order: the least n from 1 on with a to the n equal to 1, found with fuel. -/
def ordFrom (p a : Int) : Nat → Nat → Nat
  | 0, n => n
  | f + 1, n => if pw p a n = 1 then n else ordFrom p a f (n + 1)
def ord (p a : Int) : Nat := ordFrom p a (p.toNat - 1) 1
theorem ordFrom_hit {p a : Int} {f n : Nat} (h : pw p a n = 1) : ordFrom p a f n = n := by
  cases f with
  | zero => rfl
  | succ f => simp [ordFrom, h]
theorem ordFrom_miss {p a : Int} {f n : Nat} (h : pw p a n ≠ 1) : ordFrom p a (f + 1) n = ordFrom p a f (n + 1) := by simp [ordFrom, h]
theorem ordFrom_le (p a : Int) : ∀ f n, ordFrom p a f n ≤ n + f
  | 0, _ => Nat.le_refl _
  | f + 1, n => by
    unfold ordFrom
    split
    · omega
    · have := ordFrom_le p a f (n + 1)
      omega
theorem ordFrom_ge (p a : Int) : ∀ f n, n ≤ ordFrom p a f n
  | 0, _ => Nat.le_refl _
  | f + 1, n => by
    unfold ordFrom
    split
    · omega
    · have := ordFrom_ge p a f (n + 1)
      omega
theorem ord_bd {p : Int} (hp : 2 ≤ p) (a : Int) : 1 ≤ ord p a ∧ (ord p a : Int) ≤ p := by
  have h1 := ordFrom_le p a (p.toNat - 1) 1
  have h2 := ordFrom_ge p a (p.toNat - 1) 1
  unfold ord
  omega

/-- The least primitive root, tried one by one. -/
def powN (p a n : Nat) : Nat := a ^ n % p
def ordFromN (p a : Nat) : Nat → Nat → Nat
  | 0, n => n
  | f + 1, n => if a ^ n % p = 1 then n else ordFromN p a f (n + 1)
theorem ordFrom_nat (p a : Nat) : ∀ f n, ordFrom (p : Int) (a : Int) f n = ordFromN p a f n
  | 0, _ => rfl
  | f + 1, n => by
    have e : pw (p : Int) (a : Int) n = ((a ^ n % p : Nat) : Int) := by unfold pw; simp
    unfold ordFrom ordFromN
    rw [e, ordFrom_nat p a f (n + 1)]
    have : ((a ^ n % p : Nat) : Int) = 1 ↔ a ^ n % p = 1 := by omega
    simp only [this]
theorem rootB : ((List.range 98).all fun p => !fldN p || (List.range p).any fun a => decide (0 < a) && decide (ordFromN p a (p - 1) 1 = p - 1)) = true := by decide +kernel
theorem rootN (p : Nat) (hp : p < 98) (hf : fldN p = true) : ((List.range p).any fun a => decide (0 < a) && decide (ordFromN p a (p - 1) 1 = p - 1)) = true := by
  have h := List.all_eq_true.1 rootB p (List.mem_range.2 hp)
  rw [hf] at h
  simpa using h
/-- The field has an element other than 0 whose order is p - 1. -/
theorem root_ex {p : Int} (hp : fld p = true) : ∃ a : Int, 1 ≤ a ∧ a < p ∧ (ord p a : Int) = p - 1 := by
  obtain ⟨h2, h97⟩ := fld_bd hp
  obtain ⟨P, rfl⟩ := Int.eq_ofNat_of_zero_le (show 0 ≤ p by omega)
  have := rootN P (by omega) (fldN_of hp)
  simp only [List.any_eq_true, List.mem_range, Bool.and_eq_true, decide_eq_true_eq] at this
  obtain ⟨a, ha, h0, ho⟩ := this
  refine ⟨a, by omega, by omega, ?_⟩
  unfold ord
  rw [ordFrom_nat, Int.toNat_natCast, ho]
  omega
/-- The least element from a on, with fuel, whose order is p - 1. -/
def rootFrom (p : Int) : Nat → Int → Int
  | 0, a => a
  | f + 1, a => if (ord p a : Int) = p - 1 then a else rootFrom p f (a + 1)
theorem rootFrom_hit {p a : Int} {f : Nat} (h : (ord p a : Int) = p - 1) : rootFrom p f a = a := by
  cases f with
  | zero => rfl
  | succ f => simp [rootFrom, h]
theorem rootFrom_miss {p a : Int} {f : Nat} (h : (ord p a : Int) ≠ p - 1) : rootFrom p (f + 1) a = rootFrom p f (a + 1) := by simp [rootFrom, h]

/-- The least exponent from n on, with fuel. -/
def logFrom (p b a : Int) : Nat → Nat → Int × Bool
  | 0, _ => (0, false)
  | f + 1, n => if pw p b n = a then (n, true) else logFrom p b a f (n + 1)
theorem logFrom_hit {p b a : Int} {f n : Nat} (h : pw p b n = a) : logFrom p b a (f + 1) n = ((n : Int), true) := by simp [logFrom, h]
theorem logFrom_miss {p b a : Int} {f n : Nat} (h : pw p b n ≠ a) : logFrom p b a (f + 1) n = logFrom p b a f (n + 1) := by simp [logFrom, h]
/-- The least square root from x on, with fuel. -/
def rtFrom (p a : Int) : Nat → Nat → Int × Bool
  | 0, _ => (0, false)
  | f + 1, x => if (x : Int) * x % p = a then (x, true) else rtFrom p a f (x + 1)
theorem rtFrom_hit {p a : Int} {f x : Nat} (h : (x : Int) * x % p = a) : rtFrom p a (f + 1) x = ((x : Int), true) := by simp [rtFrom, h]
theorem rtFrom_miss {p a : Int} {f x : Nat} (h : (x : Int) * x % p ≠ a) : rtFrom p a (f + 1) x = rtFrom p a f (x + 1) := by simp [rtFrom, h]
/-- The roots of a quadratic among 0..n-1. -/
def qroots (p a b c : Int) : Nat → List Int
  | 0 => []
  | n + 1 => qroots p a b c n ++ if (a * n * n + b * n + c) % p = 0 then [(n : Int)] else []
theorem qroots_len (p a b c : Int) : ∀ n, (qroots p a b c n).length ≤ n
  | 0 => Nat.le_refl _
  | n + 1 => by
    have := qroots_len p a b c n
    unfold qroots
    split <;> simp <;> omega
theorem horner (a b c x : Int) : (a * x + b) * x + c = a * x * x + b * x + c := by rw [Int.add_mul]
end Go.Proofs.Ytdcgoeapgboclaa
