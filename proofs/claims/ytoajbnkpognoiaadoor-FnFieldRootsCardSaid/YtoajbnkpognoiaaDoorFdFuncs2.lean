/- What the exported functions on prime fields return, continued: powers, logarithms, square roots, primitive roots. -/
import Derived.Test.YtoajbnkpognoiaaDoorFdFuncs
namespace Go.Proofs.YtoajbnkpognoiaaDoor
open Go Go.RowKit

def resLog (p b a : Int) : Int × Bool := if elems p [b, a] then logFrom p b a p.toNat 0 else (0, false)
set_option maxHeartbeats 400000 in
theorem spec_DiscreteLog (p b a : Int) (w : World) : Calls Tryd.prog 15 #[.int .i64 p, .int .i64 b, .int .i64 a] w fun e w' => e = .returned (.tuple #[.int .i64 (resLog p b a).1, .bool (resLog p b a).2]) ∧ w = w' := by
  cases h : elems p [b, a] with
  | true =>
    obtain ⟨hp, ⟨h1, h2⟩, hz⟩ := elems_cases h
    obtain ⟨b1, b2⟩ := hz b (by simp)
    obtain ⟨a1, a2⟩ := hz a (by simp)
    have HE := Lib.hid (show logFrom p b a p.toNat 0 = resLog p b a from by simp [resLog, h])
    have HP := Lib.hid hp
    have HH := Lib.hid h
    clear h hp hz
    go_enter Tryd.func15, Tryd.ntmps15
    go_wp2_with fail
    refine (fdTwo_t p b a _ HP.out ⟨b1, b2⟩ ⟨a1, a2⟩).mono ?_
    rintro e w' ⟨rfl, rfl⟩
    go_wp2
    go_loop [8, 9] (fun tx tn => ∃ (n f : Nat) (x : Int), n ≤ 97 ∧ 0 ≤ x ∧ x < p ∧ tn = .int .i64 n ∧ tx = .int .i64 x ∧ Hid (x = pw p b n) ∧ Hid (n + f = p.toNat) ∧ Hid (logFrom p b a f n = resLog p b a)) (fun _ tn => (p - intOf tn).toNat)
    case atStart => exact ⟨0, p.toNat, 1, by omega, by omega, by omega, rfl, rfl, Lib.hid (pw_zero h1 b).symm, Lib.hid (by omega), HE⟩
    case round =>
      obtain ⟨n, f, x, n97, x1, x2, rfl, rfl, HX, HN, HO⟩ := hrel
      obtain ⟨q1, q2⟩ := mul_bd h2 x1 x2 b1 b2
      by_cases hlt : (n : Int) < p
      · have HF := Lib.hid (show f = f - 1 + 1 from by have := HN.out; omega)
        by_cases he : x = a
        · have HR := Lib.hid (show resLog p b a = ((n : Int), true) from by
            rw [← HO.out, HF.out]
            exact logFrom_hit (by rw [← HX.out]; exact he))
          have hb : (x == a) = true := by simp [he]
          clear he
          go_wp2
          go_ret2
          rw [HR.out]
          exact ⟨rfl, rfl⟩
        · have HR := Lib.hid (show logFrom p b a (f - 1) (n + 1) = resLog p b a from by
            rw [← HO.out]
            conv => rhs; rw [HF.out]
            exact (logFrom_miss (by rw [← HX.out]; exact he)).symm)
          have hb : (x == a) = false := by simp [he]
          clear he
          go_wp2
          go_round
          case rel => exact ⟨n + 1, f - 1, x * b % p, by omega, Int.emod_nonneg _ (by omega), Int.emod_lt_of_pos _ (by omega), by go_num, rfl, Lib.hid (by rw [pw_succ, ← HX.out]), Lib.hid (by have := HN.out; omega), HR⟩
          case measure => simp [intOf]; omega
      · have HR := Lib.hid (show resLog p b a = (0, false) from by
          have := HN.out
          have f0 : f = 0 := by omega
          rw [← HO.out, f0]
          rfl)
        go_wp2
        go_ret2
        rw [HR.out]
        exact ⟨rfl, rfl⟩
  | false =>
    have HE := Lib.hid (show resLog p b a = (0, false) from by simp [resLog, h])
    have HH := Lib.hid (two_bad h)
    clear h
    go_enter Tryd.func15, Tryd.ntmps15
    go_wp2_with fail
    refine (fdTwo_f p b a _ HH.out).mono ?_
    rintro e w' ⟨rfl, rfl⟩
    go_wp2
    go_ret2
    rw [HE.out]
    exact ⟨rfl, rfl⟩
set_option maxHeartbeats 400000 in
theorem impl_DiscreteLog (p b a : Int) (w : World) (ht : Tab w) : Calls Tryd.prog 14 #[.int .i64 p, .int .i64 b, .int .i64 a] w fun e w' => e = .returned (.tuple #[.int .i64 (resLog p b a).1, .bool (resLog p b a).2]) ∧ Below w.heap.size w w' := by
  have HT := Lib.hid ht
  clear ht
  cases h : elems p [b, a] with
  | true =>
    obtain ⟨hp, ⟨h1, h2⟩, hz⟩ := elems_cases h
    obtain ⟨b1, b2⟩ := hz b (by simp)
    obtain ⟨a1, a2⟩ := hz a (by simp)
    have HE := Lib.hid (show logFrom p b a p.toNat 0 = resLog p b a from by simp [resLog, h])
    have HP := Lib.hid hp
    have HH := Lib.hid h
    clear h hp hz
    go_enter Tryd.func14, Tryd.ntmps14
    go_wp2_with fail
    refine (areElements_any p [b, a] _ _ _ _ (HT.out.below ((Below.refl _ _).alloc (Nat.le_refl _) _)) rfl (by simp) (Row.alloc w [b, a] _)).mono ?_
    rintro e w' ⟨rfl, rfl⟩
    rw [HH.out]
    go_wp2
    go_loop [8, 17] (fun tx tn => ∃ (n f : Nat) (x : Int), n ≤ 97 ∧ 0 ≤ x ∧ x < p ∧ tn = .int .i64 n ∧ tx = .int .i64 x ∧ Hid (x = pw p b n) ∧ Hid (n + f = p.toNat) ∧ Hid (logFrom p b a f n = resLog p b a)) (fun _ tn => (p - intOf tn).toNat)
    case atStart => exact ⟨0, p.toNat, 1, by omega, by omega, by omega, rfl, rfl, Lib.hid (pw_zero h1 b).symm, Lib.hid (by omega), HE⟩
    case round =>
      obtain ⟨n, f, x, n97, x1, x2, rfl, rfl, HX, HN, HO⟩ := hrel
      obtain ⟨q1, q2⟩ := mul_bd h2 x1 x2 b1 b2
      by_cases hlt : (n : Int) < p
      · have HF := Lib.hid (show f = f - 1 + 1 from by have := HN.out; omega)
        by_cases he : x = a
        · have HR := Lib.hid (show resLog p b a = ((n : Int), true) from by
            rw [← HO.out, HF.out]
            exact logFrom_hit (by rw [← HX.out]; exact he))
          have hb : (x == a) = true := by simp [he]
          clear he
          go_wp2
          go_ret2
          rw [HR.out]
          exact ⟨rfl, (Below.refl _ _).alloc (Nat.le_refl _) _⟩
        · have HR := Lib.hid (show logFrom p b a (f - 1) (n + 1) = resLog p b a from by
            rw [← HO.out]
            conv => rhs; rw [HF.out]
            exact (logFrom_miss (by rw [← HX.out]; exact he)).symm)
          have hb : (x == a) = false := by simp [he]
          clear he
          go_wp2
          go_round
          case rel => exact ⟨n + 1, f - 1, x * b % p, by omega, Int.emod_nonneg _ (by omega), Int.emod_lt_of_pos _ (by omega), by go_num, rfl, Lib.hid (by rw [pw_succ, ← HX.out]), Lib.hid (by have := HN.out; omega), HR⟩
          case measure => simp [intOf]; omega
      · have HR := Lib.hid (show resLog p b a = (0, false) from by
          have := HN.out
          have f0 : f = 0 := by omega
          rw [← HO.out, f0]
          rfl)
        go_wp2
        go_ret2
        rw [HR.out]
        exact ⟨rfl, (Below.refl _ _).alloc (Nat.le_refl _) _⟩
  | false =>
    have HE := Lib.hid (show resLog p b a = (0, false) from by simp [resLog, h])
    have HH := Lib.hid h
    clear h
    go_enter Tryd.func14, Tryd.ntmps14
    go_wp2_with fail
    refine (areElements_any p [b, a] _ _ _ _ (HT.out.below ((Below.refl _ _).alloc (Nat.le_refl _) _)) rfl (by simp) (Row.alloc w [b, a] _)).mono ?_
    rintro e w' ⟨rfl, rfl⟩
    rw [HH.out]
    go_wp2
    go_ret2
    rw [HE.out]
    exact ⟨rfl, (Below.refl _ _).alloc (Nat.le_refl _) _⟩

def resRt (p a : Int) : Int × Bool := if elems p [a] then rtFrom p a p.toNat 0 else (0, false)
set_option maxHeartbeats 400000 in
theorem spec_SquareRoot (p a : Int) (w : World) : Calls Tryd.prog 18 #[.int .i64 p, .int .i64 a] w fun e w' => e = .returned (.tuple #[.int .i64 (resRt p a).1, .bool (resRt p a).2]) ∧ w = w' := by
  cases h : elems p [a] with
  | true =>
    obtain ⟨hp, ⟨h1, h2⟩, hz⟩ := elems_cases h
    obtain ⟨a1, a2⟩ := hz a (by simp)
    have HE := Lib.hid (show rtFrom p a p.toNat 0 = resRt p a from by simp [resRt, h])
    have HP := Lib.hid hp
    have HH := Lib.hid h
    clear h hp hz
    go_enter Tryd.func18, Tryd.ntmps18
    go_wp2_with fail
    refine (fdTwo_t p a 0 _ HP.out ⟨a1, a2⟩ ⟨by omega, by omega⟩).mono ?_
    rintro e w' ⟨rfl, rfl⟩
    go_wp2
    go_loop [6] (fun tn => ∃ (n f : Nat), n ≤ 97 ∧ tn = .int .i64 n ∧ Hid (n + f = p.toNat) ∧ Hid (rtFrom p a f n = resRt p a)) (fun tn => (p - intOf tn).toNat)
    case atStart => exact ⟨0, p.toNat, by omega, rfl, Lib.hid (by omega), HE⟩
    case round =>
      obtain ⟨n, f, n97, rfl, HN, HO⟩ := hrel
      by_cases hlt : (n : Int) < p
      · obtain ⟨q1, q2⟩ := mul_bd h2 (by omega : (0 : Int) ≤ n) hlt (by omega : (0 : Int) ≤ n) hlt
        have HF := Lib.hid (show f = f - 1 + 1 from by have := HN.out; omega)
        by_cases he : (n : Int) * n % p = a
        · have HR := Lib.hid (show resRt p a = ((n : Int), true) from by
            rw [← HO.out, HF.out]
            exact rtFrom_hit he)
          have hb : ((n : Int) * n % p == a) = true := by simp [he]
          clear he
          go_wp2
          go_ret2
          rw [HR.out]
          exact ⟨rfl, rfl⟩
        · have HR := Lib.hid (show rtFrom p a (f - 1) (n + 1) = resRt p a from by
            rw [← HO.out]
            conv => rhs; rw [HF.out]
            exact (rtFrom_miss he).symm)
          have hb : ((n : Int) * n % p == a) = false := by simp [he]
          clear he
          go_wp2
          go_round
          case rel => exact ⟨n + 1, f - 1, by omega, by go_num, Lib.hid (by have := HN.out; omega), HR⟩
          case measure => simp [intOf]; omega
      · have HR := Lib.hid (show resRt p a = (0, false) from by
          have := HN.out
          have f0 : f = 0 := by omega
          rw [← HO.out, f0]
          rfl)
        go_wp2
        go_ret2
        rw [HR.out]
        exact ⟨rfl, rfl⟩
  | false =>
    have HE := Lib.hid (show resRt p a = (0, false) from by simp [resRt, h])
    have HH := Lib.hid (one_bad h)
    clear h
    go_enter Tryd.func18, Tryd.ntmps18
    go_wp2_with fail
    refine (fdTwo_f p a 0 _ HH.out).mono ?_
    rintro e w' ⟨rfl, rfl⟩
    go_wp2
    go_ret2
    rw [HE.out]
    exact ⟨rfl, rfl⟩
set_option maxHeartbeats 400000 in
theorem impl_SquareRoot (p a : Int) (w : World) (ht : Tab w) : Calls Tryd.prog 17 #[.int .i64 p, .int .i64 a] w fun e w' => e = .returned (.tuple #[.int .i64 (resRt p a).1, .bool (resRt p a).2]) ∧ Below w.heap.size w w' := by
  have HT := Lib.hid ht
  clear ht
  cases h : elems p [a] with
  | true =>
    obtain ⟨hp, ⟨h1, h2⟩, hz⟩ := elems_cases h
    obtain ⟨a1, a2⟩ := hz a (by simp)
    have HE := Lib.hid (show rtFrom p a p.toNat 0 = resRt p a from by simp [resRt, h])
    have HP := Lib.hid hp
    have HH := Lib.hid h
    clear h hp hz
    go_enter Tryd.func17, Tryd.ntmps17
    go_wp2_with fail
    refine (areElements_any p [a] _ _ _ _ (HT.out.below ((Below.refl _ _).alloc (Nat.le_refl _) _)) rfl (by simp) (Row.alloc w [a] _)).mono ?_
    rintro e w' ⟨rfl, rfl⟩
    rw [HH.out]
    go_wp2
    go_loop [13] (fun tn => ∃ (n f : Nat), n ≤ 97 ∧ tn = .int .i64 n ∧ Hid (n + f = p.toNat) ∧ Hid (rtFrom p a f n = resRt p a)) (fun tn => (p - intOf tn).toNat)
    case atStart => exact ⟨0, p.toNat, by omega, rfl, Lib.hid (by omega), HE⟩
    case round =>
      obtain ⟨n, f, n97, rfl, HN, HO⟩ := hrel
      by_cases hlt : (n : Int) < p
      · obtain ⟨q1, q2⟩ := mul_bd h2 (by omega : (0 : Int) ≤ n) hlt (by omega : (0 : Int) ≤ n) hlt
        have HF := Lib.hid (show f = f - 1 + 1 from by have := HN.out; omega)
        by_cases he : (n : Int) * n % p = a
        · have HR := Lib.hid (show resRt p a = ((n : Int), true) from by
            rw [← HO.out, HF.out]
            exact rtFrom_hit he)
          have hb : ((n : Int) * n % p == a) = true := by simp [he]
          clear he
          go_wp2
          go_ret2
          rw [HR.out]
          exact ⟨rfl, (Below.refl _ _).alloc (Nat.le_refl _) _⟩
        · have HR := Lib.hid (show rtFrom p a (f - 1) (n + 1) = resRt p a from by
            rw [← HO.out]
            conv => rhs; rw [HF.out]
            exact (rtFrom_miss he).symm)
          have hb : ((n : Int) * n % p == a) = false := by simp [he]
          clear he
          go_wp2
          go_round
          case rel => exact ⟨n + 1, f - 1, by omega, by go_num, Lib.hid (by have := HN.out; omega), HR⟩
          case measure => simp [intOf]; omega
      · have HR := Lib.hid (show resRt p a = (0, false) from by
          have := HN.out
          have f0 : f = 0 := by omega
          rw [← HO.out, f0]
          rfl)
        go_wp2
        go_ret2
        rw [HR.out]
        exact ⟨rfl, (Below.refl _ _).alloc (Nat.le_refl _) _⟩
  | false =>
    have HE := Lib.hid (show resRt p a = (0, false) from by simp [resRt, h])
    have HH := Lib.hid h
    clear h
    go_enter Tryd.func17, Tryd.ntmps17
    go_wp2_with fail
    refine (areElements_any p [a] _ _ _ _ (HT.out.below ((Below.refl _ _).alloc (Nat.le_refl _) _)) rfl (by simp) (Row.alloc w [a] _)).mono ?_
    rintro e w' ⟨rfl, rfl⟩
    rw [HH.out]
    go_wp2
    go_ret2
    rw [HE.out]
    exact ⟨rfl, (Below.refl _ _).alloc (Nat.le_refl _) _⟩

def resRoot (p : Int) : Int × Bool := if fld p then (rootFrom p p.toNat 1, true) else (0, false)
set_option maxHeartbeats 400000 in
theorem spec_PrimitiveRoot (p : Int) (w : World) : Calls Tryd.prog 20 #[.int .i64 p] w fun e w' => e = .returned (.tuple #[.int .i64 (resRoot p).1, .bool (resRoot p).2]) ∧ w = w' := by
  cases h : fld p with
  | true =>
    obtain ⟨h1, h2⟩ := fld_bd h
    have HE := Lib.hid (show resRoot p = (rootFrom p p.toNat 1, true) from by simp [resRoot, h])
    have HP := Lib.hid h
    clear h
    go_enter Tryd.func20, Tryd.ntmps20
    go_wp2_with fail
    refine (fdGood_any p _).mono ?_
    rintro e w' ⟨rfl, rfl⟩
    rw [HP.out]
    go_wp2_with fail
    go_loop [4] (fun tn => ∃ (k : Int) (f : Nat), 1 ≤ k ∧ k < p ∧ tn = .int .i64 k ∧ Hid (k + f = p + 1) ∧ Hid (rootFrom p f k = rootFrom p p.toNat 1) ∧ Hid (∃ r : Int, k ≤ r ∧ r < p ∧ (ord p r : Int) = p - 1)) (fun tn => (p - intOf tn).toNat)
    case atStart => exact ⟨1, p.toNat, by omega, by omega, rfl, Lib.hid (by omega), Lib.hid rfl, Lib.hid (root_ex HP.out)⟩
    case round =>
      obtain ⟨k, f, k1, k2, rfl, HN, HO, HX⟩ := hrel
      have o1 := (ord_bd h1 k).1
      have o2 := (ord_bd h1 k).2
      have HF := Lib.hid (show f = f - 1 + 1 from by have := HN.out; omega)
      by_cases he : (ord p k : Int) = p - 1
      · have HR := Lib.hid (show rootFrom p p.toNat 1 = k from by
          rw [← HO.out]
          exact rootFrom_hit he)
        have hb : ((ord p k : Int) != p - 1) = false := by simp [he]
        clear he
        go_wp2_with fail
        refine (fdOrder_any p k _ HP.out (by omega) k2).mono ?_
        rintro e w' ⟨rfl, rfl⟩
        go_wp2
        go_ret2
        rw [HE.out, HR.out]
        exact ⟨rfl, rfl⟩
      · have HR := Lib.hid (show rootFrom p (f - 1) (k + 1) = rootFrom p p.toNat 1 from by
          rw [← HO.out]
          conv => rhs; rw [HF.out]
          exact (rootFrom_miss he).symm)
        have HY := Lib.hid (show ∃ r : Int, k + 1 ≤ r ∧ r < p ∧ (ord p r : Int) = p - 1 from by
          obtain ⟨r, r1, r2, r3⟩ := HX.out
          refine ⟨r, ?_, r2, r3⟩
          by_cases c : r = k
          · rw [c] at r3
            exact absurd r3 he
          · omega)
        have k3 : k + 1 < p := by
          obtain ⟨r, r1, r2, _⟩ := HY.out
          omega
        have hb : ((ord p k : Int) != p - 1) = true := by simp [he]
        clear he
        go_wp2_with fail
        refine (fdOrder_any p k _ HP.out (by omega) k2).mono ?_
        rintro e w' ⟨rfl, rfl⟩
        go_wp2
        go_round
        case rel => exact ⟨k + 1, f - 1, by omega, k3, rfl, Lib.hid (by have := HN.out; have := HF.out; omega), HR, HY⟩
        case measure => simp [intOf]; omega
  | false =>
    have HE := Lib.hid (show resRoot p = (0, false) from by simp [resRoot, h])
    have HP := Lib.hid h
    clear h
    go_enter Tryd.func20, Tryd.ntmps20
    go_wp2_with fail
    refine (fdGood_any p _).mono ?_
    rintro e w' ⟨rfl, rfl⟩
    rw [HP.out]
    go_wp2
    go_ret2
    rw [HE.out]
    exact ⟨rfl, rfl⟩
set_option maxHeartbeats 400000 in
theorem impl_PrimitiveRoot (p : Int) (w : World) (ht : Tab w) : Calls Tryd.prog 19 #[.int .i64 p] w fun e w' => e = .returned (.tuple #[.int .i64 (resRoot p).1, .bool (resRoot p).2]) ∧ w = w' := by
  have HT := Lib.hid ht
  clear ht
  cases h : fld p with
  | true =>
    obtain ⟨h1, h2⟩ := fld_bd h
    have HE := Lib.hid (show resRoot p = (rootFrom p p.toNat 1, true) from by simp [resRoot, h])
    have HP := Lib.hid h
    clear h
    go_enter Tryd.func19, Tryd.ntmps19
    go_wp2_with fail
    refine (isField_any p _ HT.out).mono ?_
    rintro e w' ⟨rfl, rfl⟩
    rw [HP.out]
    go_wp2_with fail
    go_loop [4] (fun tn => ∃ (k : Int) (f : Nat), 1 ≤ k ∧ k < p ∧ tn = .int .i64 k ∧ Hid (k + f = p + 1) ∧ Hid (rootFrom p f k = rootFrom p p.toNat 1) ∧ Hid (∃ r : Int, k ≤ r ∧ r < p ∧ (ord p r : Int) = p - 1)) (fun tn => (p - intOf tn).toNat)
    case atStart => exact ⟨1, p.toNat, by omega, by omega, rfl, Lib.hid (by omega), Lib.hid rfl, Lib.hid (root_ex HP.out)⟩
    case round =>
      obtain ⟨k, f, k1, k2, rfl, HN, HO, HX⟩ := hrel
      have o1 := (ord_bd h1 k).1
      have o2 := (ord_bd h1 k).2
      have HF := Lib.hid (show f = f - 1 + 1 from by have := HN.out; omega)
      by_cases he : (ord p k : Int) = p - 1
      · have HR := Lib.hid (show rootFrom p p.toNat 1 = k from by
          rw [← HO.out]
          exact rootFrom_hit he)
        have hb : ((ord p k : Int) == p - 1) = true := by simp [he]
        clear he
        go_wp2_with fail
        refine (orderIn_any p k _ HP.out (by omega) k2).mono ?_
        rintro e w' ⟨rfl, rfl⟩
        go_wp2
        go_ret2
        rw [HE.out, HR.out]
        exact ⟨rfl, rfl⟩
      · have HR := Lib.hid (show rootFrom p (f - 1) (k + 1) = rootFrom p p.toNat 1 from by
          rw [← HO.out]
          conv => rhs; rw [HF.out]
          exact (rootFrom_miss he).symm)
        have HY := Lib.hid (show ∃ r : Int, k + 1 ≤ r ∧ r < p ∧ (ord p r : Int) = p - 1 from by
          obtain ⟨r, r1, r2, r3⟩ := HX.out
          refine ⟨r, ?_, r2, r3⟩
          by_cases c : r = k
          · rw [c] at r3
            exact absurd r3 he
          · omega)
        have k3 : k + 1 < p := by
          obtain ⟨r, r1, r2, _⟩ := HY.out
          omega
        have hb : ((ord p k : Int) == p - 1) = false := by simp [he]
        clear he
        go_wp2_with fail
        refine (orderIn_any p k _ HP.out (by omega) k2).mono ?_
        rintro e w' ⟨rfl, rfl⟩
        go_wp2
        go_round
        case rel => exact ⟨k + 1, f - 1, by omega, k3, rfl, Lib.hid (by have := HN.out; have := HF.out; omega), HR, HY⟩
        case measure => simp [intOf]; omega
  | false =>
    have HE := Lib.hid (show resRoot p = (0, false) from by simp [resRoot, h])
    have HP := Lib.hid h
    clear h
    go_enter Tryd.func19, Tryd.ntmps19
    go_wp2_with fail
    refine (isField_any p _ HT.out).mono ?_
    rintro e w' ⟨rfl, rfl⟩
    rw [HP.out]
    go_wp2
    go_ret2
    rw [HE.out]
    exact ⟨rfl, rfl⟩
end Go.Proofs.YtoajbnkpognoiaaDoor
