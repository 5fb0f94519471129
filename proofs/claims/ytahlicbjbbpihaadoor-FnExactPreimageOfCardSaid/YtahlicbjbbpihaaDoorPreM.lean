/- Conditions on a vector: products of a matrix's rows with vectors; the model's product of vectors. -/
import Derived.Test.YtahlicbjbbpihaaDoorSpNull
import Derived.Test.YtahlicbjbbpihaaDoorKerM
namespace Go.Proofs.YtahlicbjbbpihaaDoor
set_option maxRecDepth 100000
open Go Go.RowKit Go.Deep

def dotQ (p : Int) (a b : List Int) : Nat → Int
  | 0 => 0
  | k + 1 => (dotQ p a b k + a.getD k 0 * b.getD k 0) % p
theorem dotQ_bd {p : Int} (hp : 2 ≤ p) (a b : List Int) : ∀ k, 0 ≤ dotQ p a b k ∧ dotQ p a b k < p
  | 0 => ⟨Int.le_refl _, by show (0 : Int) < p; omega⟩
  | k + 1 => ⟨Int.emod_nonneg _ (by omega), Int.emod_lt_of_pos _ (by omega)⟩
theorem vmul_turn_at {p : Int} {n c : Nat} {M : List (List Int)} {w : List Int} (hM : M.length = n) (hw : w.length = c) : ∀ k, k ≤ c → ∃ acc : List Int, acc.length = n ∧ (∀ j, j < n → acc.getD j 0 = dotQ p (M.getD j []) w k) ∧ comb p acc (w.drop k) ((turn M c).drop k) = vmul p n w (turn M c)
  | 0, _ => ⟨List.replicate n 0, by simp, fun j hj => by rw [repl_getD]; rfl, by rw [List.drop_zero, List.drop_zero]; rfl⟩
  | k + 1, h => by
    obtain ⟨acc, h1, h2, h3⟩ := vmul_turn_at hM hw k (by omega)
    refine ⟨axpy p acc (w.getD k 0) ((turn M c).getD k []), by rw [axpy_len, h1], fun j hj => ?_, ?_⟩
    · rw [axpy_get (by rw [h1]; exact hj), h2 j hj, turn_at (by omega) (by omega)]
      show _ = (dotQ p (M.getD j []) w k + (M.getD j []).getD k 0 * w.getD k 0) % p
      rw [Int.mul_comm]
      rfl
    · rw [← comb_step (by omega) (by rw [turn_len]; omega)]
      exact h3
def cond (p : Int) (M : List (List Int)) (w : List Int) : List Int := M.map fun r => dotQ p r w r.length
theorem cond_len (p : Int) (M : List (List Int)) (w : List Int) : (cond p M w).length = M.length := by simp [cond]
theorem cond_eq {p : Int} {n c : Nat} {M : List (List Int)} {w : List Int} (hM : Mat p n c M) (hw : w.length = c) : vmul p n w (turn M c) = cond p M w := by
  obtain ⟨acc, h1, h2, h3⟩ := vmul_turn_at (p := p) hM.1 hw c (Nat.le_refl c)
  rw [comb_end (by omega)] at h3
  subst h3
  refine ext_getD 0 (by rw [h1, cond_len, hM.1]) fun j hj => ?_
  rw [h1] at hj
  have hj' : j < M.length := by rw [hM.1]; exact hj
  unfold cond
  rw [h2 j hj, map_getD _ _ _ hj' [], (hM.row (by omega)).1]
def conds (p : Int) (N M : List (List Int)) : List (List Int) := N.map (cond p M)
theorem conds_len (p : Int) (N M : List (List Int)) : (conds p N M).length = N.length := by simp [conds]
theorem conds_eq {p : Int} {n c : Nat} {M N : List (List Int)} (hM : Mat p n c M) (hN : ∀ r, r ∈ N → r.length = c) : mmul p n N (turn M c) = conds p N M := by
  refine ext_getD [] (by rw [mmul_len, conds_len]) fun i hi => ?_
  rw [mmul_len] at hi
  unfold mmul conds
  rw [mapIdx_getD _ _ _ hi [], map_getD _ _ _ hi [], cond_eq hM (hN _ (getD_mem' hi []))]
theorem conds_take {p : Int} {N M : List (List Int)} {k : Nat} (h : k < N.length) : conds p (N.take (k + 1)) M = conds p (N.take k) M ++ [cond p M (N.getD k [])] := by
  unfold conds
  rw [List.take_succ_eq_append_getElem h, List.map_append, show N.getD k [] = N[k] by rw [List.getD_eq_getElem?_getD, List.getElem?_eq_getElem h]; rfl]
  rfl
theorem nullB_rref {p : Int} (hf : fld p = true) {n c : Nat} {X : List (List Int)} (h : Mat p n c X) : nullB p (rref p X c) c = nullB p X c := by
  unfold nullB
  rw [rref_rref hf h]
theorem rref_isRed {p : Int} (hf : fld p = true) {n c : Nat} {X : List (List Int)} (h : Mat p n c X) : IsRed p (rref p X c).length c (rref p X c) := by
  have := rref_red hf h
  rwa [← rref_len hf h] at this
theorem cond_end {p : Int} {M : List (List Int)} {w : List Int} {k : Nat} (h : M.length ≤ k) : upd (fun j _ => dotQ p (M.getD j []) w (M.getD j []).length) k (List.replicate M.length 0) = cond p M w := by
  rw [upd_all _ (by rw [List.length_replicate]; exact h)]
  refine ext_getD 0 (by simp [cond]) fun i hi => ?_
  rw [List.length_mapIdx, List.length_replicate] at hi
  unfold cond
  rw [mapIdx_getD _ _ _ (by simpa using hi) 0, map_getD _ _ _ hi []]
set_option maxHeartbeats 800000 in
theorem spDotQ_any (w : World) (B : Nat) (va vb : Value) (p : Int) (xs ys : List Int) (ha : RdS w (fun b => b < B) va xs) (hb : RdS w (fun b => b < B) vb ys) (h1 : 2 ≤ p) (h2 : p ≤ 97) (hl : xs.length = ys.length) (hn : xs.length ≤ 1000000) (hx : ∀ x, x ∈ xs → 0 ≤ x ∧ x < p) (hy : ∀ x, x ∈ ys → 0 ≤ x ∧ x < p) :
    Calls Tryd.prog 76 #[.int .i64 p, va, vb] w fun e w' => e = .returned (.int .i64 (dotQ p xs ys xs.length)) ∧ ∃ n, w' = w.drewN n := by
  obtain ⟨A, cv, rfl, ha'⟩ := ha
  obtain ⟨A2, c2, rfl, hb'⟩ := hb
  have HA := Lib.hid (show RdS w (fun b => b < B) (.slice A xs.length cv) xs from ⟨A, cv, rfl, ha'⟩)
  have HB := Lib.hid (show RdS w (fun b => b < B) (.slice A2 ys.length c2) ys from ⟨A2, c2, rfl, hb'⟩)
  have HL := Lib.hid hl
  have HX := Lib.hid hx
  have HY := Lib.hid hy
  clear ha' hb' hl hx hy
  go_enter Tryd.func76, Tryd.ntmps76
  go_wp2
  go_loopw [11, 7, 8] (fun i a _ wr => ∃ k n : Nat, k ≤ xs.length ∧ i = .int .i64 k ∧ a = .int .i64 (dotQ p xs ys k) ∧ wr = w.drewN n) (fun i _ _ _ => xs.length - (intOf i).toNat)
  case atStart => exact ⟨0, 0, Nat.zero_le _, rfl, rfl, rfl⟩
  case round =>
    obtain ⟨k, n, hk, rfl, rfl, rfl⟩ := hrel
    by_cases hlt : k < xs.length
    · have hlt2 : k < ys.length := by have := HL.out; omega
      obtain ⟨b, o, rfl, hb3, hc⟩ := HA.out.at hlt
      obtain ⟨b', o', rfl, hb4, hc'⟩ := HB.out.at hlt2
      obtain ⟨hx0, hx1⟩ := HX.out _ (getD_mem' hlt 0)
      obtain ⟨hy0, hy1⟩ := HY.out _ (getD_mem' hlt2 0)
      obtain ⟨ha0, ha1⟩ := dotQ_bd h1 xs ys k
      have HS := Lib.hid (show dotQ p xs ys (k + 1) = (dotQ p xs ys k + xs.getD k 0 * ys.getD k 0) % p from rfl)
      clear hb3 hb4
      generalize xs.getD k 0 = x at hc hx0 hx1 HS
      generalize ys.getD k 0 = y at hc' hy0 hy1 HS
      generalize dotQ p xs ys k = a at ha0 ha1 HS
      have i1 : (k : Int) < xs.length := by omega
      have i2 : (k : Int) < ys.length := by omega
      have hm0 : 0 ≤ x * y := Int.mul_nonneg hx0 hy0
      have hm1 : x * y ≤ 97 * 97 := Int.mul_le_mul (by omega) (by omega) hy0 (by omega)
      have hp0 : ¬ p = 0 := by omega
      have hw1 : IntKind.i64.wrap (x * y) = x * y := Go.IntWalk.i64_in _ ⟨by omega, by omega⟩
      have hw2 : IntKind.i64.wrap (a + x * y) = a + x * y := Go.IntWalk.i64_in _ ⟨by omega, by omega⟩
      have htm : (a + x * y).tmod p = (a + x * y) % p := Int.tmod_eq_emod_of_nonneg (by omega)
      go_wp2
      go_quiet (fail)
      clear hw1 hw2 htm
      go_wp2
      go_roundw
      case rel => exact ⟨k + 1, _, by omega, by go_num, by rw [HS.out], rfl⟩
      case measure => simp [intOf]; omega
    · obtain rfl : k = xs.length := by omega
      go_wp2
      go_ret
      exact ⟨rfl, _, rfl⟩
end Go.Proofs.YtahlicbjbbpihaaDoor
