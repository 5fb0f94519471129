/- slices.Grow, slices.Concat for rows of nodes. -/
import Derived.Test.YtbeaihjiablcbaaNdA
namespace Go.Proofs.Ytbeaihjiablcbaa
set_option maxRecDepth 100000
open Go Go.RowKit Go.Deep

/-- A slice of slices of nodes that is read. -/
def RdGN (w : World) (B : Nat) (v : Value) (rows : List (List Nd)) : Prop :=
  ∃ A c, v = .slice A rows.length c ∧ ∀ r, r < rows.length → ∃ b o A3 c3, A = some ⟨b, o, none⟩ ∧ b < B ∧ w.cell? ⟨b, o + r, none⟩ = some (.slice A3 (rows.getD r []).length c3) ∧ RdN w (fun q => q < B) (.slice A3 (rows.getD r []).length c3) (rows.getD r [])
theorem RdGN.below {w w' : World} {B B' : Nat} {v : Value} {rows : List (List Nd)} (h : RdGN w B v rows) (hb : Below B' w w') (hB : B ≤ B') : RdGN w' B v rows := by
  obtain ⟨A, c, e, h⟩ := h
  refine ⟨A, c, e, fun r hr => ?_⟩
  obtain ⟨b, o, A3, c3, e1, h1, h2, h3⟩ := h r hr
  exact ⟨b, o, A3, c3, e1, h1, (hb.cell (p := ⟨b, o + r, none⟩) (Nat.lt_of_lt_of_le h1 hB)).trans h2, h3.below hb hB⟩
theorem RdGN.at {w : World} {B : Nat} {A : Option Addr} {n c : Nat} {rows : List (List Nd)} (h : RdGN w B (.slice A n c) rows) {r : Nat} (hr : r < rows.length) : ∃ b o A3 c3, A = some ⟨b, o, none⟩ ∧ b < B ∧ w.cell? ⟨b, o + r, none⟩ = some (.slice A3 (rows.getD r []).length c3) ∧ RdN w (fun q => q < B) (.slice A3 (rows.getD r []).length c3) (rows.getD r []) := by
  obtain ⟨A', c', e, h⟩ := h
  obtain ⟨rfl, -, -⟩ := sliceEq e
  exact h r hr
def totN (rows : List (List Nd)) : Nat := (rows.map List.length).sum
theorem totN_take {rows : List (List Nd)} {k : Nat} (h : k < rows.length) : totN (rows.take (k + 1)) = totN (rows.take k) + (rows.getD k []).length := by
  unfold totN
  rw [take_one h [], List.map_append, List.sum_append]
  simp
theorem totN_take_le (rows : List (List Nd)) (k : Nat) : totN (rows.take k) ≤ totN rows := by
  unfold totN
  conv => rhs; rw [← List.take_append_drop k rows, List.map_append, List.sum_append]
  omega
theorem flatN_take {rows : List (List Nd)} {k : Nat} (h : k < rows.length) : (rows.take (k + 1)).flatten = (rows.take k).flatten ++ rows.getD k [] := by
  rw [take_one h [], List.flatten_append]
  simp only [List.flatten_cons, List.flatten_nil, List.append_nil]
theorem flatN_len (rows : List (List Nd)) : rows.flatten.length = totN rows := by simp [totN, List.length_flatten]
set_option maxHeartbeats 1600000 in
theorem growN_any (w : World) (n : Nat) (hn : n ≤ 1000000) :
    Calls Try.prog 48 #[.slice none 0 0, .int .i64 n] w fun e w' => ∃ v, e = .returned v ∧ Below w.heap.size w w' ∧ RowN w' w.heap.size v [] := by
  obtain ⟨i0, hi0, hz0, hz1, hz2⟩ := info_parts infoN
  rcases Nat.eq_zero_or_pos n with rfl | h0
  · go_enter Try.func48, Try.ntmps48
    go_wp2
    go_ret
    exact ⟨_, rfl, Below.refl _ _, World.ownsRow_nil _ _ _ _⟩
  · have h0I : (0 : Int) < n := by omega
    go_enter Try.func48, Try.ntmps48
    go_wp2_with (at_builtin; refine Lib.wpList_append_run _ (by rfl) (.tmp 20) (.tmp 21) _ _ (by rfl) _ _ (by rfl) (by rfl) _ _ (Lib.run_append_nil_zeros w _ _ _ tNd i0 _ .i64 .i64 Try.underlying26 Try.underlying3 hi0 hz0 n h0 (by rw [hz1]; omega) (by omega) (by rw [hz2]; omega)) ?_)
    have hge := grownCap_ge w n 0 tNd
    have hle := grownCap_le_maxLen w n 0 tNd (by unfold maxLen; omega)
    refine bodyPost_ret (v := .slice (some ⟨w.heap.size, 0, none⟩) 0 (grownCap w n 0 tNd)) (by simp [results, Try.results48, go_sem]) rfl ?_
    refine ⟨_, rfl, ((Below.refl _ _).alloc (Nat.le_refl _) _).drew, rfl, Or.inr ⟨w.heap.size, grownCap w n 0 tNd, _, rfl, Nat.le_refl _, heap_alloc_new w _, Nat.zero_le _, hle, ?_, by simp [ncells]⟩⟩
    rw [Array.size_append, size_zeroCells, size_zeroCells]
    simp []
    omega
set_option maxHeartbeats 1600000 in
/-- Rows of nodes joined: the program's library. -/
theorem concatN_any (w : World) (B : Nat) (v : Value) (rows : List (List Nd)) (hv : RdGN w B v rows) (hB : B ≤ w.heap.size) (hn : rows.length ≤ 1000000) (ht : totN rows ≤ 1000000) :
    Calls Try.prog 35 #[v] w fun e w' => ∃ v', e = .returned v' ∧ Below w.heap.size w w' ∧ RowN w' w.heap.size v' rows.flatten := by
  obtain ⟨A, c, rfl, -⟩ := id hv
  have HV := Lib.hid hv
  have HB := Lib.hid hB
  clear hv hB
  go_enter Try.func35, Try.ntmps35
  go_wp2
  go_loopw [11, 3, 5] (fun i z _ wr => wr = w ∧ ∃ k m : Nat, k ≤ rows.length ∧ i = .int .i64 k ∧ z = .int .i64 m ∧ Hid (m = totN (rows.take k))) (fun i _ _ _ => rows.length - (intOf i).toNat)
  case atStart => exact ⟨rfl, 0, 0, Nat.zero_le _, rfl, rfl, Lib.hid (by simp [totN])⟩
  case round =>
    obtain ⟨h0, k, m, hk, rfl, rfl, HM⟩ := hrel
    obtain rfl : w = wr := h0.symm
    clear h0
    have hmt : m ≤ 1000000 := by have := HM.out; have := totN_take_le rows k; omega
    by_cases hlt : k < rows.length
    · obtain ⟨b1, o1, A3, c3, rfl, hb1, hc1, hrd⟩ := HV.out.at hlt
      have HNX := Lib.hid (totN_take hlt)
      have hkI : (k : Int) < (rows.length : Int) := by omega
      have hl2 : m + (rows.getD k []).length ≤ 1000000 := by have := HM.out; have := totN_take hlt; have := totN_take_le rows (k + 1); omega
      have hs0 : 0 ≤ (m : Int) + ((rows.getD k []).length : Int) := by omega
      clear hrd hb1
      generalize (rows.getD k []).length = n1 at hc1 HNX hl2 hs0
      go_wp2
      go_roundw
      case rel => exact ⟨trivial, k + 1, m + n1, by omega, by go_num, by go_num, Lib.hid (by rw [HNX.out, ← HM.out])⟩
      case measure => simp [intOf]; omega
    · have HE := Lib.hid (show m = totN rows by rw [HM.out, List.take_of_length_le (by omega)])
      clear HM hk
      go_wp2_with fail
      refine (growN_any w m hmt).mono ?_
      rintro e w1 ⟨v1, rfl, b1, o1⟩
      have HB1 := Lib.hid b1
      have HO1 := Lib.hid o1
      clear b1 o1
      go_wp2
      go_loopw [27, 6, 8] (fun i o _ wr => ∃ k : Nat, k ≤ rows.length ∧ i = .int .i64 k ∧ Hid (Below w.heap.size w wr) ∧ Hid (RowN wr w.heap.size o (rows.take k).flatten)) (fun i _ _ _ => rows.length - (intOf i).toNat)
      case atStart => exact ⟨0, Nat.zero_le _, rfl, HB1, HO1⟩
      case round =>
        obtain ⟨k, hk, rfl, HB2, HO⟩ := hrel
        by_cases hlt : k < rows.length
        · obtain ⟨b1, o1, A3, c3, rfl, hb1, hc1, hrd⟩ := (HV.out.below HB2.out HB.out).at hlt
          have HRD := Lib.hid hrd
          have HNX := Lib.hid (flatN_take hlt)
          have HLE := Lib.hid (show (rows.take k).flatten.length + (rows.getD k []).length ≤ 1000000 by have := totN_take hlt; have := totN_take_le rows (k + 1); rw [flatN_len]; omega)
          have hkI : (k : Int) < (rows.length : Int) := by omega
          clear hrd hb1
          generalize rows.getD k [] = y at hc1 HRD HNX HLE
          generalize (rows.take k).flatten = acc at HO HNX HLE
          go_wp2_with (at_builtin; refine wpList_joinN (by rfl) (.tmp 31) (.tmp 32) (by rfl) _ w.heap.size _ acc y _ A3 _ c3 (by rfl) HO.out (by rfl) HRD.out HB2.out.size HLE.out ?_; intro v2 w2 hj2 hb2; have HJ2 := Lib.hid hj2; have HB3 := Lib.hid (HB2.out.trans hb2); clear hj2 hb2)
          go_wp2
          go_roundw
          case rel => exact ⟨k + 1, by omega, by go_num, HB3, Lib.hid (by rw [HNX.out]; exact HJ2.out)⟩
          case measure => simp [intOf]; omega
        · have HF := Lib.hid (show (rows.take k).flatten = rows.flatten by rw [List.take_of_length_le (by omega)])
          rw [HF.out] at HO
          go_wp2
          go_ret
          exact ⟨_, rfl, HB2.out, HO.out⟩
end Go.Proofs.Ytbeaihjiablcbaa
