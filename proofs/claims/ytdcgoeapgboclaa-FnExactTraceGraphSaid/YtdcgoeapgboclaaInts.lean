/- Slices of ints: read, compared, marked, held. The words in which the laws' helpers and the functions' results are said. -/
import Derived.Test.YtdcgoeapgboclaaProg
import Derived.WalkKit
import Derived.Handy
import Derived.Below
import Derived.Lib.Hide
import Derived.Laws.OwnMore
import Derived.Deep.QuietTactic
import Derived.BigQuiet
namespace Go.Proofs.Ytdcgoeapgboclaa
set_option maxRecDepth 100000
open Go Go.RowKit

theorem below_drewN {B n : Nat} {w w' : World} (h : Below B w w') : Below B w (w'.drewN n) := ⟨h.os, h.tape, h.output, h.size, h.block⟩
theorem below_undrewN {B n : Nat} {w w' : World} (h : Below B (w.drewN n) w') : Below B w w' := ⟨h.os, h.tape, h.output, h.size, h.block⟩
/-- The slice v holds the ints xs, in a block below B. -/
def RdI (w : World) (B : Nat) (v : Value) (xs : List Int) : Prop :=
  ∃ A c, v = .slice A xs.length c ∧ xs.length ≤ c ∧ ∀ k, k < xs.length → ∃ b o, A = some ⟨b, o, none⟩ ∧ b < B ∧ w.cell? ⟨b, o + k, none⟩ = some (.int .i64 (xs.getD k 0))
/-- The slice v is the call's own row of the ints xs, in a block from base on. -/
def OwI (w : World) (base : Nat) (v : Value) (xs : List Int) : Prop := w.ownsRow base 3 1 v xs.length (xs.map (Value.int .i64))

theorem RdI.below {w w' : World} {B : Nat} {v : Value} {xs : List Int} (h : RdI w B v xs) {B' : Nat} (hb : Below B' w w') (hB : B ≤ B') : RdI w' B v xs := by
  obtain ⟨A, c, e, kc_c, h⟩ := h
  refine ⟨A, c, e, kc_c, fun k hk => ?_⟩
  obtain ⟨b, o, e2, hlt, hc⟩ := h k hk
  exact ⟨b, o, e2, hlt, (hb.cell (show (⟨b, o + k, none⟩ : Addr).block < B' from Nat.lt_of_lt_of_le hlt hB)).trans hc⟩
theorem RdI.mono {w : World} {B B' : Nat} {v : Value} {xs : List Int} (h : RdI w B v xs) (hB : B ≤ B') : RdI w B' v xs := by
  obtain ⟨A, c, e, kc_c, h⟩ := h
  refine ⟨A, c, e, kc_c, fun k hk => ?_⟩
  obtain ⟨b, o, e2, hlt, hc⟩ := h k hk
  exact ⟨b, o, e2, Nat.lt_of_lt_of_le hlt hB, hc⟩
theorem OwI.nil (w : World) (base : Nat) : OwI w base (.slice none 0 0) [] := World.ownsRow_nil _ _ _ _
theorem OwI.read {w : World} {base : Nat} {v : Value} {xs : List Int} (h : OwI w base v xs) : RdI w w.heap.size v xs := by
  obtain ⟨h1, h2⟩ := h
  rcases h2 with ⟨rfl, h0⟩ | ⟨g, cap, cur, rfl, hb, hg, hn, hm, hs, ht⟩
  · refine ⟨none, 0, by rw [h0], by omega, fun k hk => by omega⟩
  · refine ⟨some ⟨g, 0, none⟩, cap, rfl, by omega, fun k hk => ⟨g, 0, rfl, (Array.getElem?_eq_some_iff.1 hg).1, ?_⟩⟩
    have hlt : k < cur.size := by omega
    have e : cur.toList[k]? = (xs.map (Value.int .i64))[k]? := by
      rw [← ht, List.getElem?_take_of_lt (by omega)]
    simp only [World.cell?, hg, Nat.zero_add]
    rw [Array.getElem?_toList] at e
    rw [e, List.getElem?_map, List.getElem?_eq_getElem hk]
    simp [List.getD_eq_getElem?_getD, List.getElem?_eq_getElem hk]
theorem OwI.len {w : World} {base : Nat} {v : Value} {xs : List Int} (h : OwI w base v xs) : xs.length ≤ 9223372036854775807 := by
  obtain ⟨h1, h2⟩ := h
  rcases h2 with ⟨rfl, h0⟩ | ⟨g, cap, cur, rfl, hb, hg, hn, hm, hs, ht⟩
  · omega
  · unfold maxLen at hm
    omega
theorem OwI.below {w w' : World} {base : Nat} {v : Value} {xs : List Int} (h : OwI w base v xs) (hb : Below w.heap.size w w') : OwI w' base v xs := by
  obtain ⟨h1, h2⟩ := h
  refine ⟨h1, ?_⟩
  rcases h2 with h0 | ⟨g, cap, cur, rfl, hb', hg, hn⟩
  · exact Or.inl h0
  · exact Or.inr ⟨g, cap, cur, rfl, hb', (hb.block g (Array.getElem?_eq_some_iff.1 hg).1).trans hg, hn⟩

theorem eq_of_take {xs ys : List Int} {k : Nat} (h : xs.take k = ys.take k) (hk : k = xs.length) (hl : xs.length = ys.length) : xs = ys := by
  rw [List.take_of_length_le (by omega), List.take_of_length_le (by omega)] at h
  exact h
theorem take_snoc {xs : List Int} {k : Nat} (hk : k < xs.length) : xs.take (k + 1) = xs.take k ++ [xs.getD k 0] := by
  rw [List.take_add_one, List.getElem?_eq_getElem hk, List.getD_eq_getElem?_getD, List.getElem?_eq_getElem hk]
  rfl
theorem getD_of_eq {xs ys : List Int} (h : xs = ys) (k : Nat) : xs.getD k 0 = ys.getD k 0 := by rw [h]

set_option maxHeartbeats 400000 in
theorem eqIntS_any (w : World) (B : Nat) (va vb : Value) (xs ys : List Int) (ha : RdI w B va xs) (hb : RdI w B vb ys) (hl : xs.length ≤ 9223372036854775807) :
    Calls Try.prog 23 #[va, vb] w fun e w' => e = .returned (.bool (decide (xs = ys))) ∧ ∃ n, w' = w.drewN n := by
  obtain ⟨A, c, rfl, kc_c, ha⟩ := ha
  obtain ⟨A', c', rfl, kc_cp, hb⟩ := hb
  have HA := Lib.hid ha
  have HB := Lib.hid hb
  clear ha hb
  by_cases hlen : xs.length = ys.length
  · have HL := Lib.hid hlen
    have hbl : (xs.length != ys.length) = false := by simp [hlen]
    have hbl2 : ((xs.length : Int) != (ys.length : Int)) = false := by simp [hlen]
    clear hlen
    go_enter Try.func23, Try.ntmps23
    go_wp2
    go_loopw [5] (fun i wr => ∃ k n : Nat, k ≤ xs.length ∧ i = .int .i64 k ∧ wr = w.drewN n ∧ Hid (xs.take k = ys.take k)) (fun i _ => xs.length - (intOf i).toNat)
    case atStart => exact ⟨0, 0, Nat.zero_le _, rfl, rfl, Lib.hid rfl⟩
    case round =>
      obtain ⟨k, n, hk, rfl, rfl, HT⟩ := hrel
      by_cases hlt : k < xs.length
      · have hlt2 : k < ys.length := by have := HL.out; omega
        obtain ⟨b, o, rfl, hbl3, hc⟩ := HA.out k hlt
        obtain ⟨b', o', rfl, hbl4, hc'⟩ := HB.out k hlt2
        have HX := Lib.hid (take_snoc hlt)
        have HY := Lib.hid (take_snoc hlt2)
        generalize hx : xs.getD k 0 = x at hc HX
        generalize hy : ys.getD k 0 = y at hc' HY
        have HXX := Lib.hid hx
        have HYY := Lib.hid hy
        clear hx hy
        have i0 : (0 : Int) ≤ k := by omega
        have i1 : (k : Int) < xs.length := by omega
        have i2 : (k : Int) < ys.length := by omega
        by_cases hxy : x = y
        · have hq : (x != y) = false := by simp [hxy]
          have HXY := Lib.hid hxy
          clear hxy
          go_wp2
          go_quiet (fail)
          go_wp2
          go_roundw
          case rel => exact ⟨k + 1, _, by omega, by go_num, rfl, Lib.hid (by rw [HX.out, HY.out, HT.out, HXY.out])⟩
          case measure => simp [intOf]; omega
        · have hq : (x != y) = true := by simp [hxy]
          have HN := Lib.hid (show decide (xs = ys) = false by
            simp
            intro h
            have := getD_of_eq h k
            rw [HXX.out, HYY.out] at this
            exact hxy this)
          clear hxy
          go_wp2
          go_quiet (fail)
          go_wp2
          go_ret
          rw [HN.out]
          exact ⟨rfl, _, World.drewN_drewN _ _ _⟩
      · have HE := Lib.hid (show decide (xs = ys) = true by
          simp
          exact eq_of_take HT.out (by omega) HL.out)
        go_wp2
        go_ret
        rw [HE.out]
        exact ⟨rfl, _, rfl⟩
  · have HN := Lib.hid (show decide (xs = ys) = false by simp; intro h; exact hlen (by rw [h]))
    have hbl : (xs.length != ys.length) = true := by simp [hlen]
    have hbl2 : ((xs.length : Int) != (ys.length : Int)) = true := by simp; omega
    clear hlen
    go_enter Try.func23, Try.ntmps23
    go_wp2
    go_ret
    rw [HN.out]
    exact ⟨rfl, 0, rfl⟩

/-- What markIntS lays: k, k+1, .. -/
def marks (k : Int) : Nat → List Int
  | 0 => []
  | n + 1 => marks k n ++ [k + n]
theorem marks_len (k : Int) : ∀ n, (marks k n).length = n
  | 0 => rfl
  | n + 1 => by simp [marks, marks_len k n]
theorem marks_get (k : Int) : ∀ n i, i < n → (marks k n).getD i 0 = k + i
  | 0, i, h => by omega
  | n + 1, i, h => by
    by_cases c : i < n
    · have := marks_get k n i c
      rw [List.getD_eq_getElem?_getD] at this ⊢
      rw [show marks k (n + 1) = marks k n ++ [k + n] from rfl, List.getElem?_append_left (by rw [marks_len]; exact c)]
      exact this
    · have hi : i = n := by omega
      subst hi
      rw [List.getD_eq_getElem?_getD, show marks k (i + 1) = marks k i ++ [k + i] from rfl, List.getElem?_append_right (by rw [marks_len]; omega), marks_len]
      simp

set_option maxHeartbeats 400000 in
theorem heldIntS_any (w : World) (B : Nat) (v : Value) (k : Int) (n : Nat) (hv : RdI w B v (marks k n)) (h0 : 0 ≤ k) (hl : k + n ≤ 9223372036854775807) :
    Calls Try.prog 25 #[v, .int .i64 k] w fun e w' => e = .returned (.int .i64 (k + n)) ∧ w = w' := by
  obtain ⟨A, c, rfl, kc_c, hv⟩ := hv
  rw [marks_len] at hv ⊢
  have HV := Lib.hid hv
  clear hv
  go_enter Try.func25, Try.ntmps25
  go_wp2
  go_loop [1, 5] (fun tk ti => ∃ i : Nat, i ≤ n ∧ ti = .int .i64 i ∧ tk = .int .i64 (k + i)) (fun _ ti => n - (intOf ti).toNat)
  case atStart => exact ⟨0, Nat.zero_le _, rfl, by go_num⟩
  case round =>
    obtain ⟨i, hi, rfl, rfl⟩ := hrel
    by_cases hlt : i < n
    · obtain ⟨b, o, rfl, hb, hc⟩ := HV.out i hlt
      rw [marks_get k n i hlt] at hc
      go_wp2
      go_round
      case rel => exact ⟨i + 1, by omega, by go_num, by go_num⟩
      case measure => simp [intOf]; omega
    · have hin : i = n := by omega
      subst hin
      go_wp2
      go_ret
      exact ⟨rfl, rfl⟩

theorem OwI.cases {w : World} {base : Nat} {v : Value} {xs : List Int} (h : OwI w base v xs) : (v = .slice none 0 0 ∧ xs = []) ∨ ∃ g cap, v = .slice (some ⟨g, 0, none⟩) xs.length cap ∧ base ≤ g ∧ g < w.heap.size := by
  obtain ⟨h1, h2⟩ := h
  rcases h2 with ⟨rfl, h0⟩ | ⟨g, cap, cur, rfl, hb, hg, hn⟩
  · exact Or.inl ⟨rfl, List.eq_nil_of_length_eq_zero h0⟩
  · exact Or.inr ⟨g, cap, rfl, hb, (Array.getElem?_eq_some_iff.1 hg).1⟩
theorem OwI.store {w : World} {base g cap n : Nat} {xs : List Int} (h : OwI w base (.slice (some ⟨g, 0, none⟩) n cap) xs) (hn : n = xs.length) (i : Nat) (u : Int) : OwI (w.setCell ⟨g, i, none⟩ (.int .i64 u)) base (.slice (some ⟨g, 0, none⟩) n cap) (xs.set i u) := by
  subst hn
  have := (World.ownsRow.stored h i (.int .i64 u)).1
  unfold OwI
  rw [List.length_set, List.map_set]
  exact this
theorem OwI.cell {w : World} {base g cap n : Nat} {xs : List Int} (h : OwI w base (.slice (some ⟨g, 0, none⟩) n cap) xs) (hn : n = xs.length) (i : Nat) (hi : i < n) : w.cell? ⟨g, i, none⟩ = some (.int .i64 (xs.getD i 0)) ∧ w.frozen? ⟨g, i, none⟩ = false := by
  subst hn
  refine ⟨?_, World.ownsRow.frozenAt h i⟩
  rw [World.ownsRow.cellAt h i (by omega), List.getElem?_map, List.getElem?_eq_getElem hi, List.getD_eq_getElem?_getD, List.getElem?_eq_getElem hi]
  rfl
theorem marks_step (k : Int) (xs : List Int) (i : Nat) (hi : i < xs.length) : (marks k i ++ xs.drop i).set i (k + i) = marks k (i + 1) ++ xs.drop (i + 1) := by
  rw [List.set_append_right _ _ (by rw [marks_len]; omega), marks_len, Nat.sub_self, List.drop_eq_getElem_cons hi, List.set_cons_zero]
  show marks k i ++ _ = (marks k i ++ [k + i]) ++ _
  simp

set_option maxHeartbeats 400000 in
theorem markIntS_any (w : World) (base : Nat) (v : Value) (xs : List Int) (k : Int) (hv : OwI w base v xs) (h0 : 0 ≤ k) (hl : k + xs.length ≤ 9223372036854775807) :
    Calls Try.prog 24 #[v, .int .i64 k] w fun e w' => e = .returned (.int .i64 (k + xs.length)) ∧ Below base w w' ∧ w'.heap.size = w.heap.size ∧ OwI w' base v (marks k xs.length) := by
  rcases hv.cases with ⟨rfl, rfl⟩ | ⟨g, cap, rfl, hb, hg⟩
  · go_enter Try.func24, Try.ntmps24
    go_wp2
    refine wp_loop_rounds 1 ?_
    rw [rounds_succ]
    go_wp2
    go_ret
    exact ⟨by simp, Below.refl _ _, rfl, hv⟩
  · have HV := Lib.hid hv
    clear hv
    go_enter Try.func24, Try.ntmps24
    go_wp2
    go_loopw [1, 5] (fun tk ti wr => ∃ i : Nat, i ≤ xs.length ∧ ti = .int .i64 i ∧ tk = .int .i64 (k + i) ∧ Below base w wr ∧ Hid (wr.heap.size = w.heap.size) ∧ Hid (OwI wr base (.slice (some ⟨g, 0, none⟩) xs.length cap) (marks k i ++ xs.drop i))) (fun _ ti _ => xs.length - (intOf ti).toNat)
    case atStart => exact ⟨0, Nat.zero_le _, rfl, by go_num, Below.refl _ _, Lib.hid rfl, HV⟩
    case round =>
      obtain ⟨i, hi, rfl, rfl, hbel, HS, HO⟩ := hrel
      have HLN := Lib.hid (show xs.length = (marks k i ++ xs.drop i).length by rw [List.length_append, marks_len, List.length_drop]; omega)
      by_cases hlt : i < xs.length
      · obtain ⟨hc, hf⟩ := HO.out.cell HLN.out i hlt
        generalize (marks k i ++ xs.drop i).getD i 0 = z at hc
        have HST := Lib.hid (HO.out.store HLN.out i (k + i))
        go_wp2
        go_roundw
        case rel => exact ⟨i + 1, by omega, by go_num, by go_num, hbel.setCell hb _, Lib.hid (by simpa using HS.out), by
          have := HST.out
          rw [marks_step k xs i hlt] at this
          exact this⟩
        case measure => simp [intOf]; omega
      · have hin : i = xs.length := by omega
        have HF := Lib.hid (show marks k i ++ xs.drop i = marks k xs.length by rw [hin]; simp)
        have HI := Lib.hid hin
        clear hin
        go_wp2
        go_ret
        refine ⟨congrArg (fun j : Nat => Ending.returned (.int .i64 (k + (j : Int)))) HI.out, hbel, HS.out, ?_⟩
        rw [← HF.out]
        exact HO.out
end Go.Proofs.Ytdcgoeapgboclaa
