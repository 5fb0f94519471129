/- slices.Equal at ints. -/
import Derived.Test.YtiiloioobmkicaaDoorSpG
namespace Go.Proofs.YtiiloioobmkicaaDoor
set_option maxRecDepth 100000
open Go Go.RowKit Go.Deep

set_option maxHeartbeats 400000 in
theorem equal_any (w : World) (B : Nat) (va vb : Value) (xs ys : List Int) (ha : RdS w (fun b => b < B) va xs) (hb : RdS w (fun b => b < B) vb ys) (hl : xs.length ≤ 9223372036854775807) :
    Calls Tryd.prog 62 #[va, vb] w fun e w' => e = .returned (.bool (decide (xs = ys))) ∧ ∃ n, w' = w.drewN n := by
  obtain ⟨A, c, rfl, kc_c, ha⟩ := ha
  obtain ⟨A', c', rfl, kc_cp, hb⟩ := hb
  have HA := Lib.hid ha
  have HB := Lib.hid hb
  clear ha hb
  by_cases hlen : xs.length = ys.length
  · have HL := Lib.hid hlen
    have hbl : (xs.length != ys.length) = false := by simp [hlen]
    have hbl2 : ((xs.length : Int) != (ys.length : Int)) = false := by simp [hlen]
    clear hlen
    go_enter Tryd.func62, Tryd.ntmps62
    go_wp2
    go_loopw [13, 5] (fun i _ wr => ∃ k n : Nat, k ≤ xs.length ∧ i = .int .i64 k ∧ wr = w.drewN n ∧ Hid (xs.take k = ys.take k)) (fun i _ _ => xs.length - (intOf i).toNat)
    case atStart => exact ⟨0, 0, Nat.zero_le _, rfl, rfl, Lib.hid rfl⟩
    case round =>
      obtain ⟨k, n, hk, rfl, rfl, HT⟩ := hrel
      by_cases hlt : k < xs.length
      · have hlt2 : k < ys.length := by have := HL.out; omega
        obtain ⟨b, o, rfl, hbl3, hc⟩ := HA.out k hlt
        obtain ⟨b', o', rfl, hbl4, hc'⟩ := HB.out k hlt2
        have HX := Lib.hid (take_snoc hlt)
        have HY := Lib.hid (take_snoc hlt2)
        generalize hx : xs.getD k 0 = x at hc HX
        generalize hy : ys.getD k 0 = y at hc' HY
        have HXX := Lib.hid hx
        have HYY := Lib.hid hy
        clear hx hy
        have i0 : (0 : Int) ≤ k := by omega
        have i1 : (k : Int) < xs.length := by omega
        have i2 : (k : Int) < ys.length := by omega
        by_cases hxy : x = y
        · have hq : (x != y) = false := by simp [hxy]
          have HXY := Lib.hid hxy
          clear hxy
          go_wp2
          go_quiet (fail)
          go_wp2
          go_roundw
          case rel => exact ⟨k + 1, _, by omega, by go_num, rfl, Lib.hid (by rw [HX.out, HY.out, HT.out, HXY.out])⟩
          case measure => simp [intOf]; omega
        · have hq : (x != y) = true := by simp [hxy]
          have HN := Lib.hid (show decide (xs = ys) = false by
            simp
            intro h
            have := getD_of_eq h k
            rw [HXX.out, HYY.out] at this
            exact hxy this)
          clear hxy
          go_wp2
          go_quiet (fail)
          go_wp2
          go_ret
          rw [HN.out]
          exact ⟨rfl, _, World.drewN_drewN _ _ _⟩
      · have HE := Lib.hid (show decide (xs = ys) = true by
          simp
          exact eq_of_take HT.out (by omega) HL.out)
        go_wp2
        go_ret
        rw [HE.out]
        exact ⟨rfl, _, rfl⟩
  · have HN := Lib.hid (show decide (xs = ys) = false by simp; intro h; exact hlen (by rw [h]))
    have hbl : (xs.length != ys.length) = true := by simp [hlen]
    have hbl2 : ((xs.length : Int) != (ys.length : Int)) = true := by simp; omega
    clear hlen
    go_enter Tryd.func62, Tryd.ntmps62
    go_wp2
    go_ret
    rw [HN.out]
    exact ⟨rfl, 0, rfl⟩

end Go.Proofs.YtiiloioobmkicaaDoor
