/- What the functions on prime fields return, function by function, callees first. -/
import Derived.Test.YthnhholeaiojjaaDoorProg
import Derived.Test.YthnhholeaiojjaaDoorFdMath
import Derived.WalkKit
import Derived.Handy
import Derived.Below
import Derived.Laws.Rows
import Derived.Lib.Hide
namespace Go.Proofs.YthnhholeaiojjaaDoor
set_option maxRecDepth 100000
open Go Go.RowKit

theorem l1In_t (n lo hi : Int) (w : World) (h1 : lo ≤ n) (h2 : n ≤ hi) : Calls Tryd.prog 31 #[.int .i64 n, .int .i64 lo, .int .i64 hi] w fun e w' => e = .returned (.bool true) ∧ w = w' := by
  go_enter Tryd.func31, Tryd.ntmps31
  go_wp2
  go_ret
  exact ⟨rfl, rfl⟩
theorem l1In_f (n lo hi : Int) (w : World) (h : n < lo ∨ hi < n) : Calls Tryd.prog 31 #[.int .i64 n, .int .i64 lo, .int .i64 hi] w fun e w' => e = .returned (.bool false) ∧ w = w' := by
  by_cases h1 : lo ≤ n
  · have h2 : hi < n := by omega
    have hd : decide (n ≤ hi) = false := by simp; omega
    clear h
    go_enter Tryd.func31, Tryd.ntmps31
    go_wp2
    go_ret
    exact ⟨rfl, rfl⟩
  · have h2 : n < lo := by omega
    clear h h1
    go_enter Tryd.func31, Tryd.ntmps31
    go_wp2
    go_ret
    exact ⟨rfl, rfl⟩

set_option maxHeartbeats 400000 in
theorem fdGood_any (p : Int) (w : World) : Calls Tryd.prog 22 #[.int .i64 p] w fun e w' => e = .returned (.bool (fld p)) ∧ w = w' := by
  by_cases ho : p < 2 ∨ 97 < p
  · have H := Lib.hid (fld_out ho)
    go_enter Tryd.func22, Tryd.ntmps22
    go_wp2_with (go_at_call 31; refine (l1In_f _ _ _ _ (by omega)).mono ?_; rintro e w' ⟨rfl, rfl⟩)
    go_ret
    rw [H.out]
    exact ⟨rfl, rfl⟩
  · have h1 : 2 ≤ p := by omega
    have h2 : p ≤ 97 := by omega
    clear ho
    go_enter Tryd.func22, Tryd.ntmps22
    go_wp2_with (go_at_call 31; refine (l1In_t _ _ _ _ (by omega) (by omega)).mono ?_; rintro e w' ⟨rfl, rfl⟩)
    go_loop [3] (fun t => ∃ k : Int, 2 ≤ k ∧ k ≤ 10 ∧ t = .int .i64 k ∧ Hid (∀ j : Int, 2 ≤ j → j < k → p % j ≠ 0)) (fun t => (12 - intOf t).toNat)
    case atStart => exact ⟨2, by omega, by omega, rfl, Lib.hid (fun j a b => by omega)⟩
    case round =>
      obtain ⟨k, hk1, hk2, rfl, hn⟩ := hrel
      have hsq : 4 ≤ k * k := by have := Int.mul_le_mul hk1 hk1 (by omega) (by omega); omega
      have hsq2 : k * k ≤ 100 := by have := Int.mul_le_mul hk2 hk2 (by omega) (by omega); omega
      by_cases hlt : k * k ≤ p
      · have hk9 := sq_le9 (Int.le_trans hlt h2)
        by_cases hd : p % k = 0
        · have H := Lib.hid (fld_of_div hk1 hlt h2 hd)
          go_wp2
          go_ret
          rw [H.out]
          exact ⟨rfl, rfl⟩
        · go_wp2
          go_round
          case rel => exact ⟨k + 1, by omega, by omega, rfl, Lib.hid (fun j a b => by
            by_cases c : j = k
            · rw [c]; exact hd
            · exact hn.out j a (by omega))⟩
          case measure => simp [intOf]; omega
      · have H := Lib.hid (fld_of_none h1 h2 hk1 (by omega) (by omega) hn.out)
        go_wp2
        go_ret
        rw [H.out]
        exact ⟨rfl, rfl⟩

/-- The table of small primes lies in its variable's block. -/
def Tab (w : World) : Prop := ∃ t fr, w.heap[0]? = some (.cells #[.int .i64 2, .int .i64 3, .int .i64 5, .int .i64 7] t fr)
theorem Tab.below {w w' : World} (h : Tab w) (hb : Below w.heap.size w w') : Tab w' := by
  obtain ⟨t, fr, h⟩ := h
  exact ⟨t, fr, (hb.block _ (Array.getElem?_eq_some_iff.1 h).1).trans h⟩
theorem Tab.below' {B : Nat} {w w' : World} (h : Tab w) (hb : Below B w w') (hB : 0 < B) : Tab w' := by
  obtain ⟨t, fr, h⟩ := h
  exact ⟨t, fr, (hb.block _ hB).trans h⟩
theorem Tab.size {w : World} (h : Tab w) : 0 < w.heap.size := by
  obtain ⟨t, fr, h⟩ := h
  exact (Array.getElem?_eq_some_iff.1 h).1

theorem isField_any (p : Int) (w : World) (ht : Tab w) : Calls Tryd.prog 17 #[.int .i64 p] w fun e w' => e = .returned (.bool (fld p)) ∧ w = w' := by
  obtain ⟨tt, fr, hg⟩ := ht
  by_cases ho : p < 2 ∨ 97 < p
  · have H := Lib.hid (fld_out ho)
    rcases ho with ho | ho
    · go_enter Tryd.func17, Tryd.ntmps17
      go_wp2
      go_ret
      rw [H.out]
      exact ⟨rfl, rfl⟩
    · have h2 : 2 ≤ p := by omega
      go_enter Tryd.func17, Tryd.ntmps17
      go_wp2
      go_ret
      rw [H.out]
      exact ⟨rfl, rfl⟩
  · have h1 : 2 ≤ p := by omega
    have h2 : p ≤ 97 := by omega
    clear ho
    have HG := Lib.hid hg
    clear hg
    have i0 : ∀ w, (Instr.index 64 (.agg #[.int .i64 2, .int .i64 3, .int .i64 5, .int .i64 7]) (.int .i64 0)).run Tryd.prog w = .ok (.int .i64 2) w := fun _ => by kernel_rfl
    have i1 : ∀ w, (Instr.index 64 (.agg #[.int .i64 2, .int .i64 3, .int .i64 5, .int .i64 7]) (.int .i64 1)).run Tryd.prog w = .ok (.int .i64 3) w := fun _ => by kernel_rfl
    have i2 : ∀ w, (Instr.index 64 (.agg #[.int .i64 2, .int .i64 3, .int .i64 5, .int .i64 7]) (.int .i64 2)).run Tryd.prog w = .ok (.int .i64 5) w := fun _ => by kernel_rfl
    have i3 : ∀ w, (Instr.index 64 (.agg #[.int .i64 2, .int .i64 3, .int .i64 5, .int .i64 7]) (.int .i64 3)).run Tryd.prog w = .ok (.int .i64 7) w := fun _ => by kernel_rfl
    go_enter Tryd.func17, Tryd.ntmps17
    go_wp2_with (refine wpList_load_row rfl 64 _ rfl 0 rfl _ _ _ _ HG.out Tryd.underlying64 rfl (by kernel_rfl) ?_)
    go_loop [12] (fun t => (t = .int .i64 0) ∨ (t = .int .i64 1 ∧ (p = 2 ∨ p % 2 ≠ 0)) ∨ (t = .int .i64 2 ∧ (p = 2 ∨ p % 2 ≠ 0) ∧ (p = 3 ∨ p % 3 ≠ 0)) ∨ (t = .int .i64 3 ∧ (p = 2 ∨ p % 2 ≠ 0) ∧ (p = 3 ∨ p % 3 ≠ 0) ∧ (p = 5 ∨ p % 5 ≠ 0)) ∨ (t = .int .i64 4 ∧ (p = 2 ∨ p % 2 ≠ 0) ∧ (p = 3 ∨ p % 3 ≠ 0) ∧ (p = 5 ∨ p % 5 ≠ 0) ∧ (p = 7 ∨ p % 7 ≠ 0))) (fun t => (5 - intOf t).toNat)
    case atStart => exact Or.inl rfl
    case round =>
      rcases hrel with rfl | ⟨rfl, c2⟩ | ⟨rfl, c2, c3⟩ | ⟨rfl, c2, c3, c5⟩ | ⟨rfl, c2, c3, c5, c7⟩
      · by_cases he : p = 2
        · have H := Lib.hid he
          have hb : (p != 2) = false := by simp [he]
          clear he
          go_wp2
          go_round
          case rel => exact Or.inr (Or.inl ⟨rfl, Or.inl H.out⟩)
          case measure => simp [intOf]
        · have hb : (p != 2) = true := by simp [he]
          by_cases hd : p % 2 = 0
          · have H := Lib.hid (show fld p = false from fld_false (by omega))
            go_wp2
            go_ret
            rw [H.out]
            exact ⟨rfl, rfl⟩
          · go_wp2
            go_round
            case rel => exact Or.inr (Or.inl ⟨rfl, Or.inr hd⟩)
            case measure => simp [intOf]
      · by_cases he : p = 3
        · have H := Lib.hid he
          have hb : (p != 3) = false := by simp [he]
          clear he
          go_wp2
          go_round
          case rel => exact Or.inr (Or.inr (Or.inl ⟨rfl, c2, Or.inl H.out⟩))
          case measure => simp [intOf]
        · have hb : (p != 3) = true := by simp [he]
          by_cases hd : p % 3 = 0
          · have H := Lib.hid (show fld p = false from fld_false (by omega))
            go_wp2
            go_ret
            rw [H.out]
            exact ⟨rfl, rfl⟩
          · go_wp2
            go_round
            case rel => exact Or.inr (Or.inr (Or.inl ⟨rfl, c2, Or.inr hd⟩))
            case measure => simp [intOf]
      · by_cases he : p = 5
        · have H := Lib.hid he
          have hb : (p != 5) = false := by simp [he]
          clear he
          go_wp2
          go_round
          case rel => exact Or.inr (Or.inr (Or.inr (Or.inl ⟨rfl, c2, c3, Or.inl H.out⟩)))
          case measure => simp [intOf]
        · have hb : (p != 5) = true := by simp [he]
          by_cases hd : p % 5 = 0
          · have H := Lib.hid (show fld p = false from fld_false (by omega))
            go_wp2
            go_ret
            rw [H.out]
            exact ⟨rfl, rfl⟩
          · go_wp2
            go_round
            case rel => exact Or.inr (Or.inr (Or.inr (Or.inl ⟨rfl, c2, c3, Or.inr hd⟩)))
            case measure => simp [intOf]
      · by_cases he : p = 7
        · have H := Lib.hid he
          have hb : (p != 7) = false := by simp [he]
          clear he
          go_wp2
          go_round
          case rel => exact Or.inr (Or.inr (Or.inr (Or.inr (⟨rfl, c2, c3, c5, Or.inl H.out⟩))))
          case measure => simp [intOf]
        · have hb : (p != 7) = true := by simp [he]
          by_cases hd : p % 7 = 0
          · have H := Lib.hid (show fld p = false from fld_false (by omega))
            go_wp2
            go_ret
            rw [H.out]
            exact ⟨rfl, rfl⟩
          · go_wp2
            go_round
            case rel => exact Or.inr (Or.inr (Or.inr (Or.inr (⟨rfl, c2, c3, c5, Or.inr hd⟩))))
            case measure => simp [intOf]
      · have H := Lib.hid ((fld_iff p).2 ⟨h1, h2, c2, c3, c5, c7⟩)
        go_wp2
        go_ret
        rw [H.out]
        exact ⟨rfl, rfl⟩

/-- p is a field and all values are its elements. -/
def elems (p : Int) (zs : List Int) : Bool := fld p && zs.all (el p)
theorem elems_iff (p : Int) (zs : List Int) : elems p zs = true ↔ fld p = true ∧ ∀ z, z ∈ zs → el p z = true := by simp [elems]
theorem elems_not_field {p : Int} {zs : List Int} (h : fld p = false) : elems p zs = false := by simp [elems, h]
theorem elems_false {p : Int} {zs : List Int} {z : Int} (hz : z ∈ zs) (h : ¬ (0 ≤ z ∧ z < p)) : elems p zs = false := by
  cases e : elems p zs with
  | false => rfl
  | true => exact absurd ((el_iff p z).1 (((elems_iff p zs).1 e).2 z hz)) h
def Row (w : World) (b : Nat) (zs : List Int) : Prop := ∀ k, k < zs.length → w.cell? ⟨b, k, none⟩ = some (.int .i64 (zs.getD k 0))
theorem getD_mem {zs : List Int} {k : Nat} (h : k < zs.length) : zs.getD k 0 ∈ zs := by
  rw [List.getD_eq_getElem?_getD, List.getElem?_eq_getElem h]
  exact List.getElem_mem h

set_option maxHeartbeats 400000 in
theorem areElements_any (p : Int) (zs : List Int) (n c b : Nat) (w : World) (ht : Tab w) (hn : n = zs.length) (hl : zs.length ≤ 100) (hr : Row w b zs) :
    Calls Tryd.prog 28 #[.int .i64 p, .slice (some ⟨b, 0, none⟩) n c] w fun e w' => e = .returned (.bool (elems p zs)) ∧ w = w' := by
  subst hn
  have HT := Lib.hid ht
  have HR := Lib.hid hr
  clear ht hr
  cases hf : fld p with
  | false =>
    have H := Lib.hid (elems_not_field (zs := zs) hf)
    have HF := Lib.hid hf
    clear hf
    go_enter Tryd.func28, Tryd.ntmps28
    go_wp2_with fail
    refine (isField_any p w HT.out).mono ?_
    rintro e w' ⟨rfl, rfl⟩
    rw [HF.out]
    go_wp2
    go_ret
    rw [H.out]
    exact ⟨rfl, rfl⟩
  | true =>
    have hb := fld_bd hf
    have HF := Lib.hid hf
    clear hf
    obtain ⟨hb1, hb2⟩ := hb
    go_enter Tryd.func28, Tryd.ntmps28
    go_wp2_with fail
    refine (isField_any p w HT.out).mono ?_
    rintro e w' ⟨rfl, rfl⟩
    rw [HF.out]
    go_wp2
    go_loop [12] (fun t => ∃ k : Nat, k ≤ zs.length ∧ t = .int .i64 k ∧ Hid (∀ j, j < k → el p (zs.getD j 0) = true)) (fun t => zs.length - (intOf t).toNat)
    case atStart => exact ⟨0, Nat.zero_le _, rfl, Lib.hid (fun j hj => absurd hj (Nat.not_lt_zero j))⟩
    case round =>
      obtain ⟨k, hk, rfl, he⟩ := hrel
      by_cases hlt : k < zs.length
      · have hc := HR.out k hlt
        have hm := getD_mem hlt
        generalize hz : zs.getD k 0 = z at hc hm
        have HZ := Lib.hid hz
        have HM := Lib.hid hm
        clear hz hm
        by_cases h0 : z < 0
        · have H := Lib.hid (elems_false (p := p) HM.out (by omega))
          go_wp2
          go_ret
          rw [H.out]
          exact ⟨rfl, rfl⟩
        · by_cases h1 : p ≤ z
          · have H := Lib.hid (elems_false (p := p) HM.out (by omega))
            go_wp2
            go_ret
            rw [H.out]
            exact ⟨rfl, rfl⟩
          · go_wp2
            go_round
            case rel => exact ⟨k + 1, by omega, by go_num, Lib.hid (fun j hj => by
              by_cases c : j = k
              · rw [c, HZ.out, el_iff]; omega
              · exact he.out j (by omega))⟩
            case measure => simp [intOf]; omega
      · have H := Lib.hid (show elems p zs = true from (elems_iff p zs).2 ⟨HF.out, fun z hz => by
          obtain ⟨i, hi, rfl⟩ := List.getElem_of_mem hz
          have := he.out i (by omega)
          rw [List.getD_eq_getElem?_getD, List.getElem?_eq_getElem hi] at this
          exact this⟩)
        go_wp2
        go_ret
        rw [H.out]
        exact ⟨rfl, rfl⟩

end Go.Proofs.YthnhholeaiojjaaDoor
