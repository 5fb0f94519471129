/- Small words: rows that grow, numbers in a range, an answer. -/
import Derived.Test.YtdcgoeapgboclaaMem
import Derived.Test.YtdcgoeapgboclaaMath
import Derived.Test.YtdcgoeapgboclaaFdWalks
import Derived.StillTailTactics
namespace Go.Proofs.Ytdcgoeapgboclaa
set_option maxRecDepth 100000
open Go Go.RowKit Go.Deep

theorem icells_snoc (xs : List Int) (x : Int) : icells (xs ++ [x]) = icells xs ++ [.int .i64 x] := by simp [icells]
/-- A row of ints that grew by append. -/
def RowA (w : World) (B : Nat) (v : Value) (xs : List Int) : Prop := w.ownsRow B tI 1 v xs.length (icells xs)
theorem RowA.own {w : World} {B : Nat} {v : Value} {xs : List Int} (h : RowA w B v xs) : OwR w tI (fun b => B ≤ b) v xs := owR_of_owns h (fun k hk => (World.ownsRow.lt h k hk).1)
def between (lo hi : Int) (x : Int) : Bool := decide (lo ≤ x) && decide (x ≤ hi)
theorem all_false {f : Int → Bool} {xs : List Int} {k : Nat} (hk : k < xs.length) (h : f (xs.getD k 0) = false) : xs.all f = false := by
  cases e : xs.all f with
  | false => rfl
  | true => rw [List.all_eq_true.1 e _ (getD_mem' hk 0)] at h; cases h
theorem all_true {f : Int → Bool} {xs : List Int} (h : ∀ j, j < xs.length → f (xs.getD j 0) = true) : xs.all f = true := by
  rw [List.all_eq_true]
  intro x hx
  obtain ⟨i, hi, rfl⟩ := List.getElem_of_mem hx
  have := h i hi
  rwa [List.getD_eq_getElem?_getD, List.getElem?_eq_getElem hi] at this
set_option maxHeartbeats 400000 in
theorem l1All_any (w : World) (B : Nat) (v : Value) (xs : List Int) (lo hi : Int) (hv : RdS w (fun b => b < B) v xs) (hl : xs.length ≤ 9223372036854775807) :
    Calls Try.prog 54 #[v, .int .i64 lo, .int .i64 hi] w fun e w' => e = .returned (.bool (xs.all (between lo hi))) ∧ w = w' := by
  obtain ⟨A, c, rfl, kc_c, hv⟩ := hv
  have HV := Lib.hid hv
  clear hv
  go_enter Try.func54, Try.ntmps54
  go_wp2
  go_loop [11] (fun t => ∃ k : Nat, k ≤ xs.length ∧ t = .int .i64 k ∧ Hid (∀ j, j < k → between lo hi (xs.getD j 0) = true)) (fun t => xs.length - (intOf t).toNat)
  case atStart => exact ⟨0, Nat.zero_le _, rfl, Lib.hid (fun j hj => absurd hj (Nat.not_lt_zero j))⟩
  case round =>
    obtain ⟨k, hk, rfl, he⟩ := hrel
    by_cases hlt : k < xs.length
    · obtain ⟨b, o, rfl, hb, hc⟩ := HV.out k hlt
      generalize hz : xs.getD k 0 = z at hc
      have HZ := Lib.hid hz
      clear hz
      by_cases h0 : lo ≤ z ∧ z ≤ hi
      · obtain ⟨h1, h2⟩ := h0
        have H := Lib.hid (show between lo hi z = true by simp [between, h1, h2])
        go_wp2_with (go_at_call 41; refine (l1In_t _ _ _ _ h1 h2).mono ?_; rintro e w' ⟨rfl, rfl⟩)
        go_round
        case rel => exact ⟨k + 1, by omega, by go_num, Lib.hid (fun j hj => by
          by_cases c : j = k
          · rw [c, HZ.out]; exact H.out
          · exact he.out j (by omega))⟩
        case measure => simp [intOf]; omega
      · have h1 : z < lo ∨ hi < z := by omega
        have H := Lib.hid (show xs.all (between lo hi) = false from all_false hlt (by rw [HZ.out]; simp [between]; omega))
        clear h0
        go_wp2_with (go_at_call 41; refine (l1In_f _ _ _ _ h1).mono ?_; rintro e w' ⟨rfl, rfl⟩)
        go_ret
        rw [H.out]
        exact ⟨rfl, rfl⟩
    · have H := Lib.hid (show xs.all (between lo hi) = true from all_true fun j hj => he.out j (by omega))
      go_wp2
      go_ret
      rw [H.out]
      exact ⟨rfl, rfl⟩
/-- A struct was boxed; the answer is b. -/
def SaysB (w : World) (b : Bool) (e : Ending) (w' : World) : Prop := e = .returned (.bool b) ∧ Below w.heap.size w w'
end Go.Proofs.Ytdcgoeapgboclaa
