/- The program's parts of a term: trees as interface values; their wires. -/
import Derived.Test.YtdgimjmdgppboaaTrN
import Derived.Test.YtdgimjmdgppboaaTmS
import Derived.Handy
namespace Go.Proofs.Ytdgimjmdgppboaa
set_option maxRecDepth 100000
open Go Go.RowKit Go.Deep

abbrev tLeafT : TypeId := 96
abbrev tSeqT : TypeId := 101
abbrev tParT : TypeId := 102
def wcV (i o : Int) : Value := .agg #[.int .i64 i, .int .i64 o]
/-- A tree as the program holds it. -/
def trV : Tr → Value
  | .leaf n i o => .iface tLeafT (.agg #[.int .i64 n.k, .int .i64 n.v, .string n.s, .int .i64 i, .int .i64 o])
  | .seq a b i o => .iface tSeqT (.agg #[trV a, trV b, .int .i64 i, .int .i64 o])
  | .par a b i o => .iface tParT (.agg #[trV a, trV b, .int .i64 i, .int .i64 o])
theorem wires_leaf (w : World) (k v : Int) (s : ByteArray) (i o : Int) : Calls Try.prog 80 #[.agg #[.int .i64 k, .int .i64 v, .string s, .int .i64 i, .int .i64 o]] w fun e w' => e = .returned (wcV i o) ∧ Below w.heap.size w w' := by
  go_enter Try.func80, Try.ntmps80
  go_wp2
  refine bodyPost_ret (v := wcV i o) (by simp [results, Try.results80, go_sem, wcV]) rfl ?_
  exact ⟨rfl, by repeat' (first | exact Below.refl _ _ | apply Below.drew | apply Below.setCell | apply Below.alloc | (simp; done) | omega | (simp; omega))⟩
theorem wires_seq (w : World) (a b : Value) (i o : Int) : Calls Try.prog 84 #[.agg #[a, b, .int .i64 i, .int .i64 o]] w fun e w' => e = .returned (wcV i o) ∧ Below w.heap.size w w' := by
  go_enter Try.func84, Try.ntmps84
  go_wp2
  refine bodyPost_ret (v := wcV i o) (by simp [results, Try.results84, go_sem, wcV]) rfl ?_
  exact ⟨rfl, by repeat' (first | exact Below.refl _ _ | apply Below.drew | apply Below.setCell | apply Below.alloc | (simp; done) | omega | (simp; omega))⟩
theorem wires_par (w : World) (a b : Value) (i o : Int) : Calls Try.prog 88 #[.agg #[a, b, .int .i64 i, .int .i64 o]] w fun e w' => e = .returned (wcV i o) ∧ Below w.heap.size w w' := by
  go_enter Try.func88, Try.ntmps88
  go_wp2
  refine bodyPost_ret (v := wcV i o) (by simp [results, Try.results88, go_sem, wcV]) rfl ?_
  exact ⟨rfl, by repeat' (first | exact Below.refl _ _ | apply Below.drew | apply Below.setCell | apply Below.alloc | (simp; done) | omega | (simp; omega))⟩
theorem hasFactor_any (w : World) (k : Int) : Calls Try.prog 60 #[.int .i64 k] w fun e w' => e = .returned (.bool (decide (k = 7 ∨ k = 13))) ∧ w' = w := by
  by_cases h : k = 7
  · subst h
    go_enter Try.func60, Try.ntmps60
    go_wp2
    go_ret
    exact ⟨rfl, rfl⟩
  by_cases h2 : k = 13
  · subst h2
    go_enter Try.func60, Try.ntmps60
    go_wp2
    go_ret
    exact ⟨rfl, rfl⟩
  have H : Hid (decide (k = 7 ∨ k = 13) = false) := Lib.hid (by simp [h, h2])
  have H2 : Hid ((k == 7 || k == 13) = false) := Lib.hid (by simp [h, h2])
  go_enter Try.func60, Try.ntmps60
  go_wp2
  go_ret
  rw [H.out, ← H2.out]
  exact ⟨rfl, rfl⟩
theorem greatestValue_any (w : World) (k : Int) : Calls Try.prog 58 #[.int .i64 k] w fun e w' => e = .returned (.int .i64 (greatest k)) ∧ w' = w := by
  by_cases h : k = 1
  · subst h
    go_enter Try.func58, Try.ntmps58
    go_wp2
    go_ret
    exact ⟨rfl, rfl⟩
  by_cases h2 : k = 7 ∨ k = 13
  · have H : Hid (greatest k = 96) := Lib.hid (by unfold greatest; rw [if_neg h, if_pos h2])
    have HD : Hid (decide (k = 7 ∨ k = 13) = true) := Lib.hid (decide_eq_true h2)
    clear h2
    go_enter Try.func58, Try.ntmps58
    go_wp2_with (go_at_call 60; refine (hasFactor_any _ _).mono ?_; rintro e w' ⟨rfl, rfl⟩; rw [HD.out])
    go_ret
    rw [H.out]
    exact ⟨rfl, rfl⟩
  · have H : Hid (greatest k = 0) := Lib.hid (by unfold greatest; rw [if_neg h, if_neg h2])
    have HD : Hid (decide (k = 7 ∨ k = 13) = false) := Lib.hid (decide_eq_false h2)
    clear h2
    go_enter Try.func58, Try.ntmps58
    go_wp2_with (go_at_call 60; refine (hasFactor_any _ _).mono ?_; rintro e w' ⟨rfl, rfl⟩; rw [HD.out])
    go_ret
    rw [H.out]
    exact ⟨rfl, rfl⟩
theorem leafB_all {n : Nd} (hs : n.s = ByteArray.empty) (h1 : 1 ≤ n.k) (h2 : n.k ≤ 14) (h3 : 0 ≤ n.v) (h4 : n.v ≤ greatest n.k) : isLeafB n = true := by
  rw [leafB_v hs h1 h2, decide_eq_true h3, decide_eq_true h4]
  rfl
theorem leafB_no_v {n : Nd} (h : n.v < 0 ∨ greatest n.k < n.v) : isLeafB n = false := by
  unfold isLeafB
  rcases h with h | h
  · rw [decide_eq_false (p := 0 ≤ n.v) (by omega)]; simp
  · rw [decide_eq_false (p := n.v ≤ greatest n.k) (by omega)]; simp
set_option maxHeartbeats 1600000 in
theorem isLeaf_any (w : World) (n : Nd) : Calls Try.prog 54 #[ndV n] w fun e w' => e = .returned (.bool (isLeafB n)) ∧ Below w.heap.size w w' := by
  unfold ndV
  have HG := Lib.hid (fun w0 => greatestValue_any w0 n.k)
  by_cases h1 : 1 ≤ n.k
  · by_cases h2 : n.k ≤ 14
    · by_cases h3 : 0 ≤ n.v
      · by_cases h4 : n.v ≤ greatest n.k
        · by_cases hs : n.s = ByteArray.empty
          · have hn : n.s.toList.isEmpty = true := str_none hs
            have H := Lib.hid (leafB_all hs h1 h2 h3 h4)
            clear hs
            generalize greatest n.k = g at HG h4
            go_enter Try.func54, Try.ntmps54
            go_wp2
            go_quiet ((go_at_call 58; exact Calls.quiet_of_same (HG.out _)))
            go_wp2
            go_ret
            rw [H.out]
            exact ⟨rfl, by repeat' (first | exact Below.refl _ _ | apply Below.drew | apply below_drewN | apply Below.setCell | apply Below.alloc | (simp; done) | omega | (simp; omega))⟩
          · have hn : n.s.toList.isEmpty = false := str_some hs
            have H := Lib.hid (leafB_no_s hs)
            clear hs
            generalize greatest n.k = g at HG h4
            go_enter Try.func54, Try.ntmps54
            go_wp2
            go_quiet ((go_at_call 58; exact Calls.quiet_of_same (HG.out _)))
            go_wp2
            go_ret
            rw [H.out]
            exact ⟨rfl, by repeat' (first | exact Below.refl _ _ | apply Below.drew | apply below_drewN | apply Below.setCell | apply Below.alloc | (simp; done) | omega | (simp; omega))⟩
        · have H := Lib.hid (leafB_no_v (n := n) (Or.inr (by omega)))
          have hd : decide (n.v ≤ greatest n.k) = false := decide_eq_false h4
          clear h4
          generalize greatest n.k = g at HG hd
          go_enter Try.func54, Try.ntmps54
          go_wp2
          go_quiet ((go_at_call 58; exact Calls.quiet_of_same (HG.out _)))
          go_wp2
          go_ret
          rw [H.out]
          exact ⟨rfl, by repeat' (first | exact Below.refl _ _ | apply Below.drew | apply below_drewN | apply Below.setCell | apply Below.alloc | (simp; done) | omega | (simp; omega))⟩
      · have H := Lib.hid (leafB_no_v (n := n) (Or.inl (by omega)))
        have hd : decide (0 ≤ n.v) = false := decide_eq_false h3
        clear h3
        go_enter Try.func54, Try.ntmps54
        go_wp2
        go_quiet ((go_at_call 58; exact Calls.quiet_of_same (HG.out _)))
        go_wp2
        go_ret
        rw [H.out]
        exact ⟨rfl, by repeat' (first | exact Below.refl _ _ | apply Below.drew | apply below_drewN | apply Below.setCell | apply Below.alloc | (simp; done) | omega | (simp; omega))⟩
    · have H := Lib.hid (leafB_no_k (n := n) (by omega))
      have hd : decide (n.k ≤ 14) = false := decide_eq_false h2
      clear h2
      go_enter Try.func54, Try.ntmps54
      go_wp2
      go_quiet ((go_at_call 58; exact Calls.quiet_of_same (HG.out _)))
      go_wp2
      go_ret
      rw [H.out]
      exact ⟨rfl, by repeat' (first | exact Below.refl _ _ | apply Below.drew | apply below_drewN | apply Below.setCell | apply Below.alloc | (simp; done) | omega | (simp; omega))⟩
  · have H := Lib.hid (leafB_no_k (n := n) (by omega))
    have hd : decide (1 ≤ n.k) = false := decide_eq_false h1
    clear h1
    go_enter Try.func54, Try.ntmps54
    go_wp2
    go_quiet ((go_at_call 58; exact Calls.quiet_of_same (HG.out _)))
    go_wp2
    go_ret
    rw [H.out]
    exact ⟨rfl, by repeat' (first | exact Below.refl _ _ | apply Below.drew | apply below_drewN | apply Below.setCell | apply Below.alloc | (simp; done) | omega | (simp; omega))⟩
set_option maxHeartbeats 1600000 in
theorem leafWires_any (w : World) (n : Nd) : Calls Try.prog 59 #[ndV n] w fun e w' => e = .returned (wcV (leafW n).1 (leafW n).2) ∧ Below w.heap.size w w' := by
  have BEL : ∀ w' : World, w' = w → Below w.heap.size w w' := fun w' h => h ▸ Below.refl _ _
  unfold ndV
  by_cases h1 : n.k = 1
  · have H := Lib.hid (show leafW n = (n.v, n.v) from (leafW_kind n).trans (if_pos h1))
    go_enter Try.func59, Try.ntmps59
    go_wp2
    refine bodyPost_ret (v := wcV n.v n.v) (by simp [results, Try.results59, go_sem, wcV]) rfl ?_
    rw [H.out]
    exact ⟨rfl, by repeat' (first | exact Below.refl _ _ | apply Below.drew | apply Below.setCell | apply Below.alloc | (simp; done) | omega | (simp; omega))⟩
  have H0 := Lib.hid (show leafW n = kindW n.k from (leafW_kind n).trans (if_neg h1))
  by_cases h2 : n.k = 2
  · have H : Hid (leafW n = (2, 2)) := Lib.hid (by rw [H0.out, h2]; rfl)
    go_enter Try.func59, Try.ntmps59
    go_wp2
    refine bodyPost_ret (v := wcV 2 2) (by simp [results, Try.results59, go_sem, wcV]) rfl ?_
    rw [H.out]
    exact ⟨rfl, by repeat' (first | exact Below.refl _ _ | apply Below.drew | apply Below.setCell | apply Below.alloc | (simp; done) | omega | (simp; omega))⟩
  by_cases h3 : n.k = 3 ∨ n.k = 11
  · rcases h3 with h3 | h3 <;>
    (have H : Hid (leafW n = (1, 2)) := Lib.hid (by rw [H0.out, h3]; rfl)
     go_enter Try.func59, Try.ntmps59
     go_wp2
     refine bodyPost_ret (v := wcV 1 2) (by simp [results, Try.results59, go_sem, wcV]) rfl ?_
     rw [H.out]
     exact ⟨rfl, by repeat' (first | exact Below.refl _ _ | apply Below.drew | apply Below.setCell | apply Below.alloc | (simp; done) | omega | (simp; omega))⟩)
  by_cases h5 : n.k = 5 ∨ n.k = 9
  · rcases h5 with h5 | h5 <;>
    (have H : Hid (leafW n = (2, 1)) := Lib.hid (by rw [H0.out, h5]; rfl)
     go_enter Try.func59, Try.ntmps59
     go_wp2
     refine bodyPost_ret (v := wcV 2 1) (by simp [results, Try.results59, go_sem, wcV]) rfl ?_
     rw [H.out]
     exact ⟨rfl, by repeat' (first | exact Below.refl _ _ | apply Below.drew | apply Below.setCell | apply Below.alloc | (simp; done) | omega | (simp; omega))⟩)
  by_cases h4 : n.k = 4 ∨ n.k = 12
  · rcases h4 with h4 | h4 <;>
    (have H : Hid (leafW n = (1, 0)) := Lib.hid (by rw [H0.out, h4]; rfl)
     go_enter Try.func59, Try.ntmps59
     go_wp2
     refine bodyPost_ret (v := wcV 1 0) (by simp [results, Try.results59, go_sem, wcV]) rfl ?_
     rw [H.out]
     exact ⟨rfl, by repeat' (first | exact Below.refl _ _ | apply Below.drew | apply Below.setCell | apply Below.alloc | (simp; done) | omega | (simp; omega))⟩)
  by_cases h6 : n.k = 6 ∨ n.k = 10
  · rcases h6 with h6 | h6 <;>
    (have H : Hid (leafW n = (0, 1)) := Lib.hid (by rw [H0.out, h6]; rfl)
     go_enter Try.func59, Try.ntmps59
     go_wp2
     refine bodyPost_ret (v := wcV 0 1) (by simp [results, Try.results59, go_sem, wcV]) rfl ?_
     rw [H.out]
     exact ⟨rfl, by repeat' (first | exact Below.refl _ _ | apply Below.drew | apply Below.setCell | apply Below.alloc | (simp; done) | omega | (simp; omega))⟩)
  · have H : Hid (leafW n = (1, 1)) := Lib.hid (by rw [H0.out]; unfold kindW; rw [if_neg h2, if_neg h3, if_neg h5, if_neg h4, if_neg h6])
    have n3 : n.k ≠ 3 := fun h => h3 (Or.inl h)
    have n11 : n.k ≠ 11 := fun h => h3 (Or.inr h)
    have n5 : n.k ≠ 5 := fun h => h5 (Or.inl h)
    have n9 : n.k ≠ 9 := fun h => h5 (Or.inr h)
    have n4 : n.k ≠ 4 := fun h => h4 (Or.inl h)
    have n12 : n.k ≠ 12 := fun h => h4 (Or.inr h)
    have n6 : n.k ≠ 6 := fun h => h6 (Or.inl h)
    have n10 : n.k ≠ 10 := fun h => h6 (Or.inr h)
    clear h3 h5 h4 h6
    go_enter Try.func59, Try.ntmps59
    go_wp2
    refine bodyPost_ret (v := wcV 1 1) (by simp [results, Try.results59, go_sem, wcV]) rfl ?_
    rw [H.out]
    exact ⟨rfl, by repeat' (first | exact Below.refl _ _ | apply Below.drew | apply Below.setCell | apply Below.alloc | (simp; done) | omega | (simp; omega))⟩
end Go.Proofs.Ytdgimjmdgppboaa
