/- PtV PtI PtJ PtK PtL PtM PtN in one text. -/
import Derived.Test.YtdcgoeapgboclaaTr
import Derived.Test.YtdcgoeapgboclaaTmS0
import Derived.Handy
import Derived.Deep.AppendLies
import Derived.Deep.RegionHeld3
import Derived.Deep.Cut
import Derived.StillTailTactics
import Derived.Test.YtdcgoeapgboclaaRetIIB
/-! The program's parts of a term: trees as interface values; their wires. -/
namespace Go.Proofs.Ytdcgoeapgboclaa
set_option maxRecDepth 100000
open Go Go.RowKit Go.Deep

def wcV (i o : Int) : Value := .agg #[.int .i64 i, .int .i64 o]
theorem hasFactor_any (w : World) (k : Int) : Calls Try.prog 118 #[.int .i64 k] w fun e w' => e = .returned (.bool (decide (k = 7 ∨ k = 13))) ∧ w' = w := by
  by_cases h : k = 7
  · subst h
    go_enter Try.func118, Try.ntmps118
    go_wp2
    go_ret
    exact ⟨rfl, rfl⟩
  by_cases h2 : k = 13
  · subst h2
    go_enter Try.func118, Try.ntmps118
    go_wp2
    go_ret
    exact ⟨rfl, rfl⟩
  have H : Hid (decide (k = 7 ∨ k = 13) = false) := Lib.hid (by simp [h, h2])
  have H2 : Hid ((k == 7 || k == 13) = false) := Lib.hid (by simp [h, h2])
  go_enter Try.func118, Try.ntmps118
  go_wp2
  go_ret
  rw [H.out, ← H2.out]
  exact ⟨rfl, rfl⟩
theorem greatestValue_any (w : World) (k : Int) : Calls Try.prog 112 #[.int .i64 k] w fun e w' => e = .returned (.int .i64 (greatest k)) ∧ w' = w := by
  by_cases h : k = 1
  · subst h
    go_enter Try.func112, Try.ntmps112
    go_wp2
    go_ret
    exact ⟨rfl, rfl⟩
  by_cases h2 : k = 7 ∨ k = 13
  · have H : Hid (greatest k = 96) := Lib.hid (by unfold greatest; rw [if_neg h, if_pos h2])
    have HD : Hid (decide (k = 7 ∨ k = 13) = true) := Lib.hid (decide_eq_true h2)
    clear h2
    go_enter Try.func112, Try.ntmps112
    go_wp2_with (go_at_call 118; refine (hasFactor_any _ _).mono ?_; rintro e w' ⟨rfl, rfl⟩; rw [HD.out])
    go_ret
    rw [H.out]
    exact ⟨rfl, rfl⟩
  · have H : Hid (greatest k = 0) := Lib.hid (by unfold greatest; rw [if_neg h, if_neg h2])
    have HD : Hid (decide (k = 7 ∨ k = 13) = false) := Lib.hid (decide_eq_false h2)
    clear h2
    go_enter Try.func112, Try.ntmps112
    go_wp2_with (go_at_call 118; refine (hasFactor_any _ _).mono ?_; rintro e w' ⟨rfl, rfl⟩; rw [HD.out])
    go_ret
    rw [H.out]
    exact ⟨rfl, rfl⟩
theorem leafB_all {n : Nd} (hs : n.s = ByteArray.empty) (h1 : 1 ≤ n.k) (h2 : n.k ≤ 14) (h3 : 0 ≤ n.v) (h4 : n.v ≤ greatest n.k) : isLeafB n = true := by
  rw [leafB_v hs h1 h2, decide_eq_true h3, decide_eq_true h4]
  rfl
theorem leafB_no_v {n : Nd} (h : n.v < 0 ∨ greatest n.k < n.v) : isLeafB n = false := by
  unfold isLeafB
  rcases h with h | h
  · rw [decide_eq_false (p := 0 ≤ n.v) (by omega)]; simp
  · rw [decide_eq_false (p := n.v ≤ greatest n.k) (by omega)]; simp
set_option maxHeartbeats 1600000 in
theorem isLeaf_any (w : World) (n : Nd) : Calls Try.prog 98 #[ndV n] w fun e w' => e = .returned (.bool (isLeafB n)) ∧ Below w.heap.size w w' := by
  unfold ndV
  have HG := Lib.hid (fun w0 => greatestValue_any w0 n.k)
  by_cases h1 : 1 ≤ n.k
  · by_cases h2 : n.k ≤ 14
    · by_cases h3 : 0 ≤ n.v
      · by_cases h4 : n.v ≤ greatest n.k
        · by_cases hs : n.s = ByteArray.empty
          · have hn : n.s.toList.isEmpty = true := str_none hs
            have H := Lib.hid (leafB_all hs h1 h2 h3 h4)
            clear hs
            generalize greatest n.k = g at HG h4
            go_enter Try.func98, Try.ntmps98
            go_wp2
            go_quiet ((go_at_call 112; exact Calls.quiet_of_same (HG.out _)))
            go_wp2
            go_ret
            rw [H.out]
            exact ⟨rfl, by repeat' (first | exact Below.refl _ _ | apply Below.drew | apply below_drewN | apply Below.setCell | apply Below.alloc | (simp; done) | omega | (simp; omega))⟩
          · have hn : n.s.toList.isEmpty = false := str_some hs
            have H := Lib.hid (leafB_no_s hs)
            clear hs
            generalize greatest n.k = g at HG h4
            go_enter Try.func98, Try.ntmps98
            go_wp2
            go_quiet ((go_at_call 112; exact Calls.quiet_of_same (HG.out _)))
            go_wp2
            go_ret
            rw [H.out]
            exact ⟨rfl, by repeat' (first | exact Below.refl _ _ | apply Below.drew | apply below_drewN | apply Below.setCell | apply Below.alloc | (simp; done) | omega | (simp; omega))⟩
        · have H := Lib.hid (leafB_no_v (n := n) (Or.inr (by omega)))
          have hd : decide (n.v ≤ greatest n.k) = false := decide_eq_false h4
          clear h4
          generalize greatest n.k = g at HG hd
          go_enter Try.func98, Try.ntmps98
          go_wp2
          go_quiet ((go_at_call 112; exact Calls.quiet_of_same (HG.out _)))
          go_wp2
          go_ret
          rw [H.out]
          exact ⟨rfl, by repeat' (first | exact Below.refl _ _ | apply Below.drew | apply below_drewN | apply Below.setCell | apply Below.alloc | (simp; done) | omega | (simp; omega))⟩
      · have H := Lib.hid (leafB_no_v (n := n) (Or.inl (by omega)))
        have hd : decide (0 ≤ n.v) = false := decide_eq_false h3
        clear h3
        go_enter Try.func98, Try.ntmps98
        go_wp2
        go_quiet ((go_at_call 112; exact Calls.quiet_of_same (HG.out _)))
        go_wp2
        go_ret
        rw [H.out]
        exact ⟨rfl, by repeat' (first | exact Below.refl _ _ | apply Below.drew | apply below_drewN | apply Below.setCell | apply Below.alloc | (simp; done) | omega | (simp; omega))⟩
    · have H := Lib.hid (leafB_no_k (n := n) (by omega))
      have hd : decide (n.k ≤ 14) = false := decide_eq_false h2
      clear h2
      go_enter Try.func98, Try.ntmps98
      go_wp2
      go_quiet ((go_at_call 112; exact Calls.quiet_of_same (HG.out _)))
      go_wp2
      go_ret
      rw [H.out]
      exact ⟨rfl, by repeat' (first | exact Below.refl _ _ | apply Below.drew | apply below_drewN | apply Below.setCell | apply Below.alloc | (simp; done) | omega | (simp; omega))⟩
  · have H := Lib.hid (leafB_no_k (n := n) (by omega))
    have hd : decide (1 ≤ n.k) = false := decide_eq_false h1
    clear h1
    go_enter Try.func98, Try.ntmps98
    go_wp2
    go_quiet ((go_at_call 112; exact Calls.quiet_of_same (HG.out _)))
    go_wp2
    go_ret
    rw [H.out]
    exact ⟨rfl, by repeat' (first | exact Below.refl _ _ | apply Below.drew | apply below_drewN | apply Below.setCell | apply Below.alloc | (simp; done) | omega | (simp; omega))⟩
set_option maxHeartbeats 1600000 in
theorem leafWires_any (w : World) (n : Nd) : Calls Try.prog 99 #[ndV n] w fun e w' => e = .returned (wcV (leafW n).1 (leafW n).2) ∧ Below w.heap.size w w' := by
  have BEL : ∀ w' : World, w' = w → Below w.heap.size w w' := fun w' h => h ▸ Below.refl _ _
  unfold ndV
  by_cases h1 : n.k = 1
  · have H := Lib.hid (show leafW n = (n.v, n.v) from (leafW_kind n).trans (if_pos h1))
    go_enter Try.func99, Try.ntmps99
    go_wp2
    refine bodyPost_ret (v := wcV n.v n.v) (by simp [results, Try.results99, go_sem, wcV]) rfl ?_
    rw [H.out]
    exact ⟨rfl, by repeat' (first | exact Below.refl _ _ | apply Below.drew | apply Below.setCell | apply Below.alloc | (simp; done) | omega | (simp; omega))⟩
  have H0 := Lib.hid (show leafW n = kindW n.k from (leafW_kind n).trans (if_neg h1))
  by_cases h2 : n.k = 2
  · have H : Hid (leafW n = (2, 2)) := Lib.hid (by rw [H0.out, h2]; rfl)
    go_enter Try.func99, Try.ntmps99
    go_wp2
    refine bodyPost_ret (v := wcV 2 2) (by simp [results, Try.results99, go_sem, wcV]) rfl ?_
    rw [H.out]
    exact ⟨rfl, by repeat' (first | exact Below.refl _ _ | apply Below.drew | apply Below.setCell | apply Below.alloc | (simp; done) | omega | (simp; omega))⟩
  by_cases h3 : n.k = 3 ∨ n.k = 11
  · rcases h3 with h3 | h3 <;>
    (have H : Hid (leafW n = (1, 2)) := Lib.hid (by rw [H0.out, h3]; rfl)
     go_enter Try.func99, Try.ntmps99
     go_wp2
     refine bodyPost_ret (v := wcV 1 2) (by simp [results, Try.results99, go_sem, wcV]) rfl ?_
     rw [H.out]
     exact ⟨rfl, by repeat' (first | exact Below.refl _ _ | apply Below.drew | apply Below.setCell | apply Below.alloc | (simp; done) | omega | (simp; omega))⟩)
  by_cases h5 : n.k = 5 ∨ n.k = 9
  · rcases h5 with h5 | h5 <;>
    (have H : Hid (leafW n = (2, 1)) := Lib.hid (by rw [H0.out, h5]; rfl)
     go_enter Try.func99, Try.ntmps99
     go_wp2
     refine bodyPost_ret (v := wcV 2 1) (by simp [results, Try.results99, go_sem, wcV]) rfl ?_
     rw [H.out]
     exact ⟨rfl, by repeat' (first | exact Below.refl _ _ | apply Below.drew | apply Below.setCell | apply Below.alloc | (simp; done) | omega | (simp; omega))⟩)
  by_cases h4 : n.k = 4 ∨ n.k = 12
  · rcases h4 with h4 | h4 <;>
    (have H : Hid (leafW n = (1, 0)) := Lib.hid (by rw [H0.out, h4]; rfl)
     go_enter Try.func99, Try.ntmps99
     go_wp2
     refine bodyPost_ret (v := wcV 1 0) (by simp [results, Try.results99, go_sem, wcV]) rfl ?_
     rw [H.out]
     exact ⟨rfl, by repeat' (first | exact Below.refl _ _ | apply Below.drew | apply Below.setCell | apply Below.alloc | (simp; done) | omega | (simp; omega))⟩)
  by_cases h6 : n.k = 6 ∨ n.k = 10
  · rcases h6 with h6 | h6 <;>
    (have H : Hid (leafW n = (0, 1)) := Lib.hid (by rw [H0.out, h6]; rfl)
     go_enter Try.func99, Try.ntmps99
     go_wp2
     refine bodyPost_ret (v := wcV 0 1) (by simp [results, Try.results99, go_sem, wcV]) rfl ?_
     rw [H.out]
     exact ⟨rfl, by repeat' (first | exact Below.refl _ _ | apply Below.drew | apply Below.setCell | apply Below.alloc | (simp; done) | omega | (simp; omega))⟩)
  · have H : Hid (leafW n = (1, 1)) := Lib.hid (by rw [H0.out]; unfold kindW; rw [if_neg h2, if_neg h3, if_neg h5, if_neg h4, if_neg h6])
    have n3 : n.k ≠ 3 := fun h => h3 (Or.inl h)
    have n11 : n.k ≠ 11 := fun h => h3 (Or.inr h)
    have n5 : n.k ≠ 5 := fun h => h5 (Or.inl h)
    have n9 : n.k ≠ 9 := fun h => h5 (Or.inr h)
    have n4 : n.k ≠ 4 := fun h => h4 (Or.inl h)
    have n12 : n.k ≠ 12 := fun h => h4 (Or.inr h)
    have n6 : n.k ≠ 6 := fun h => h6 (Or.inl h)
    have n10 : n.k ≠ 10 := fun h => h6 (Or.inr h)
    clear h3 h5 h4 h6
    go_enter Try.func99, Try.ntmps99
    go_wp2
    refine bodyPost_ret (v := wcV 1 1) (by simp [results, Try.results99, go_sem, wcV]) rfl ?_
    rw [H.out]
    exact ⟨rfl, by repeat' (first | exact Below.refl _ _ | apply Below.drew | apply Below.setCell | apply Below.alloc | (simp; done) | omega | (simp; omega))⟩
end Go.Proofs.Ytdcgoeapgboclaa

/-! The program's parts: leaves, joints, what a node makes of the parts before it. -/
namespace Go.Proofs.Ytdcgoeapgboclaa
open Go Go.RowKit Go.Deep

theorem joint_k {n : Nd} (h1 : n.v = 0) (h2 : n.s = ByteArray.empty) : isJointB n = (decide (n.k = 15) || decide (n.k = 16)) := by
  unfold isJointB
  rw [decide_eq_true h1, decide_eq_true h2]
  simp
theorem fld0 (i o : Int) (w : World) : Sem.run Try.prog (Instr.field 122 (.agg #[.int .i64 i, .int .i64 o]) 0) w = .ok (.int .i64 i) w := by kernel_rfl
theorem fld1 (i o : Int) (w : World) : Sem.run Try.prog (Instr.field 122 (.agg #[.int .i64 i, .int .i64 o]) 1) w = .ok (.int .i64 o) w := by kernel_rfl
end Go.Proofs.Ytdcgoeapgboclaa

/-! The program's parts: joining two parts; what a node leaves behind. -/
namespace Go.Proofs.Ytdcgoeapgboclaa
open Go Go.RowKit Go.Deep

theorem joinT_seq {k : Int} {a b : Tr} (h : k = 15) : joinT k a b = if a.outw = b.inw then some (.seq a b a.inw b.outw) else none := by
  unfold joinT
  rw [if_pos h]
theorem joinT_par {k : Int} {a b : Tr} (h : k ≠ 15) : joinT k a b = if a.inw + b.inw ≤ 12 ∧ a.outw + b.outw ≤ 12 then some (.par a b (a.inw + b.inw) (a.outw + b.outw)) else none := by
  unfold joinT
  rw [if_neg h]
end Go.Proofs.Ytdcgoeapgboclaa

/-! The program's parts: what a node makes of the parts before it; the whole term. -/
namespace Go.Proofs.Ytdcgoeapgboclaa
open Go Go.RowKit Go.Deep

end Go.Proofs.Ytdcgoeapgboclaa

/-! The program's parts: what a node makes of the parts before it. -/
namespace Go.Proofs.Ytdcgoeapgboclaa
open Go Go.RowKit Go.Deep

section
variable {ops : Array Oper} {rest : List Oper} {o : Oper} {a : Act} {Q : Exit → Act → World → Prop}
end
theorem cellV_new (w : World) (y : Value) (t : TypeId) (b : Nat) (hb : b = w.heap.size) : (w.alloc (.cells #[y] t)).cell? ⟨b, 0, none⟩ = some y := by
  subst hb
  have h := (cellsAt_new w #[y] t).cell (i := 0) (by simp)
  rw [h]
  rfl
theorem stepT_leaf_no {n : Nd} (_h : isLeafB n = false) (hj : isJointB n = true) (a b : Tr) (r : List Tr) : stepT (b :: a :: r) n = (joinT n.k a b).map (· :: r) := stepT_joint hj a b r
end Go.Proofs.Ytdcgoeapgboclaa

/-! The program's parts: the tree of a whole term. -/
namespace Go.Proofs.Ytdcgoeapgboclaa
open Go Go.RowKit Go.Deep

theorem stack_next {x : List Nd} {k : Nat} {st : List Tr} (h : k < x.length) (e : stackT [] (x.take k) = some st) : stackT [] (x.take (k + 1)) = stepT st (x.getD k nd0) := by
  rw [takeN_snoc h, stackT_snoc, e]
  rfl
theorem stack_bad {x : List Nd} {k : Nat} {st : List Tr} (h : k < x.length) (e : stackT [] (x.take k) = some st) (e2 : stepT st (x.getD k nd0) = none) : treeOf x = none := by
  have e3 := stack_next h e
  rw [e2] at e3
  have e4 : stackT [] x = none := by
    conv => lhs; rw [← List.take_append_drop (k + 1) x, stackT_app, e3]
    rfl
  unfold treeOf
  rw [e4]
  simp
theorem stack_len : ∀ (ns : List Nd) {st st' : List Tr}, stackT st ns = some st' → st'.length ≤ st.length + ns.length
  | [], st, st', h => by
    obtain rfl := Option.some.inj h
    simp
  | n :: ns, st, st', h => by
    simp only [stackT] at h
    cases e : stepT st n with
    | none => rw [e] at h; cases h
    | some s2 =>
      rw [e] at h
      have h2 := stack_len ns h
      have h3 : s2.length ≤ st.length + 1 := by
        unfold stepT at e
        split at e
        · obtain rfl := Option.some.inj e
          simp
        · split at e
          · split at e
            · cases e4 : joinT n.k _ _ with
              | none => rw [e4] at e; cases e
              | some t => rw [e4] at e; obtain rfl := Option.some.inj e; simp
            · cases e
          · cases e
      simp only [List.length_cons]
      omega
theorem tree_one {x : List Nd} {t : Tr} (hl : x.length ≤ 400) (e : stackT [] x = some [t]) : treeOf x = some t := by
  unfold treeOf
  rw [if_pos hl]
  generalize stackT [] x = s at e
  subst e
  rfl
theorem tree_many {x : List Nd} {st : List Tr} (hl : x.length ≤ 400) (e : stackT [] x = some st) (h1 : st.length ≠ 1) : treeOf x = none := by
  unfold treeOf
  rw [if_pos hl]
  generalize stackT [] x = s at e
  subst e
  rcases st with _ | ⟨a, _ | ⟨b, r⟩⟩
  · rfl
  · simp at h1
  · rfl
end Go.Proofs.Ytdcgoeapgboclaa

/-! The program's type of a term. -/
namespace Go.Proofs.Ytdcgoeapgboclaa
open Go Go.RowKit Go.Deep

def tyIn (x : List Nd) : Int := match treeOf x with | some t => t.inw | none => 0
def tyOut (x : List Nd) : Int := match treeOf x with | some t => t.outw | none => 0
def tyOk (x : List Nd) : Bool := (treeOf x).isSome
end Go.Proofs.Ytdcgoeapgboclaa
