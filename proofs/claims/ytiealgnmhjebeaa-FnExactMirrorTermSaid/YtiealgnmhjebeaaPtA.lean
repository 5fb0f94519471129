/- PtV PtI PtJ PtK PtL PtM PtN in one text. -/
import Derived.Test.YtiealgnmhjebeaaTr
import Derived.Test.YtiealgnmhjebeaaTmS0
import Derived.Handy
import Derived.Deep.AppendLies
import Derived.Deep.RegionHeld3
import Derived.Deep.Cut
import Derived.StillTailTactics
import Derived.Test.YtiealgnmhjebeaaRetIIB
/-! The program's parts of a term: trees as interface values; their wires. -/
namespace Go.Proofs.Ytiealgnmhjebeaa
set_option maxRecDepth 100000
open Go Go.RowKit Go.Deep

abbrev tLeafT : TypeId := 179
abbrev tSeqT : TypeId := 193
abbrev tParT : TypeId := 194
def wcV (i o : Int) : Value := .agg #[.int .i64 i, .int .i64 o]
/-- A tree as the program holds it. -/
def trV : Tr → Value
  | .leaf n i o => .iface tLeafT (.agg #[.int .i64 n.k, .int .i64 n.v, .string n.s, .int .i64 i, .int .i64 o])
  | .seq a b i o => .iface tSeqT (.agg #[trV a, trV b, .int .i64 i, .int .i64 o])
  | .par a b i o => .iface tParT (.agg #[trV a, trV b, .int .i64 i, .int .i64 o])
theorem wires_leaf (w : World) (k v : Int) (s : ByteArray) (i o : Int) : Calls Try.prog 169 #[.agg #[.int .i64 k, .int .i64 v, .string s, .int .i64 i, .int .i64 o]] w fun e w' => e = .returned (wcV i o) ∧ Below w.heap.size w w' := by
  go_enter Try.func169, Try.ntmps169
  go_wp2
  refine bodyPost_ret (v := wcV i o) (by simp [results, Try.results169, go_sem, wcV]) rfl ?_
  exact ⟨rfl, by repeat' (first | exact Below.refl _ _ | apply Below.drew | apply Below.setCell | apply Below.alloc | (simp; done) | omega | (simp; omega))⟩
theorem wires_seq (w : World) (a b : Value) (i o : Int) : Calls Try.prog 173 #[.agg #[a, b, .int .i64 i, .int .i64 o]] w fun e w' => e = .returned (wcV i o) ∧ Below w.heap.size w w' := by
  go_enter Try.func173, Try.ntmps173
  go_wp2
  refine bodyPost_ret (v := wcV i o) (by simp [results, Try.results173, go_sem, wcV]) rfl ?_
  exact ⟨rfl, by repeat' (first | exact Below.refl _ _ | apply Below.drew | apply Below.setCell | apply Below.alloc | (simp; done) | omega | (simp; omega))⟩
theorem wires_par (w : World) (a b : Value) (i o : Int) : Calls Try.prog 177 #[.agg #[a, b, .int .i64 i, .int .i64 o]] w fun e w' => e = .returned (wcV i o) ∧ Below w.heap.size w w' := by
  go_enter Try.func177, Try.ntmps177
  go_wp2
  refine bodyPost_ret (v := wcV i o) (by simp [results, Try.results177, go_sem, wcV]) rfl ?_
  exact ⟨rfl, by repeat' (first | exact Below.refl _ _ | apply Below.drew | apply Below.setCell | apply Below.alloc | (simp; done) | omega | (simp; omega))⟩
theorem hasFactor_any (w : World) (k : Int) : Calls Try.prog 143 #[.int .i64 k] w fun e w' => e = .returned (.bool (decide (k = 7 ∨ k = 13))) ∧ w' = w := by
  by_cases h : k = 7
  · subst h
    go_enter Try.func143, Try.ntmps143
    go_wp2
    go_ret
    exact ⟨rfl, rfl⟩
  by_cases h2 : k = 13
  · subst h2
    go_enter Try.func143, Try.ntmps143
    go_wp2
    go_ret
    exact ⟨rfl, rfl⟩
  have H : Hid (decide (k = 7 ∨ k = 13) = false) := Lib.hid (by simp [h, h2])
  have H2 : Hid ((k == 7 || k == 13) = false) := Lib.hid (by simp [h, h2])
  go_enter Try.func143, Try.ntmps143
  go_wp2
  go_ret
  rw [H.out, ← H2.out]
  exact ⟨rfl, rfl⟩
theorem greatestValue_any (w : World) (k : Int) : Calls Try.prog 131 #[.int .i64 k] w fun e w' => e = .returned (.int .i64 (greatest k)) ∧ w' = w := by
  by_cases h : k = 1
  · subst h
    go_enter Try.func131, Try.ntmps131
    go_wp2
    go_ret
    exact ⟨rfl, rfl⟩
  by_cases h2 : k = 7 ∨ k = 13
  · have H : Hid (greatest k = 96) := Lib.hid (by unfold greatest; rw [if_neg h, if_pos h2])
    have HD : Hid (decide (k = 7 ∨ k = 13) = true) := Lib.hid (decide_eq_true h2)
    clear h2
    go_enter Try.func131, Try.ntmps131
    go_wp2_with (go_at_call 143; refine (hasFactor_any _ _).mono ?_; rintro e w' ⟨rfl, rfl⟩; rw [HD.out])
    go_ret
    rw [H.out]
    exact ⟨rfl, rfl⟩
  · have H : Hid (greatest k = 0) := Lib.hid (by unfold greatest; rw [if_neg h, if_neg h2])
    have HD : Hid (decide (k = 7 ∨ k = 13) = false) := Lib.hid (decide_eq_false h2)
    clear h2
    go_enter Try.func131, Try.ntmps131
    go_wp2_with (go_at_call 143; refine (hasFactor_any _ _).mono ?_; rintro e w' ⟨rfl, rfl⟩; rw [HD.out])
    go_ret
    rw [H.out]
    exact ⟨rfl, rfl⟩
theorem leafB_all {n : Nd} (hs : n.s = ByteArray.empty) (h1 : 1 ≤ n.k) (h2 : n.k ≤ 14) (h3 : 0 ≤ n.v) (h4 : n.v ≤ greatest n.k) : isLeafB n = true := by
  rw [leafB_v hs h1 h2, decide_eq_true h3, decide_eq_true h4]
  rfl
theorem leafB_no_v {n : Nd} (h : n.v < 0 ∨ greatest n.k < n.v) : isLeafB n = false := by
  unfold isLeafB
  rcases h with h | h
  · rw [decide_eq_false (p := 0 ≤ n.v) (by omega)]; simp
  · rw [decide_eq_false (p := n.v ≤ greatest n.k) (by omega)]; simp
set_option maxHeartbeats 1600000 in
theorem isLeaf_any (w : World) (n : Nd) : Calls Try.prog 121 #[ndV n] w fun e w' => e = .returned (.bool (isLeafB n)) ∧ Below w.heap.size w w' := by
  unfold ndV
  have HG := Lib.hid (fun w0 => greatestValue_any w0 n.k)
  by_cases h1 : 1 ≤ n.k
  · by_cases h2 : n.k ≤ 14
    · by_cases h3 : 0 ≤ n.v
      · by_cases h4 : n.v ≤ greatest n.k
        · by_cases hs : n.s = ByteArray.empty
          · have hn : n.s.toList.isEmpty = true := str_none hs
            have H := Lib.hid (leafB_all hs h1 h2 h3 h4)
            clear hs
            generalize greatest n.k = g at HG h4
            go_enter Try.func121, Try.ntmps121
            go_wp2
            go_quiet ((go_at_call 131; exact Calls.quiet_of_same (HG.out _)))
            go_wp2
            go_ret
            rw [H.out]
            exact ⟨rfl, by repeat' (first | exact Below.refl _ _ | apply Below.drew | apply below_drewN | apply Below.setCell | apply Below.alloc | (simp; done) | omega | (simp; omega))⟩
          · have hn : n.s.toList.isEmpty = false := str_some hs
            have H := Lib.hid (leafB_no_s hs)
            clear hs
            generalize greatest n.k = g at HG h4
            go_enter Try.func121, Try.ntmps121
            go_wp2
            go_quiet ((go_at_call 131; exact Calls.quiet_of_same (HG.out _)))
            go_wp2
            go_ret
            rw [H.out]
            exact ⟨rfl, by repeat' (first | exact Below.refl _ _ | apply Below.drew | apply below_drewN | apply Below.setCell | apply Below.alloc | (simp; done) | omega | (simp; omega))⟩
        · have H := Lib.hid (leafB_no_v (n := n) (Or.inr (by omega)))
          have hd : decide (n.v ≤ greatest n.k) = false := decide_eq_false h4
          clear h4
          generalize greatest n.k = g at HG hd
          go_enter Try.func121, Try.ntmps121
          go_wp2
          go_quiet ((go_at_call 131; exact Calls.quiet_of_same (HG.out _)))
          go_wp2
          go_ret
          rw [H.out]
          exact ⟨rfl, by repeat' (first | exact Below.refl _ _ | apply Below.drew | apply below_drewN | apply Below.setCell | apply Below.alloc | (simp; done) | omega | (simp; omega))⟩
      · have H := Lib.hid (leafB_no_v (n := n) (Or.inl (by omega)))
        have hd : decide (0 ≤ n.v) = false := decide_eq_false h3
        clear h3
        go_enter Try.func121, Try.ntmps121
        go_wp2
        go_quiet ((go_at_call 131; exact Calls.quiet_of_same (HG.out _)))
        go_wp2
        go_ret
        rw [H.out]
        exact ⟨rfl, by repeat' (first | exact Below.refl _ _ | apply Below.drew | apply below_drewN | apply Below.setCell | apply Below.alloc | (simp; done) | omega | (simp; omega))⟩
    · have H := Lib.hid (leafB_no_k (n := n) (by omega))
      have hd : decide (n.k ≤ 14) = false := decide_eq_false h2
      clear h2
      go_enter Try.func121, Try.ntmps121
      go_wp2
      go_quiet ((go_at_call 131; exact Calls.quiet_of_same (HG.out _)))
      go_wp2
      go_ret
      rw [H.out]
      exact ⟨rfl, by repeat' (first | exact Below.refl _ _ | apply Below.drew | apply below_drewN | apply Below.setCell | apply Below.alloc | (simp; done) | omega | (simp; omega))⟩
  · have H := Lib.hid (leafB_no_k (n := n) (by omega))
    have hd : decide (1 ≤ n.k) = false := decide_eq_false h1
    clear h1
    go_enter Try.func121, Try.ntmps121
    go_wp2
    go_quiet ((go_at_call 131; exact Calls.quiet_of_same (HG.out _)))
    go_wp2
    go_ret
    rw [H.out]
    exact ⟨rfl, by repeat' (first | exact Below.refl _ _ | apply Below.drew | apply below_drewN | apply Below.setCell | apply Below.alloc | (simp; done) | omega | (simp; omega))⟩
set_option maxHeartbeats 1600000 in
theorem leafWires_any (w : World) (n : Nd) : Calls Try.prog 122 #[ndV n] w fun e w' => e = .returned (wcV (leafW n).1 (leafW n).2) ∧ Below w.heap.size w w' := by
  have BEL : ∀ w' : World, w' = w → Below w.heap.size w w' := fun w' h => h ▸ Below.refl _ _
  unfold ndV
  by_cases h1 : n.k = 1
  · have H := Lib.hid (show leafW n = (n.v, n.v) from (leafW_kind n).trans (if_pos h1))
    go_enter Try.func122, Try.ntmps122
    go_wp2
    refine bodyPost_ret (v := wcV n.v n.v) (by simp [results, Try.results122, go_sem, wcV]) rfl ?_
    rw [H.out]
    exact ⟨rfl, by repeat' (first | exact Below.refl _ _ | apply Below.drew | apply Below.setCell | apply Below.alloc | (simp; done) | omega | (simp; omega))⟩
  have H0 := Lib.hid (show leafW n = kindW n.k from (leafW_kind n).trans (if_neg h1))
  by_cases h2 : n.k = 2
  · have H : Hid (leafW n = (2, 2)) := Lib.hid (by rw [H0.out, h2]; rfl)
    go_enter Try.func122, Try.ntmps122
    go_wp2
    refine bodyPost_ret (v := wcV 2 2) (by simp [results, Try.results122, go_sem, wcV]) rfl ?_
    rw [H.out]
    exact ⟨rfl, by repeat' (first | exact Below.refl _ _ | apply Below.drew | apply Below.setCell | apply Below.alloc | (simp; done) | omega | (simp; omega))⟩
  by_cases h3 : n.k = 3 ∨ n.k = 11
  · rcases h3 with h3 | h3 <;>
    (have H : Hid (leafW n = (1, 2)) := Lib.hid (by rw [H0.out, h3]; rfl)
     go_enter Try.func122, Try.ntmps122
     go_wp2
     refine bodyPost_ret (v := wcV 1 2) (by simp [results, Try.results122, go_sem, wcV]) rfl ?_
     rw [H.out]
     exact ⟨rfl, by repeat' (first | exact Below.refl _ _ | apply Below.drew | apply Below.setCell | apply Below.alloc | (simp; done) | omega | (simp; omega))⟩)
  by_cases h5 : n.k = 5 ∨ n.k = 9
  · rcases h5 with h5 | h5 <;>
    (have H : Hid (leafW n = (2, 1)) := Lib.hid (by rw [H0.out, h5]; rfl)
     go_enter Try.func122, Try.ntmps122
     go_wp2
     refine bodyPost_ret (v := wcV 2 1) (by simp [results, Try.results122, go_sem, wcV]) rfl ?_
     rw [H.out]
     exact ⟨rfl, by repeat' (first | exact Below.refl _ _ | apply Below.drew | apply Below.setCell | apply Below.alloc | (simp; done) | omega | (simp; omega))⟩)
  by_cases h4 : n.k = 4 ∨ n.k = 12
  · rcases h4 with h4 | h4 <;>
    (have H : Hid (leafW n = (1, 0)) := Lib.hid (by rw [H0.out, h4]; rfl)
     go_enter Try.func122, Try.ntmps122
     go_wp2
     refine bodyPost_ret (v := wcV 1 0) (by simp [results, Try.results122, go_sem, wcV]) rfl ?_
     rw [H.out]
     exact ⟨rfl, by repeat' (first | exact Below.refl _ _ | apply Below.drew | apply Below.setCell | apply Below.alloc | (simp; done) | omega | (simp; omega))⟩)
  by_cases h6 : n.k = 6 ∨ n.k = 10
  · rcases h6 with h6 | h6 <;>
    (have H : Hid (leafW n = (0, 1)) := Lib.hid (by rw [H0.out, h6]; rfl)
     go_enter Try.func122, Try.ntmps122
     go_wp2
     refine bodyPost_ret (v := wcV 0 1) (by simp [results, Try.results122, go_sem, wcV]) rfl ?_
     rw [H.out]
     exact ⟨rfl, by repeat' (first | exact Below.refl _ _ | apply Below.drew | apply Below.setCell | apply Below.alloc | (simp; done) | omega | (simp; omega))⟩)
  · have H : Hid (leafW n = (1, 1)) := Lib.hid (by rw [H0.out]; unfold kindW; rw [if_neg h2, if_neg h3, if_neg h5, if_neg h4, if_neg h6])
    have n3 : n.k ≠ 3 := fun h => h3 (Or.inl h)
    have n11 : n.k ≠ 11 := fun h => h3 (Or.inr h)
    have n5 : n.k ≠ 5 := fun h => h5 (Or.inl h)
    have n9 : n.k ≠ 9 := fun h => h5 (Or.inr h)
    have n4 : n.k ≠ 4 := fun h => h4 (Or.inl h)
    have n12 : n.k ≠ 12 := fun h => h4 (Or.inr h)
    have n6 : n.k ≠ 6 := fun h => h6 (Or.inl h)
    have n10 : n.k ≠ 10 := fun h => h6 (Or.inr h)
    clear h3 h5 h4 h6
    go_enter Try.func122, Try.ntmps122
    go_wp2
    refine bodyPost_ret (v := wcV 1 1) (by simp [results, Try.results122, go_sem, wcV]) rfl ?_
    rw [H.out]
    exact ⟨rfl, by repeat' (first | exact Below.refl _ _ | apply Below.drew | apply Below.setCell | apply Below.alloc | (simp; done) | omega | (simp; omega))⟩
end Go.Proofs.Ytiealgnmhjebeaa

/-! The program's parts: leaves, joints, what a node makes of the parts before it. -/
namespace Go.Proofs.Ytiealgnmhjebeaa
open Go Go.RowKit Go.Deep

set_option maxHeartbeats 1600000 in
theorem leafPart_any (w : World) (n : Nd) : Calls Try.prog 128 #[ndV n] w fun e w' => e = .returned (trV (.leaf n (leafW n).1 (leafW n).2)) ∧ Below w.heap.size w w' := by
  obtain ⟨W1, W2, HWW, HLW⟩ : ∃ W1 W2, Hid (leafW n = (W1, W2)) ∧ Hid (∀ w0, Calls Try.prog 122 #[ndV n] w0 fun e w' => e = .returned (wcV W1 W2) ∧ Below w0.heap.size w0 w') := ⟨_, _, Lib.hid rfl, Lib.hid (fun w0 => leafWires_any w0 n)⟩
  rw [HWW.out]
  have HB0 : Hid (Below w.heap.size w (w.alloc (.cells #[.int .i64 n.k, .int .i64 n.v, .string n.s] tNd))) := Lib.hid (Below.alloc (Below.refl _ _) (Nat.le_refl _) _)
  have HX := Lib.hid (cellsAt_new' w #[.int .i64 n.k, .int .i64 n.v, .string n.s] tNd [.int .i64 n.k, .int .i64 n.v, .string n.s] _ rfl rfl)
  have hsz0 : (w.alloc (.cells #[.int .i64 n.k, .int .i64 n.v, .string n.s] tNd)).heap.size = w.heap.size + 1 := by simp
  unfold ndV
  go_enter Try.func128, Try.ntmps128
  go_upto_region 1 with fail
  generalize (w.alloc (.cells #[.int .i64 n.k, .int .i64 n.v, .string n.s] tNd)) = W at HB0 HX hsz0 ⊢
  have hW1 : w.heap.size < W.heap.size := by omega
  clear hsz0
  have hx := cells3 HX.out
  have HELD : Hid (∀ w' : World, w'.heap[w.heap.size]? = W.heap[w.heap.size]? → w'.cell? ⟨w.heap.size, 0, none⟩ = some (.int .i64 n.k) ∧ w'.cell? ⟨w.heap.size, 1, none⟩ = some (.int .i64 n.v) ∧ w'.cell? ⟨w.heap.size, 2, none⟩ = some (.string n.s)) := Lib.hid (fun w' H => ⟨(World.cell?_of_block (w := W) H).trans hx.1, (World.cell?_of_block (w := W) H).trans hx.2.1, (World.cell?_of_block (w := W) H).trans hx.2.2.1⟩)
  clear hx
  have HQ0 : Hid (W.drew.heap[w.heap.size]? = W.heap[w.heap.size]?) := Lib.hid rfl
  go_region_held3 (fun w' => w'.cell? ⟨w.heap.size, 0, none⟩ = some (.int .i64 n.k) ∧ w'.cell? ⟨w.heap.size, 1, none⟩ = some (.int .i64 n.v) ∧ w'.cell? ⟨w.heap.size, 2, none⟩ = some (.string n.s))
    (first | with_reducible exact HELD.out _ HQ0.out | with_reducible exact HELD.out _ HQ3.out | fail)
    (first
      | (go_at_call 122; go_split_ands; refine (HLW.out W.drew).mono ?_; unfold wcV; rintro e w3 ⟨rfl, b3⟩; have HB3 : Hid (Below W.heap.size W w3) := Lib.hid ((Below.refl _ _).drew.trans b3); have HQ3 : Hid (w3.heap[w.heap.size]? = W.heap[w.heap.size]?) := Lib.hid (HB3.out.block _ (by omega)); clear b3)
      | fail)
  have HBE := Lib.hid (HB0.out.trans (HB3.out.mono HB0.out.size))
  go_wp2
  refine bodyPost_ret (v := trV (.leaf n W1 W2)) (by simp [results, Try.results128, go_sem, trV]) rfl ?_
  exact ⟨rfl, by refine Below.trans HBE.out ?_; exact (by repeat' (first | exact Below.refl _ _ | apply Below.drew | apply below_drewN | apply Below.setCell | apply Below.alloc | (simp; done) | omega | (simp; omega)))⟩
theorem joint_k {n : Nd} (h1 : n.v = 0) (h2 : n.s = ByteArray.empty) : isJointB n = (decide (n.k = 15) || decide (n.k = 16)) := by
  unfold isJointB
  rw [decide_eq_true h1, decide_eq_true h2]
  simp
theorem fld0 (i o : Int) (w : World) : Sem.run Try.prog (Instr.field 169 (.agg #[.int .i64 i, .int .i64 o]) 0) w = .ok (.int .i64 i) w := by kernel_rfl
theorem fld1 (i o : Int) (w : World) : Sem.run Try.prog (Instr.field 169 (.agg #[.int .i64 i, .int .i64 o]) 1) w = .ok (.int .i64 o) w := by kernel_rfl
set_option maxHeartbeats 1600000 in
theorem isJoint_any (w : World) (n : Nd) : Calls Try.prog 118 #[ndV n] w fun e w' => e = .returned (.bool (isJointB n)) ∧ Below w.heap.size w w' := by
  unfold ndV
  by_cases hs : n.s = ByteArray.empty
  · by_cases hv : n.v = 0
    · by_cases k15 : n.k = 15
      · have H : Hid (isJointB n = true) := Lib.hid (by rw [joint_k hv hs, k15]; rfl)
        rw [hs, hv, k15]
        go_enter Try.func118, Try.ntmps118
        go_wp2
        go_ret
        rw [H.out]
        exact ⟨rfl, by repeat' (first | exact Below.refl _ _ | apply Below.drew | apply below_drewN | apply Below.setCell | apply Below.alloc | (simp; done) | omega | (simp; omega))⟩
      · by_cases k16 : n.k = 16
        · have H : Hid (isJointB n = true) := Lib.hid (by rw [joint_k hv hs, k16]; rfl)
          rw [hs, hv, k16]
          go_enter Try.func118, Try.ntmps118
          go_wp2
          go_ret
          rw [H.out]
          exact ⟨rfl, by repeat' (first | exact Below.refl _ _ | apply Below.drew | apply below_drewN | apply Below.setCell | apply Below.alloc | (simp; done) | omega | (simp; omega))⟩
        · have H : Hid (isJointB n = false) := Lib.hid (by rw [joint_k hv hs, decide_eq_false k15, decide_eq_false k16]; rfl)
          rw [hs, hv]
          go_enter Try.func118, Try.ntmps118
          go_wp2
          go_ret
          rw [H.out]
          exact ⟨rfl, by repeat' (first | exact Below.refl _ _ | apply Below.drew | apply below_drewN | apply Below.setCell | apply Below.alloc | (simp; done) | omega | (simp; omega))⟩
    · have H : Hid (isJointB n = false) := Lib.hid (joint_no_v hv)
      rw [hs]
      go_enter Try.func118, Try.ntmps118
      go_wp2
      go_ret
      rw [H.out]
      exact ⟨rfl, by repeat' (first | exact Below.refl _ _ | apply Below.drew | apply below_drewN | apply Below.setCell | apply Below.alloc | (simp; done) | omega | (simp; omega))⟩
  · have H : Hid (isJointB n = false) := Lib.hid (joint_no_s hs)
    have hs2 : ¬ n.s.toList = [] := fun h => by have h2 := str_some hs; rw [h] at h2; simp at h2
    go_enter Try.func118, Try.ntmps118
    go_wp2
    all_goals (first | (exfalso; simp_all; done) | (go_ret; rw [H.out]; exact ⟨rfl, by repeat' (first | exact Below.refl _ _ | apply Below.drew | apply below_drewN | apply Below.setCell | apply Below.alloc | (simp; done) | omega | (simp; omega))⟩))
theorem trV_wires (t : Tr) : ∃ T V g, trV t = .iface T V ∧ (∀ n w, 0 < n → Sem.run Try.prog (method n T V "loop.example/g01073/impl.wires") w = .ok (g, V) w) ∧ (∀ w, Sem.run Try.prog (callFunc g #[V]) w = .ok (.enter g #[V]) w) ∧ (∀ w, Calls Try.prog g #[V] w fun e w' => e = .returned (wcV t.inw t.outw) ∧ Below w.heap.size w w') := by
  rcases t with ⟨n, i, o⟩ | ⟨a, b, i, o⟩ | ⟨a, b, i, o⟩
  · refine ⟨tLeafT, .agg #[.int .i64 n.k, .int .i64 n.v, .string n.s, .int .i64 i, .int .i64 o], 169, rfl, fun m w hm => ?_, fun w => by kernel_rfl, fun w => wires_leaf w _ _ _ i o⟩
    obtain ⟨m, rfl⟩ : ∃ q, m = q + 1 := ⟨m - 1, by omega⟩
    kernel_rfl
  · refine ⟨tSeqT, .agg #[trV a, trV b, .int .i64 i, .int .i64 o], 173, rfl, fun m w hm => ?_, fun w => by kernel_rfl, fun w => wires_seq w _ _ i o⟩
    obtain ⟨m, rfl⟩ : ∃ q, m = q + 1 := ⟨m - 1, by omega⟩
    kernel_rfl
  · refine ⟨tParT, .agg #[trV a, trV b, .int .i64 i, .int .i64 o], 177, rfl, fun m w hm => ?_, fun w => by kernel_rfl, fun w => wires_par w _ _ i o⟩
    obtain ⟨m, rfl⟩ : ∃ q, m = q + 1 := ⟨m - 1, by omega⟩
    kernel_rfl
set_option maxHeartbeats 3200000 in
theorem compose_any (w : World) (a b : Tr) : Calls Try.prog 129 #[trV a, trV b] w fun e w' => e = .returned (trV (.seq a b a.inw b.outw)) ∧ Below w.heap.size w w' := by
  obtain ⟨R, HR⟩ : ∃ R, Hid (trV (.seq a b a.inw b.outw) = R) := ⟨_, Lib.hid rfl⟩
  rw [HR.out]
  obtain ⟨Ta, Va, ga, ea, hma, hca, hCa⟩ := trV_wires a
  obtain ⟨Tb, Vb, gb, eb, hmb, hcb, hCb⟩ := trV_wires b
  have HCa := Lib.hid hCa
  have HCb := Lib.hid hCb
  clear hCa hCb
  have hf0 := fld0
  have hf1 := fld1
  rw [ea, eb]
  go_enter Try.func129, Try.ntmps129
  go_wp2_with (first | (with_reducible refine (HCa.out _).mono ?_; rintro e w1 ⟨rfl, b1⟩; have HB1 := Lib.hid b1; clear b1; unfold wcV) | (with_reducible refine (HCb.out _).mono ?_; rintro e w2 ⟨rfl, b2⟩; have HB2 := Lib.hid b2; clear b2; unfold wcV) | fail)
  have HE := Lib.hid (HB1.out.trans (HB2.out.mono HB1.out.size))
  refine bodyPost_ret (v := R) (by rw [← HR.out]; simp [results, Try.results129, go_sem, trV, ea, eb]) rfl ?_
  exact ⟨rfl, by refine Below.trans HE.out ?_; exact (by repeat' (first | exact Below.refl _ _ | apply Below.drew | apply below_drewN | apply Below.setCell | apply Below.alloc | (simp; done) | omega | (simp; omega)))⟩
end Go.Proofs.Ytiealgnmhjebeaa

/-! The program's parts: joining two parts; what a node leaves behind. -/
namespace Go.Proofs.Ytiealgnmhjebeaa
open Go Go.RowKit Go.Deep

set_option maxHeartbeats 3200000 in
theorem juxtapose_any (w : World) (a b : Tr) (ha : Fits a) (hb : Fits b) : Calls Try.prog 130 #[trV a, trV b] w fun e w' => e = .returned (trV (.par a b (a.inw + b.inw) (a.outw + b.outw))) ∧ Below w.heap.size w w' := by
  obtain ⟨R, HR⟩ : ∃ R, Hid (trV (.par a b (a.inw + b.inw) (a.outw + b.outw)) = R) := ⟨_, Lib.hid rfl⟩
  rw [HR.out]
  obtain ⟨a1, a2, a3, a4⟩ := ha
  obtain ⟨b1, b2, b3, b4⟩ := hb
  obtain ⟨Ta, Va, ga, ea, hma, hca, hCa⟩ := trV_wires a
  obtain ⟨Tb, Vb, gb, eb, hmb, hcb, hCb⟩ := trV_wires b
  have HCa := Lib.hid hCa
  have HCb := Lib.hid hCb
  clear hCa hCb
  have hf0 := fld0
  have hf1 := fld1
  rw [ea, eb]
  go_enter Try.func130, Try.ntmps130
  generalize a.inw = ai at *
  generalize a.outw = ao at *
  generalize b.inw = bi at *
  generalize b.outw = bo at *
  have hw1 : IntKind.i64.wrap (ai + bi) = ai + bi := Go.IntWalk.i64_in _ ⟨by omega, by omega⟩
  have hw2 : IntKind.i64.wrap (ao + bo) = ao + bo := Go.IntWalk.i64_in _ ⟨by omega, by omega⟩
  go_wp2_with (first | (with_reducible refine (HCa.out _).mono ?_; rintro e w1 ⟨rfl, b1⟩; have HB1 := Lib.hid b1; clear b1; unfold wcV) | (with_reducible refine (HCb.out _).mono ?_; rintro e w2 ⟨rfl, b2⟩; have HB2 := Lib.hid b2; clear b2; unfold wcV) | fail)
  have HE := Lib.hid (HB1.out.trans (HB2.out.mono HB1.out.size))
  have hsz : w.heap.size ≤ w2.heap.size := HE.out.size
  refine bodyPost_ret (v := R) (by rw [← HR.out]; simp [results, Try.results130, go_sem, trV, ea, eb]) rfl ?_
  exact ⟨rfl, by refine Below.trans HE.out ?_; exact (by repeat' (first | exact Below.refl _ _ | apply Below.drew | apply below_drewN | apply Below.setCell | apply Below.alloc | (simp; done) | omega | (simp; omega)))⟩
def JoinSaid (w : World) (k : Int) (a b : Tr) (e : Ending) (w' : World) : Prop := ∃ t ok, e = .returned (.tuple #[trV t, .bool ok]) ∧ Below w.heap.size w w' ∧ joinT k a b = if ok = true then some t else none
theorem joinT_seq {k : Int} {a b : Tr} (h : k = 15) : joinT k a b = if a.outw = b.inw then some (.seq a b a.inw b.outw) else none := by
  unfold joinT
  rw [if_pos h]
theorem joinT_par {k : Int} {a b : Tr} (h : k ≠ 15) : joinT k a b = if a.inw + b.inw ≤ 12 ∧ a.outw + b.outw ≤ 12 then some (.par a b (a.inw + b.inw) (a.outw + b.outw)) else none := by
  unfold joinT
  rw [if_neg h]
set_option maxHeartbeats 3200000 in
theorem joinParts_any (w : World) (k : Int) (a b : Tr) (ha : Fits a) (hb : Fits b) : Calls Try.prog 119 #[.int .i64 k, trV a, trV b] w (JoinSaid w k a b) := by
  unfold JoinSaid
  obtain ⟨Ta, Va, ga, ea, hma, hca, hCa⟩ := trV_wires a
  obtain ⟨Tb, Vb, gb, eb, hmb, hcb, hCb⟩ := trV_wires b
  have HCa := Lib.hid hCa
  have HCb := Lib.hid hCb
  clear hCa hCb
  have hf0 := fld0
  have hf1 := fld1
  rw [ea, eb]
  obtain ⟨Tc, Vc, gc, ec, hmc, hcc, hCc⟩ := trV_wires (.par a b (a.inw + b.inw) (a.outw + b.outw))
  obtain ⟨Td, Vd, gd, ed, -, -, -⟩ := trV_wires (.seq a b a.inw b.outw)
  have HCC := Lib.hid (show ∀ w, Calls Try.prog gc #[Vc] w fun e w' => e = .returned (wcV (a.inw + b.inw) (a.outw + b.outw)) ∧ Below w.heap.size w w' from hCc)
  clear hCc
  have HCO := fun w0 => compose_any w0 a b
  have HJX := fun w0 => juxtapose_any w0 a b ha hb
  rw [ea, eb, ed] at HCO
  rw [ea, eb, ec] at HJX
  have HCO2 := Lib.hid HCO
  have HJX2 := Lib.hid HJX
  clear HCO HJX
  obtain ⟨a1, a2, a3, a4⟩ := ha
  obtain ⟨b1, b2, b3, b4⟩ := hb
  by_cases hk : k = 15
  · have HJT := Lib.hid (joinT_seq (a := a) (b := b) hk)
    by_cases hq : a.outw = b.inw
    · have HJ := Lib.hid (HJT.out.trans (if_pos hq))
      have hq2 : (a.outw == b.inw) = true := by simp [hq]
      clear hq
      go_enter Try.func119, Try.ntmps119
      go_wp2_with (first | (go_at_call 129; refine (HCO2.out _).mono ?_; rintro e w3 ⟨rfl, b3⟩; have HB3 := Lib.hid b3; clear b3) | (go_at_call 130; refine (HJX2.out _).mono ?_; rintro e w4 ⟨rfl, b4⟩; have HB4 := Lib.hid b4; clear b4) | (with_reducible refine (HCC.out _).mono ?_; rintro e w5 ⟨rfl, b5⟩; have HB5 := Lib.hid b5; clear b5; unfold wcV) | (with_reducible refine (HCa.out _).mono ?_; rintro e w1 ⟨rfl, b1⟩; have HB1 := Lib.hid b1; clear b1; unfold wcV) | (with_reducible refine (HCb.out _).mono ?_; rintro e w2 ⟨rfl, b2⟩; have HB2 := Lib.hid b2; clear b2; unfold wcV) | fail)
      have HE := Lib.hid (HB3.out.trans ((HB1.out.trans (HB2.out.mono HB1.out.size)).mono HB3.out.size))
      refine bodyPost_ret (v := .tuple #[.iface Td Vd, .bool true]) (by simp [results, Try.results119, go_sem]) rfl ?_
      refine ⟨(.seq a b a.inw b.outw), true, by rw [ed], by refine Below.trans HE.out ?_; exact (by repeat' (first | exact Below.refl _ _ | apply Below.drew | apply below_drewN | apply Below.setCell | apply Below.alloc | (simp; done) | omega | (simp; omega))), ?_⟩
      rw [HJ.out]; rfl
    · have HJ := Lib.hid (HJT.out.trans (if_neg hq))
      have hq2 : (a.outw == b.inw) = false := by simp [hq]
      clear hq
      go_enter Try.func119, Try.ntmps119
      go_wp2_with (first | (go_at_call 129; refine (HCO2.out _).mono ?_; rintro e w3 ⟨rfl, b3⟩; have HB3 := Lib.hid b3; clear b3) | (go_at_call 130; refine (HJX2.out _).mono ?_; rintro e w4 ⟨rfl, b4⟩; have HB4 := Lib.hid b4; clear b4) | (with_reducible refine (HCC.out _).mono ?_; rintro e w5 ⟨rfl, b5⟩; have HB5 := Lib.hid b5; clear b5; unfold wcV) | (with_reducible refine (HCa.out _).mono ?_; rintro e w1 ⟨rfl, b1⟩; have HB1 := Lib.hid b1; clear b1; unfold wcV) | (with_reducible refine (HCb.out _).mono ?_; rintro e w2 ⟨rfl, b2⟩; have HB2 := Lib.hid b2; clear b2; unfold wcV) | fail)
      have HE := Lib.hid (HB3.out.trans ((HB1.out.trans (HB2.out.mono HB1.out.size)).mono HB3.out.size))
      refine bodyPost_ret (v := .tuple #[.iface Td Vd, .bool false]) (by simp [results, Try.results119, go_sem]) rfl ?_
      refine ⟨(.seq a b a.inw b.outw), false, by rw [ed], by refine Below.trans HE.out ?_; exact (by repeat' (first | exact Below.refl _ _ | apply Below.drew | apply below_drewN | apply Below.setCell | apply Below.alloc | (simp; done) | omega | (simp; omega))), ?_⟩
      rw [HJ.out]; rfl
  · have HJT := Lib.hid (joinT_par (a := a) (b := b) hk)
    by_cases hi : a.inw + b.inw ≤ 12
    · by_cases ho : a.outw + b.outw ≤ 12
      · have HJ := Lib.hid (HJT.out.trans (if_pos ⟨hi, ho⟩))
        go_enter Try.func119, Try.ntmps119
        go_wp2_with (first | (go_at_call 129; refine (HCO2.out _).mono ?_; rintro e w3 ⟨rfl, b3⟩; have HB3 := Lib.hid b3; clear b3) | (go_at_call 130; refine (HJX2.out _).mono ?_; rintro e w4 ⟨rfl, b4⟩; have HB4 := Lib.hid b4; clear b4) | (with_reducible refine (HCC.out _).mono ?_; rintro e w5 ⟨rfl, b5⟩; have HB5 := Lib.hid b5; clear b5; unfold wcV) | (with_reducible refine (HCa.out _).mono ?_; rintro e w1 ⟨rfl, b1⟩; have HB1 := Lib.hid b1; clear b1; unfold wcV) | (with_reducible refine (HCb.out _).mono ?_; rintro e w2 ⟨rfl, b2⟩; have HB2 := Lib.hid b2; clear b2; unfold wcV) | fail)
        go_quiet (fail)
        go_wp2
        have HE := Lib.hid (HB4.out.trans (HB5.out.mono HB4.out.size))
        have hsz : w.heap.size ≤ w5.heap.size := HE.out.size
        refine bodyPost_ret (v := .tuple #[.iface Tc Vc, .bool true]) (by simp [results, Try.results119, go_sem]) rfl ?_
        refine ⟨(.par a b (a.inw + b.inw) (a.outw + b.outw)), true, by rw [ec], by refine Below.trans HE.out ?_; exact (by repeat' (first | exact Below.refl _ _ | apply Below.drew | apply below_drewN | apply Below.setCell | apply Below.alloc | (simp; done) | omega | (simp; omega))), ?_⟩
        rw [HJ.out]; rfl
      · have HJ := Lib.hid (HJT.out.trans (if_neg (fun h => ho h.2)))
        have hd : decide (a.outw + b.outw ≤ 12) = false := decide_eq_false ho
        clear ho
        go_enter Try.func119, Try.ntmps119
        go_wp2_with (first | (go_at_call 129; refine (HCO2.out _).mono ?_; rintro e w3 ⟨rfl, b3⟩; have HB3 := Lib.hid b3; clear b3) | (go_at_call 130; refine (HJX2.out _).mono ?_; rintro e w4 ⟨rfl, b4⟩; have HB4 := Lib.hid b4; clear b4) | (with_reducible refine (HCC.out _).mono ?_; rintro e w5 ⟨rfl, b5⟩; have HB5 := Lib.hid b5; clear b5; unfold wcV) | (with_reducible refine (HCa.out _).mono ?_; rintro e w1 ⟨rfl, b1⟩; have HB1 := Lib.hid b1; clear b1; unfold wcV) | (with_reducible refine (HCb.out _).mono ?_; rintro e w2 ⟨rfl, b2⟩; have HB2 := Lib.hid b2; clear b2; unfold wcV) | fail)
        go_quiet (fail)
        go_wp2
        have HE := Lib.hid (HB4.out.trans (HB5.out.mono HB4.out.size))
        have hsz : w.heap.size ≤ w5.heap.size := HE.out.size
        refine bodyPost_ret (v := .tuple #[.iface Tc Vc, .bool false]) (by simp [results, Try.results119, go_sem]) rfl ?_
        refine ⟨(.par a b (a.inw + b.inw) (a.outw + b.outw)), false, by rw [ec], by refine Below.trans HE.out ?_; exact (by repeat' (first | exact Below.refl _ _ | apply Below.drew | apply below_drewN | apply Below.setCell | apply Below.alloc | (simp; done) | omega | (simp; omega))), ?_⟩
        rw [HJ.out]; rfl
    · have HJ := Lib.hid (HJT.out.trans (if_neg (fun h => hi h.1)))
      have hd : decide (a.inw + b.inw ≤ 12) = false := decide_eq_false hi
      clear hi
      go_enter Try.func119, Try.ntmps119
      go_wp2_with (first | (go_at_call 129; refine (HCO2.out _).mono ?_; rintro e w3 ⟨rfl, b3⟩; have HB3 := Lib.hid b3; clear b3) | (go_at_call 130; refine (HJX2.out _).mono ?_; rintro e w4 ⟨rfl, b4⟩; have HB4 := Lib.hid b4; clear b4) | (with_reducible refine (HCC.out _).mono ?_; rintro e w5 ⟨rfl, b5⟩; have HB5 := Lib.hid b5; clear b5; unfold wcV) | (with_reducible refine (HCa.out _).mono ?_; rintro e w1 ⟨rfl, b1⟩; have HB1 := Lib.hid b1; clear b1; unfold wcV) | (with_reducible refine (HCb.out _).mono ?_; rintro e w2 ⟨rfl, b2⟩; have HB2 := Lib.hid b2; clear b2; unfold wcV) | fail)
      go_quiet (fail)
      go_wp2
      have HE := Lib.hid (HB4.out.trans (HB5.out.mono HB4.out.size))
      have hsz : w.heap.size ≤ w5.heap.size := HE.out.size
      refine bodyPost_ret (v := .tuple #[.iface Tc Vc, .bool false]) (by simp [results, Try.results119, go_sem]) rfl ?_
      refine ⟨(.par a b (a.inw + b.inw) (a.outw + b.outw)), false, by rw [ec], by refine Below.trans HE.out ?_; exact (by repeat' (first | exact Below.refl _ _ | apply Below.drew | apply below_drewN | apply Below.setCell | apply Below.alloc | (simp; done) | omega | (simp; omega))), ?_⟩
      rw [HJ.out]; rfl
end Go.Proofs.Ytiealgnmhjebeaa

/-! The program's parts: what a node makes of the parts before it; the whole term. -/
namespace Go.Proofs.Ytiealgnmhjebeaa
open Go Go.RowKit Go.Deep

theorem look_nil (s : ByteArray) (w : World) : Sem.run Try.prog (Instr.lookup 141 (.map none) (.string s) true) w = .ok (.tuple #[.agg #[.string ByteArray.empty, .int .i64 0, .int .i64 0, .slice none 0 0], .bool false]) w := by kernel_rfl
def leafRes (n : Nd) : Value := if isLeafB n = true then trV (.leaf n (leafW n).1 (leafW n).2) else .nilIface
set_option maxHeartbeats 3200000 in
theorem leafIn_any (w : World) (n : Nd) : Calls Try.prog 117 #[.map none, ndV n] w fun e w' => e = .returned (.tuple #[leafRes n, .bool (isLeafB n)]) ∧ Below w.heap.size w w' := by
  have HIL := Lib.hid (fun w0 => isLeaf_any w0 n)
  have HLP := Lib.hid (fun w0 => leafPart_any w0 n)
  by_cases hl : isLeafB n = true
  · have HR : Hid (leafRes n = trV (.leaf n (leafW n).1 (leafW n).2)) := Lib.hid (if_pos hl)
    rw [hl] at HIL
    rw [HR.out, hl]
    clear hl HR
    obtain ⟨R, HR⟩ : ∃ R, Hid (trV (.leaf n (leafW n).1 (leafW n).2) = R) := ⟨_, Lib.hid rfl⟩
    rw [HR.out] at HLP ⊢
    unfold ndV at HIL HLP ⊢
    go_enter Try.func117, Try.ntmps117
    go_wp2_with (first | (go_at_call 121; refine (HIL.out _).mono ?_; rintro e w1 ⟨rfl, b1⟩; have HB1 : Hid (Below w.heap.size w w1) := Lib.hid ((Below.alloc (Below.refl _ _) (Nat.le_refl _) _).trans (b1.mono (by simp))); have hc := Lib.hid ((cellsAt_new' w #[.int .i64 n.k, .int .i64 n.v, .string n.s] tNd [.int .i64 n.k, .int .i64 n.v, .string n.s] _ rfl rfl).below b1 (by simp)); obtain ⟨hn0, hn1, hn2, -, -, -, -⟩ := cells3 hc.out; clear b1) | (go_at_call 128; refine (HLP.out _).mono ?_; rintro e w2 ⟨rfl, b2⟩; have HB2 := Lib.hid (HB1.out.trans (b2.mono HB1.out.size)); clear b2) | fail)
    refine bodyPost_ret (v := .tuple #[R, .bool true]) (by simp [results, Try.results117, go_sem]) rfl ?_
    exact ⟨rfl, HB2.out⟩
  · have hl0 : isLeafB n = false := by simpa using hl
    have HR : Hid (leafRes n = .nilIface) := Lib.hid (if_neg hl)
    rw [hl0] at HIL
    rw [HR.out, hl0]
    clear hl HR
    have hlook := look_nil n.s
    unfold ndV at HIL ⊢
    go_enter Try.func117, Try.ntmps117
    go_wp2_with (first | (go_at_call 121; refine (HIL.out _).mono ?_; rintro e w1 ⟨rfl, b1⟩; have HB1 : Hid (Below w.heap.size w w1) := Lib.hid ((Below.alloc (Below.refl _ _) (Nat.le_refl _) _).trans (b1.mono (by simp))); have hc := Lib.hid ((cellsAt_new' w #[.int .i64 n.k, .int .i64 n.v, .string n.s] tNd [.int .i64 n.k, .int .i64 n.v, .string n.s] _ rfl rfl).below b1 (by simp)); obtain ⟨hn0, hn1, hn2, -, -, -, -⟩ := cells3 hc.out; clear b1) | fail)
    have hsz : w.heap.size ≤ w1.heap.size := HB1.out.size
    refine bodyPost_ret (v := .tuple #[.nilIface, .bool false]) (by simp [results, Try.results117, go_sem]) rfl ?_
    exact ⟨rfl, by refine Below.trans HB1.out ?_; exact (by repeat' (first | exact Below.refl _ _ | apply Below.drew | apply below_drewN | apply Below.setCell | apply Below.alloc | (simp; done) | omega | (simp; omega)))⟩
end Go.Proofs.Ytiealgnmhjebeaa

/-! The program's parts: what a node makes of the parts before it. -/
namespace Go.Proofs.Ytiealgnmhjebeaa
open Go Go.RowKit Go.Deep

abbrev tPart : TypeId := 62
/-- A row of one's own that holds parts, the last one first in the list. -/
def OwP (w : World) (B : Nat) (v : Value) (st : List Tr) : Prop := w.ownsRow B tPart 1 v st.length (st.reverse.map trV)
theorem infoP : (Try.prog.info? tPart).map (fun i => (i.zero, i.size, i.bytes)) = some (some .nilIface, 1, 16) := by kernel_rfl
theorem OwP.nil (w : World) (B : Nat) : OwP w B (.slice none 0 0) [] := World.ownsRow_nil _ _ _ _
theorem OwP.form {w : World} {B : Nat} {v : Value} {st : List Tr} (h : OwP w B v st) : ∃ A c, v = .slice A st.length c := by
  rcases h.2 with ⟨rfl, h0⟩ | ⟨g, cap, cur, rfl, _⟩
  · exact ⟨none, 0, by rw [h0]⟩
  · exact ⟨_, cap, rfl⟩
theorem OwP.grown {w w' : World} {B : Nat} {v : Value} {st : List Tr} (h : OwP w B v st) (hg : w.grownBy w' none) : OwP w' B v st :=
  World.ownsRow.kept h hg (by cases v.ownBlock <;> simp)
theorem OwP.cell {w : World} {B g n c : Nat} {st : List Tr} (h : OwP w B (.slice (some ⟨g, 0, none⟩) n c) st) {q : Nat} {t : Tr} (hq : st.reverse[q]? = some t) : w.cell? ⟨g, q, none⟩ = some (trV t) := by
  have hc := World.ownsRow.cells h (g := g) rfl q (trV t) (by rw [List.getElem?_map, hq]; rfl)
  have e : (⟨g, 0, none⟩ : Addr).add q = ⟨g, q, none⟩ := by unfold Addr.add; split <;> simp_all
  rw [e] at hc
  exact hc
/-- The row cut at its end. -/
theorem OwP.cut {w : World} {B g c n : Nat} {a b : Tr} {r : List Tr} (h : OwP w B (.slice (some ⟨g, 0, none⟩) n c) (b :: a :: r)) : w.ownsRow B tPart 1 (.slice (some ⟨g, 0, none⟩) r.length c) (r.reverse.map trV).length (r.reverse.map trV) := by
  obtain ⟨h1, h2⟩ := h
  refine ⟨by simp, Or.inr ?_⟩
  rcases h2 with ⟨e, _⟩ | ⟨g', cap, cur, e, hb, hg, hn, hm, hs, ht⟩
  · cases e
  · cases e
    refine ⟨g, c, cur, by simp, hb, hg, by simp at hn ⊢; omega, hm, hs, ?_⟩
    have e2 := congrArg (fun l => l.take r.length) ht
    simp only [List.take_take] at e2
    rw [Nat.min_eq_left (by simp only [List.length_cons]; omega)] at e2
    simp only [List.length_map, List.length_reverse, Nat.mul_one]
    rw [e2]
    simp
theorem OwP.cutN {w : World} {B g c n : Nat} {a b : Tr} {r : List Tr} (h : OwP w B (.slice (some ⟨g, 0, none⟩) n c) (b :: a :: r)) : w.ownsRow B tPart 1 (.slice (some ⟨g, 0, none⟩) r.length c) r.length (r.reverse.map trV) := by
  have h2 := h.cut
  rw [List.length_map, List.length_reverse] at h2
  exact h2
section
variable {ops : Array Oper} {rest : List Oper} {o : Oper} {a : Act} {Q : Exit → Act → World → Prop}
theorem wpList_pushP (hgd : o.guard = none) (s x : Operand) (ho : o.op = .call { callee := .builtin .append, args := #[s, x], argTypes := #[142, 142] }) (w : World) (B n : Nat) (v : Value) (vs : List Value) (y : Value) (b c : Nat)
    (hs : a.eval s = v) (hown : w.ownsRow B tPart 1 v n vs) (hx : a.eval x = .slice (some ⟨b, 0, none⟩) 1 c) (hc : w.cell? ⟨b, 0, none⟩ = some y) (hy : y.oneCell' = true) (hB : B ≤ w.heap.size) (hn : n + 1 ≤ 1000000)
    (h : ∀ g cap w', w'.ownsRow B tPart 1 (.slice (some ⟨g, 0, none⟩) (n + 1) cap) (n + 1) (vs ++ [y]) → w.grownBy w' v.ownBlock → wpList Try.prog ops Q rest (a.put o.dst (.slice (some ⟨g, 0, none⟩) (n + 1) cap)) w') : wpList Try.prog ops Q (o :: rest) a w := by
  obtain ⟨i0, hi0, hz0, hz1, hz2⟩ := info_parts infoP
  refine wpList_append_lies w hgd s x _ ho B tPart i0 _ 1 16 Try.underlying142 hi0 hz0 hz1 hz2 rfl (by omega) v n vs hs hown ⟨b, 0, none⟩ 1 c [y] hx rfl (fun j u hj => ?_) (fun u hu => ?_) (by omega) (by unfold maxLen; omega) (by omega) hB _ rfl (fun g cap w' h1 h2 h3 _ => h g cap w' h1 h2)
  · match j, hj with
    | 0, hj =>
      simp at hj
      subst hj
      simpa [Addr.add] using hc
  · simp at hu
    subst hu
    exact hy
end
theorem cellV_new (w : World) (y : Value) (t : TypeId) (b : Nat) (hb : b = w.heap.size) : (w.alloc (.cells #[y] t)).cell? ⟨b, 0, none⟩ = some y := by
  subst hb
  have h := (cellsAt_new w #[y] t).cell (i := 0) (by simp)
  rw [h]
  rfl
/-- What a write into rows from B on leaves alone. -/
theorem below_grown {w w' : World} {B n : Nat} {v : Value} {xs : List Value} (h : w.ownsRow B tPart 1 v n xs) (hg : w.grownBy w' v.ownBlock) (hB : B ≤ w.heap.size) : Below B w w' :=
  ⟨hg.os, hg.tape, hg.output, hg.size, fun k hk => hg.block k (Nat.lt_of_lt_of_le hk hB) (fun e => by have := (World.ownsRow.lt h k e.symm).1; omega)⟩
theorem stepT_leaf_no {n : Nd} (_h : isLeafB n = false) (hj : isJointB n = true) (a b : Tr) (r : List Tr) : stepT (b :: a :: r) n = (joinT n.k a b).map (· :: r) := stepT_joint hj a b r
def AddSaid (w : World) (B : Nat) (st : List Tr) (n : Nd) (e : Ending) (w' : World) : Prop :=
  ∃ u ok, e = .returned (.tuple #[u, .bool ok]) ∧ Below B w w' ∧ ((∃ st', stepT st n = some st' ∧ ok = true ∧ OwP w' B u st') ∨ (stepT st n = none ∧ ok = false))
set_option maxRecDepth 100000 in
set_option maxHeartbeats 6400000 in
theorem addNode_any (w : World) (B : Nat) (v : Value) (st : List Tr) (n : Nd) (hv : OwP w B v st) (hB : B ≤ w.heap.size) (hf : ∀ t ∈ st, Fits t) (hlen : st.length ≤ 1000) :
    Calls Try.prog 97 #[.map none, v, ndV n] w (AddSaid w B st n) := by
  obtain ⟨A, c, rfl⟩ := hv.form
  have HV := Lib.hid hv
  have HB := Lib.hid hB
  have HF := Lib.hid hf
  have HLI := Lib.hid (fun w0 => leafIn_any w0 n)
  have HIJ := Lib.hid (fun w0 => isJoint_any w0 n)
  clear hv hf
  by_cases hl : isLeafB n = true
  · have HST := Lib.hid (stepT_leaf hl st)
    have HR : Hid (leafRes n = trV (.leaf n (leafW n).1 (leafW n).2)) := Lib.hid (if_pos hl)
    rw [hl, HR.out] at HLI
    obtain ⟨T, V, g, et, -⟩ := trV_wires (.leaf n (leafW n).1 (leafW n).2)
    have HET := Lib.hid et
    rw [et] at HLI
    clear hl et HR HF
    unfold ndV at HLI ⊢
    go_enter Try.func97, Try.ntmps97
    go_wp2_with (first | (at_builtin; refine wpList_pushP rfl _ _ rfl _ B st.length _ (st.reverse.map trV) (.iface T V) w1.heap.size 1 rfl (World.ownsRow.alloc HV1.out _) rfl (cellV_new _ _ _ _ rfl) rfl (by have := HB1.out.size; have := HB.out; simp; omega) (by omega) ?_) | (first | (go_at_call 117; refine (HLI.out _).mono ?_; rintro e w1 ⟨rfl, b1⟩; have HB1 : Hid (Below w.heap.size w w1) := Lib.hid ((Below.alloc (Below.refl _ _) (Nat.le_refl _) _).trans (b1.mono (by simp))); have hc := Lib.hid ((cellsAt_new' w #[.int .i64 n.k, .int .i64 n.v, .string n.s] tNd [.int .i64 n.k, .int .i64 n.v, .string n.s] _ rfl rfl).below b1 (by simp)); obtain ⟨hn0, hn1, hn2, -, -, -, hsz1⟩ := cells3 hc.out; have HV1 := Lib.hid (HV.out.grown (grown_of_below HB1.out)); clear b1) | (go_at_call 118; refine (HIJ.out _).mono ?_; rintro e w2 ⟨rfl, b2⟩; have HB2 := Lib.hid (HB1.out.trans (b2.mono HB1.out.size)); have hc2 := Lib.hid (hc.out.below b2 hc.out.lt); obtain ⟨hm0, hm1, hm2, -, -, -, hsz2⟩ := cells3 hc2.out; clear b2) | fail) | fail)
    intro g2 cap w3 ho hg
    go_wp2
    have HE := Lib.hid ((HB1.out.mono HB.out).trans ((Below.alloc (Below.refl B w1) (Nat.le_trans HB.out HB1.out.size) (.cells #[.iface T V] tPart)).trans (below_grown (World.ownsRow.alloc HV1.out _) hg (by have := HB1.out.size; have := HB.out; simp; omega))))
    refine bodyPost_ret (v := .tuple #[.slice (some ⟨g2, 0, none⟩) (st.length + 1) cap, .bool true]) (by simp [results, Try.results97, go_sem]) rfl ?_
    refine ⟨_, _, rfl, HE.out, Or.inl ⟨_, HST.out, rfl, ?_⟩⟩
    unfold OwP
    rw [List.reverse_cons, List.map_append, List.length_cons, List.map_singleton, HET.out, List.map_reverse]
    exact ho
  · have hl0 : isLeafB n = false := by simpa using hl
    have HR : Hid (leafRes n = .nilIface) := Lib.hid (if_neg hl)
    rw [hl0, HR.out] at HLI
    by_cases hj : isJointB n = true
    · rcases st with _ | ⟨b, _ | ⟨a, r⟩⟩
      · have HST : Hid (stepT [] n = none) := Lib.hid (by unfold stepT; rw [if_neg hl])
        rw [hj] at HIJ
        clear hl hj HR
        unfold ndV at HLI HIJ ⊢
        simp only [List.length_nil] at *
        go_enter Try.func97, Try.ntmps97
        go_wp2_with (first | (go_at_call 117; refine (HLI.out _).mono ?_; rintro e w1 ⟨rfl, b1⟩; have HB1 : Hid (Below w.heap.size w w1) := Lib.hid ((Below.alloc (Below.refl _ _) (Nat.le_refl _) _).trans (b1.mono (by simp))); have hc := Lib.hid ((cellsAt_new' w #[.int .i64 n.k, .int .i64 n.v, .string n.s] tNd [.int .i64 n.k, .int .i64 n.v, .string n.s] _ rfl rfl).below b1 (by simp)); obtain ⟨hn0, hn1, hn2, -, -, -, hsz1⟩ := cells3 hc.out; clear b1) | (go_at_call 118; refine (HIJ.out _).mono ?_; rintro e w2 ⟨rfl, b2⟩; have HB2 := Lib.hid (HB1.out.trans (b2.mono HB1.out.size)); have hc2 := Lib.hid (hc.out.below b2 hc.out.lt); obtain ⟨hm0, hm1, hm2, -, -, -, hsz2⟩ := cells3 hc2.out; clear b2) | fail)
        refine bodyPost_ret (v := .tuple #[.slice none 0 0, .bool false]) (by simp [results, Try.results97, go_sem]) rfl ?_
        exact ⟨_, _, rfl, HB2.out.mono HB.out, Or.inr ⟨HST.out, rfl⟩⟩
      · have HST : Hid (stepT [b] n = none) := Lib.hid (by unfold stepT; rw [if_neg hl])
        rw [hj] at HIJ
        clear hl hj HR
        unfold ndV at HLI HIJ ⊢
        simp only [List.length_cons, List.length_nil, Nat.zero_add] at *
        go_enter Try.func97, Try.ntmps97
        go_wp2_with (first | (go_at_call 117; refine (HLI.out _).mono ?_; rintro e w1 ⟨rfl, b1⟩; have HB1 : Hid (Below w.heap.size w w1) := Lib.hid ((Below.alloc (Below.refl _ _) (Nat.le_refl _) _).trans (b1.mono (by simp))); have hc := Lib.hid ((cellsAt_new' w #[.int .i64 n.k, .int .i64 n.v, .string n.s] tNd [.int .i64 n.k, .int .i64 n.v, .string n.s] _ rfl rfl).below b1 (by simp)); obtain ⟨hn0, hn1, hn2, -, -, -, hsz1⟩ := cells3 hc.out; clear b1) | (go_at_call 118; refine (HIJ.out _).mono ?_; rintro e w2 ⟨rfl, b2⟩; have HB2 := Lib.hid (HB1.out.trans (b2.mono HB1.out.size)); have hc2 := Lib.hid (hc.out.below b2 hc.out.lt); obtain ⟨hm0, hm1, hm2, -, -, -, hsz2⟩ := cells3 hc2.out; clear b2) | fail)
        refine bodyPost_ret (v := .tuple #[.slice none 0 0, .bool false]) (by simp [results, Try.results97, go_sem]) rfl ?_
        exact ⟨_, _, rfl, HB2.out.mono HB.out, Or.inr ⟨HST.out, rfl⟩⟩
      · have HST := Lib.hid (stepT_leaf_no hl0 hj a b r)
        rw [hj] at HIJ
        have hfa := HF.out a (by simp)
        have hfb := HF.out b (by simp)
        have HJP := fun w0 => joinParts_any w0 n.k a b hfa hfb
        obtain ⟨Ta, Va, ga, ea, -⟩ := trV_wires a
        obtain ⟨Tb, Vb, gb, eb, -⟩ := trV_wires b
        rw [ea, eb] at HJP
        have HJP2 := Lib.hid HJP
        obtain ⟨g, cap, e2, -⟩ := World.ownsRow.form HV.out (by simp)
        have hpa : ∀ w0 : World, OwP w0 B (.slice (some ⟨g, 0, none⟩) (b :: a :: r).length cap) (b :: a :: r) → w0.cell? ⟨g, r.length, none⟩ = some (.iface Ta Va) ∧ w0.cell? ⟨g, r.length + 1, none⟩ = some (.iface Tb Vb) := fun w0 h => ⟨by rw [← ea]; exact h.cell (by simp [List.reverse_cons]), by rw [← eb]; exact h.cell (by simp [List.reverse_cons])⟩
        have HPA := Lib.hid hpa
        rw [e2] at HV ⊢
        have hrl : ((b :: a :: r).length : Int) = (r.length : Int) + 2 := by simp; omega
        obtain ⟨m, hm⟩ : ∃ m, m = (b :: a :: r).length := ⟨_, rfl⟩
        rw [← hm] at HV HPA hrl hlen ⊢
        have HM := Lib.hid hm
        clear hl hj HR HJP hfa hfb hpa e2 hm HF ea eb
        unfold ndV at HLI HIJ ⊢
        go_enter Try.func97, Try.ntmps97
        go_wp2_with (first | (go_at_call 117; refine (HLI.out _).mono ?_; rintro e w1 ⟨rfl, b1⟩; have HB1 : Hid (Below w.heap.size w w1) := Lib.hid ((Below.alloc (Below.refl _ _) (Nat.le_refl _) _).trans (b1.mono (by simp))); have hc := Lib.hid ((cellsAt_new' w #[.int .i64 n.k, .int .i64 n.v, .string n.s] tNd [.int .i64 n.k, .int .i64 n.v, .string n.s] _ rfl rfl).below b1 (by simp)); obtain ⟨hn0, hn1, hn2, -, -, -, hsz1⟩ := cells3 hc.out; clear b1) | (go_at_call 118; refine (HIJ.out _).mono ?_; rintro e w2 ⟨rfl, b2⟩; have HB2 := Lib.hid (HB1.out.trans (b2.mono HB1.out.size)); have hc2 := Lib.hid (hc.out.below b2 hc.out.lt); obtain ⟨hm0, hm1, hm2, -, -, -, hsz2⟩ := cells3 hc2.out; clear b2) | fail)
        have HV2 := Lib.hid (HV.out.grown (grown_of_below HB2.out))
        obtain ⟨q, hqI, HQ⟩ : ∃ q : Nat, (r.length : Int) + 1 = (q : Int) ∧ Hid (q = r.length + 1) := ⟨r.length + 1, by omega, Lib.hid rfl⟩
        obtain ⟨hpc, hpd⟩ := HPA.out w2 HV2.out
        rw [← HQ.out] at hpd
        have hi1 : (r.length : Int) < (m : Int) := by omega
        have hi2 : (q : Int) < (m : Int) := by omega
        have hi3 : r.length < m := by omega
        have hi4 : q < m := by omega
        have hw : IntKind.i64.wrap ((q : Int)) = (q : Int) := Go.IntWalk.i64_in _ ⟨by omega, by omega⟩
        clear hrl
        have hr0 : (0 : Int) ≤ (r.length : Int) := by omega
        have hcp : (m : Int) ≤ 1000 := by omega
        have hcp2 : r.length ≤ cap := by
          rcases HV.out.2 with ⟨e, _⟩ | ⟨g', cap', cur, e, -, -, hn, -⟩
          · cases e
          · cases e; omega
        have hcpI : (r.length : Int) ≤ (cap : Int) := by omega
        have hgl : g < w2.heap.size := by
          obtain ⟨g', c', e7, -, h7⟩ := World.ownsRow.form HV2.out (by simp)
          have e8 := congrArg Value.ownBlock e7
          simp only [Value.ownBlock, Option.some.injEq] at e8
          rw [e8]
          exact h7
        have HELD : Hid (∀ w' : World, w'.heap[w.heap.size]? = w2.heap[w.heap.size]? ∧ w'.heap[g]? = w2.heap[g]? → w'.cell? ⟨w.heap.size, 0, none⟩ = some (.int .i64 n.k) ∧ w'.cell? ⟨g, r.length, none⟩ = some (.iface Ta Va) ∧ w'.cell? ⟨g, q, none⟩ = some (.iface Tb Vb)) := Lib.hid (fun w' H => ⟨(World.cell?_of_block (w := w2) H.1).trans hm0, (World.cell?_of_block (w := w2) H.2).trans hpc, (World.cell?_of_block (w := w2) H.2).trans hpd⟩)
        have HQ0 : Hid (w2.drew.heap[w.heap.size]? = w2.heap[w.heap.size]? ∧ w2.drew.heap[g]? = w2.heap[g]?) := Lib.hid ⟨rfl, rfl⟩
        clear hm0 hm1 hm2 hn0 hn1 hn2 hpc hpd
        go_region_held3 (fun w' => w'.cell? ⟨w.heap.size, 0, none⟩ = some (.int .i64 n.k) ∧ w'.cell? ⟨g, r.length, none⟩ = some (.iface Ta Va) ∧ w'.cell? ⟨g, q, none⟩ = some (.iface Tb Vb))
          (first | with_reducible exact HELD.out _ HQ0.out | with_reducible exact HELD.out _ HQ3.out | fail)
          (first
            | (go_at_call 119; go_split_ands; refine (HJP2.out w2.drew).mono ?_; rintro e w3 ⟨t, ok, rfl, b3, hjt⟩; obtain ⟨Tt, Vt, gt, et, -⟩ := trV_wires t; rw [et]; have HB3 := Lib.hid (HB2.out.trans ((Below.trans (Below.refl _ _).drew b3).mono HB2.out.size)); have HQ3 : Hid (w3.heap[w.heap.size]? = w2.heap[w.heap.size]? ∧ w3.heap[g]? = w2.heap[g]?) := Lib.hid ⟨(Below.trans (Below.refl _ _).drew b3).block _ hsz2, (Below.trans (Below.refl _ _).drew b3).block _ hgl⟩; have HET := Lib.hid et; have HJT := Lib.hid hjt; have HV3 := Lib.hid (HV2.out.grown (grown_of_below (Below.trans (Below.refl _ _).drew b3))); have HV4 := Lib.hid (show w3.ownsRow B tPart 1 (.slice (some ⟨g, 0, none⟩) r.length cap) r.length (r.reverse.map trV) from OwP.cutN HV3.out); clear b3 hjt et)
            | fail)
        go_wp2_with (at_builtin; refine wpList_pushP rfl _ _ rfl _ B r.length _ (r.reverse.map trV) (.iface Tt Vt) w3.heap.size 1 rfl (World.ownsRow.alloc HV4.out _) rfl (cellV_new _ _ _ _ rfl) rfl (by have := HB3.out.size; have := HB.out; simp; omega) (by omega) ?_)
        intro g2 cap2 w4 ho hg
        go_wp2
        have HE := Lib.hid ((HB3.out.mono HB.out).trans ((Below.alloc (Below.refl B w3) (Nat.le_trans HB.out HB3.out.size) (.cells #[.iface Tt Vt] tPart)).trans (below_grown (World.ownsRow.alloc HV4.out _) hg (by have := HB3.out.size; have := HB.out; simp; omega))))
        refine bodyPost_ret (v := .tuple #[.slice (some ⟨g2, 0, none⟩) (r.length + 1) cap2, .bool ok]) (by simp [results, Try.results97, go_sem]) rfl ?_
        refine ⟨_, ok, rfl, HE.out, ?_⟩
        cases ok with
        | false => exact Or.inr ⟨by rw [HST.out, HJT.out]; rfl, rfl⟩
        | true =>
          refine Or.inl ⟨t :: r, by rw [HST.out, HJT.out]; rfl, rfl, ?_⟩
          unfold OwP
          rw [List.reverse_cons, List.map_append, List.length_cons, List.map_singleton, HET.out, List.map_reverse]
          exact ho
    · have hj0 : isJointB n = false := by simpa using hj
      have HST : Hid (stepT st n = none) := Lib.hid (by
        unfold stepT
        rw [if_neg hl]
        split
        · rw [if_neg hj]
        · rfl)
      rw [hj0] at HIJ
      clear hl hj HR
      unfold ndV at HLI HIJ ⊢
      go_enter Try.func97, Try.ntmps97
      go_wp2_with (first | (go_at_call 117; refine (HLI.out _).mono ?_; rintro e w1 ⟨rfl, b1⟩; have HB1 : Hid (Below w.heap.size w w1) := Lib.hid ((Below.alloc (Below.refl _ _) (Nat.le_refl _) _).trans (b1.mono (by simp))); have hc := Lib.hid ((cellsAt_new' w #[.int .i64 n.k, .int .i64 n.v, .string n.s] tNd [.int .i64 n.k, .int .i64 n.v, .string n.s] _ rfl rfl).below b1 (by simp)); obtain ⟨hn0, hn1, hn2, -, -, -, hsz1⟩ := cells3 hc.out; clear b1) | (go_at_call 118; refine (HIJ.out _).mono ?_; rintro e w2 ⟨rfl, b2⟩; have HB2 := Lib.hid (HB1.out.trans (b2.mono HB1.out.size)); have hc2 := Lib.hid (hc.out.below b2 hc.out.lt); obtain ⟨hm0, hm1, hm2, -, -, -, hsz2⟩ := cells3 hc2.out; clear b2) | fail)
      refine bodyPost_ret (v := .tuple #[.slice none 0 0, .bool false]) (by simp [results, Try.results97, go_sem]) rfl ?_
      exact ⟨_, _, rfl, HB2.out.mono HB.out, Or.inr ⟨HST.out, rfl⟩⟩
end Go.Proofs.Ytiealgnmhjebeaa

/-! The program's parts: the tree of a whole term. -/
namespace Go.Proofs.Ytiealgnmhjebeaa
open Go Go.RowKit Go.Deep

theorem stack_next {x : List Nd} {k : Nat} {st : List Tr} (h : k < x.length) (e : stackT [] (x.take k) = some st) : stackT [] (x.take (k + 1)) = stepT st (x.getD k nd0) := by
  rw [takeN_snoc h, stackT_snoc, e]
  rfl
theorem stack_bad {x : List Nd} {k : Nat} {st : List Tr} (h : k < x.length) (e : stackT [] (x.take k) = some st) (e2 : stepT st (x.getD k nd0) = none) : treeOf x = none := by
  have e3 := stack_next h e
  rw [e2] at e3
  have e4 : stackT [] x = none := by
    conv => lhs; rw [← List.take_append_drop (k + 1) x, stackT_app, e3]
    rfl
  unfold treeOf
  rw [e4]
  simp
theorem stack_len : ∀ (ns : List Nd) {st st' : List Tr}, stackT st ns = some st' → st'.length ≤ st.length + ns.length
  | [], st, st', h => by
    obtain rfl := Option.some.inj h
    simp
  | n :: ns, st, st', h => by
    simp only [stackT] at h
    cases e : stepT st n with
    | none => rw [e] at h; cases h
    | some s2 =>
      rw [e] at h
      have h2 := stack_len ns h
      have h3 : s2.length ≤ st.length + 1 := by
        unfold stepT at e
        split at e
        · obtain rfl := Option.some.inj e
          simp
        · split at e
          · split at e
            · cases e4 : joinT n.k _ _ with
              | none => rw [e4] at e; cases e
              | some t => rw [e4] at e; obtain rfl := Option.some.inj e; simp
            · cases e
          · cases e
      simp only [List.length_cons]
      omega
theorem tree_one {x : List Nd} {t : Tr} (hl : x.length ≤ 400) (e : stackT [] x = some [t]) : treeOf x = some t := by
  unfold treeOf
  rw [if_pos hl]
  generalize stackT [] x = s at e
  subst e
  rfl
theorem tree_many {x : List Nd} {st : List Tr} (hl : x.length ≤ 400) (e : stackT [] x = some st) (h1 : st.length ≠ 1) : treeOf x = none := by
  unfold treeOf
  rw [if_pos hl]
  generalize stackT [] x = s at e
  subst e
  rcases st with _ | ⟨a, _ | ⟨b, r⟩⟩
  · rfl
  · simp at h1
  · rfl
def PartSaid (w : World) (x : List Nd) (e : Ending) (w' : World) : Prop :=
  ∃ u ok, e = .returned (.tuple #[u, .bool ok]) ∧ Below w.heap.size w w' ∧ ok = (treeOf x).isSome ∧ ∀ t, treeOf x = some t → u = trV t
set_option maxRecDepth 100000 in
set_option maxHeartbeats 6400000 in
theorem partIn_any (w : World) (B : Nat) (v : Value) (x : List Nd) (hv : LfN w B v x) (hB : B ≤ w.heap.size) :
    Calls Try.prog 72 #[.map none, .agg #[v]] w (PartSaid w x) := by
  obtain ⟨A, c, rfl⟩ := hv.len
  have HV := Lib.hid hv.1
  have HB := Lib.hid hB
  have hxl := hv.2.1
  clear hv hB
  by_cases hl : x.length ≤ 400
  · go_enter Try.func72, Try.ntmps72
    go_wp2
    go_loopw [18, 6] (fun i p wr => ∃ (k : Nat) (st : List Tr), k ≤ x.length ∧ i = .int .i64 k ∧ st.length ≤ k ∧ Hid (stackT [] (x.take k) = some st) ∧ Hid (∀ t ∈ st, Fits t) ∧ Hid (Below w.heap.size w wr) ∧ Hid (OwP wr (w.heap.size + 1) p st) ∧ w.heap.size + 1 ≤ wr.heap.size) (fun i _ _ => x.length - (intOf i).toNat)
    case atStart =>
      exact ⟨0, [], Nat.zero_le _, rfl, Nat.le_refl _, Lib.hid rfl, Lib.hid (by simp), Lib.hid (by repeat' (first | exact Below.refl _ _ | apply Below.drew | apply below_drewN | apply Below.setCell | apply Below.alloc | (simp; done) | omega | (simp; omega))), Lib.hid (OwP.nil _ _), by simp⟩
    case round =>
      obtain ⟨k, st, hk, rfl, hst, HSC, HFT, HBW, HOW, hws⟩ := hrel
      have hbw := HBW.out
      by_cases hlt : k < x.length
      · have HNX := Lib.hid (stack_next hlt HSC.out)
        have HBAD := Lib.hid (stack_bad hlt HSC.out)
        obtain ⟨b, o, rfl, hb, hc0, hc1, hc2⟩ := (HV.out.below hbw HB.out).at hlt
        generalize x.getD k nd0 = nd at hc0 hc1 hc2 HNX HBAD
        have hkI : (k : Int) < (x.length : Int) := by omega
        have HAD := Lib.hid (addNode_any (wr.alloc (.cells #[.int .i64 nd.k, .int .i64 nd.v, .string nd.s] tNd)) (w.heap.size + 1) u6 st nd (HOW.out.grown (World.grownBy_alloc wr _ none)) (by simp; omega) HFT.out (by omega))
        unfold ndV at HAD
        clear hbw
        go_wp2_with fail
        refine HAD.out.mono ?_
        rintro e w2 ⟨u, ok, rfl, b2, hu⟩
        have HB2 := Lib.hid (show Below (w.heap.size + 1) wr w2 from (Below.alloc (Below.refl _ _) hws _).trans b2)
        have HBW2 := Lib.hid (HBW.out.trans (HB2.out.mono (Nat.le_succ _)))
        have hsz2 : w.heap.size + 1 ≤ w2.heap.size := Nat.le_trans hws HB2.out.size
        clear b2 hc0 hc1 hc2 HAD
        rcases hu with ⟨st', hs, rfl, ho⟩ | ⟨hs, rfl⟩
        · have HO := Lib.hid ho
          have HS := Lib.hid hs
          have HF2 := Lib.hid (stepT_fits HFT.out hs)
          have hst2 : st'.length ≤ k + 1 := by
            have h9 := stack_len _ (HNX.out.trans hs)
            rw [List.length_take, List.length_nil] at h9
            omega
          clear ho hs
          go_wp2
          go_roundw
          case rel => exact ⟨k + 1, st', by omega, by go_num, hst2, Lib.hid (HNX.out.trans HS.out), HF2, HBW2, HO, hsz2⟩
          case measure => simp [intOf]; omega
        · have HNO := Lib.hid (HBAD.out hs)
          clear hs
          go_wp2
          refine bodyPost_ret (v := .tuple #[.nilIface, .bool false]) (by simp [results, Try.results72, go_sem]) rfl ?_
          exact ⟨_, _, rfl, by refine Below.trans HBW2.out ?_; exact ((by repeat' (first | exact Below.refl _ _ | apply Below.drew | apply below_drewN | apply Below.setCell | apply Below.alloc | (simp; done) | omega | (simp; omega)))), by rw [HNO.out]; rfl, fun t ht => by rw [HNO.out] at ht; cases ht⟩
      · have hk2 : k = x.length := by omega
        have hkI : ¬ (k : Int) < (x.length : Int) := by omega
        rw [hk2, List.take_length] at HSC
        clear hbw
        by_cases h1 : st.length = 1
        · obtain ⟨t, rfl⟩ : ∃ t, st = [t] := by
            rcases st with _ | ⟨a, _ | ⟨b, r⟩⟩
            · simp at h1
            · exact ⟨a, rfl⟩
            · simp at h1
          have HTR := Lib.hid (tree_one hl HSC.out)
          obtain ⟨g, cap, rfl, -⟩ := World.ownsRow.form HOW.out (by simp)
          have hc0 : wr.cell? ⟨g, 0, none⟩ = some (trV t) := OwP.cell (t := t) (q := 0) HOW.out (by simp)
          obtain ⟨Tt, Vt, gt, et, -⟩ := trV_wires t
          rw [et] at hc0
          simp only [List.length_cons, List.length_nil, Nat.zero_add] at *
          go_wp2
          refine bodyPost_ret (v := .tuple #[.iface Tt Vt, .bool true]) (by simp [results, Try.results72, go_sem]) rfl ?_
          refine ⟨_, _, rfl, HBW.out, by rw [HTR.out]; rfl, fun t' ht => ?_⟩
          rw [HTR.out] at ht
          obtain rfl := Option.some.inj ht
          exact et.symm
        · have HNO := Lib.hid (tree_many hl HSC.out h1)
          obtain ⟨A6, c6, rfl⟩ := HOW.out.form
          have hne : ¬ (st.length : Int) = 1 := by omega
          go_wp2
          refine bodyPost_ret (v := .tuple #[.nilIface, .bool false]) (by simp [results, Try.results72, go_sem]) rfl ?_
          exact ⟨_, _, rfl, by refine Below.trans HBW.out ?_; exact ((by repeat' (first | exact Below.refl _ _ | apply Below.drew | apply below_drewN | apply Below.setCell | apply Below.alloc | (simp; done) | omega | (simp; omega)))), by rw [HNO.out]; rfl, fun t ht => by rw [HNO.out] at ht; cases ht⟩
  · have HNO : Hid (treeOf x = none) := Lib.hid (by unfold treeOf; rw [if_neg hl])
    have hl2 : (400 : Int) < (x.length : Int) := by omega
    go_enter Try.func72, Try.ntmps72
    go_wp2
    refine bodyPost_ret (v := .tuple #[.nilIface, .bool false]) (by simp [results, Try.results72, go_sem]) rfl ?_
    exact ⟨_, _, rfl, by refine Below.trans (Below.refl _ _) ?_; exact ((by repeat' (first | exact Below.refl _ _ | apply Below.drew | apply below_drewN | apply Below.setCell | apply Below.alloc | (simp; done) | omega | (simp; omega)))), by rw [HNO.out]; rfl, fun t ht => by rw [HNO.out] at ht; cases ht⟩
end Go.Proofs.Ytiealgnmhjebeaa

/-! The program's type of a term. -/
namespace Go.Proofs.Ytiealgnmhjebeaa
open Go Go.RowKit Go.Deep

theorem partOf_any (w : World) (B : Nat) (v : Value) (x : List Nd) (hv : LfN w B v x) (hB : B ≤ w.heap.size) :
    Calls Try.prog 35 #[.agg #[v]] w (PartSaid w x) := by
  have HPI := Lib.hid (partIn_any (w.alloc (.cells #[v] tTm)) B v x (hv.below (Below.alloc (Below.refl _ _) (Nat.le_refl _) _) hB) (by simp; omega))
  have HB0 := Lib.hid (Below.alloc (Below.refl w.heap.size w) (Nat.le_refl _) (.cells #[v] tTm))
  obtain ⟨A, c, rfl⟩ := hv.len
  clear hv hB
  go_enter Try.func35, Try.ntmps35
  go_wp2_with (go_at_call 72; refine HPI.out.mono ?_; rintro e w2 ⟨u, ok, rfl, b2, hok, hu⟩; have HB2 := Lib.hid (HB0.out.trans (b2.mono (by simp))); have HU := Lib.hid hu; have HOK := Lib.hid hok; clear b2 hu hok)
  refine bodyPost_ret (v := .tuple #[u, .bool ok]) (by simp [results, Try.results35, go_sem]) rfl ?_
  exact ⟨u, ok, rfl, HB2.out, HOK.out, HU.out⟩
def tyIn (x : List Nd) : Int := match treeOf x with | some t => t.inw | none => 0
def tyOut (x : List Nd) : Int := match treeOf x with | some t => t.outw | none => 0
def tyOk (x : List Nd) : Bool := (treeOf x).isSome
end Go.Proofs.Ytiealgnmhjebeaa
