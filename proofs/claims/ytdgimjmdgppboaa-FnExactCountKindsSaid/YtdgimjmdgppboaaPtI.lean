/- The program's parts: leaves, joints, what a node makes of the parts before it. -/
import Derived.Test.YtdgimjmdgppboaaPtV
import Derived.Test.YtdgimjmdgppboaaTmV
import Derived.Deep.AppendLies
import Derived.Deep.RegionHeld3
import Derived.Deep.Cut
namespace Go.Proofs.Ytdgimjmdgppboaa
set_option maxRecDepth 100000
open Go Go.RowKit Go.Deep

set_option maxHeartbeats 1600000 in
theorem leafPart_any (w : World) (n : Nd) : Calls Try.prog 55 #[ndV n] w fun e w' => e = .returned (trV (.leaf n (leafW n).1 (leafW n).2)) ∧ Below w.heap.size w w' := by
  obtain ⟨W1, W2, HWW, HLW⟩ : ∃ W1 W2, Hid (leafW n = (W1, W2)) ∧ Hid (∀ w0, Calls Try.prog 59 #[ndV n] w0 fun e w' => e = .returned (wcV W1 W2) ∧ Below w0.heap.size w0 w') := ⟨_, _, Lib.hid rfl, Lib.hid (fun w0 => leafWires_any w0 n)⟩
  rw [HWW.out]
  have HB0 : Hid (Below w.heap.size w (w.alloc (.cells #[.int .i64 n.k, .int .i64 n.v, .string n.s] tNd))) := Lib.hid (Below.alloc (Below.refl _ _) (Nat.le_refl _) _)
  have HX := Lib.hid (cellsAt_new' w #[.int .i64 n.k, .int .i64 n.v, .string n.s] tNd [.int .i64 n.k, .int .i64 n.v, .string n.s] _ rfl rfl)
  have hsz0 : (w.alloc (.cells #[.int .i64 n.k, .int .i64 n.v, .string n.s] tNd)).heap.size = w.heap.size + 1 := by simp
  unfold ndV
  go_enter Try.func55, Try.ntmps55
  go_upto_region 1 with fail
  generalize (w.alloc (.cells #[.int .i64 n.k, .int .i64 n.v, .string n.s] tNd)) = W at HB0 HX hsz0 ⊢
  have hW1 : w.heap.size < W.heap.size := by omega
  clear hsz0
  have hx := cells3 HX.out
  have HELD : Hid (∀ w' : World, w'.heap[w.heap.size]? = W.heap[w.heap.size]? → w'.cell? ⟨w.heap.size, 0, none⟩ = some (.int .i64 n.k) ∧ w'.cell? ⟨w.heap.size, 1, none⟩ = some (.int .i64 n.v) ∧ w'.cell? ⟨w.heap.size, 2, none⟩ = some (.string n.s)) := Lib.hid (fun w' H => ⟨(World.cell?_of_block (w := W) H).trans hx.1, (World.cell?_of_block (w := W) H).trans hx.2.1, (World.cell?_of_block (w := W) H).trans hx.2.2.1⟩)
  clear hx
  have HQ0 : Hid (W.drew.heap[w.heap.size]? = W.heap[w.heap.size]?) := Lib.hid rfl
  go_region_held3 (fun w' => w'.cell? ⟨w.heap.size, 0, none⟩ = some (.int .i64 n.k) ∧ w'.cell? ⟨w.heap.size, 1, none⟩ = some (.int .i64 n.v) ∧ w'.cell? ⟨w.heap.size, 2, none⟩ = some (.string n.s))
    (first | with_reducible exact HELD.out _ HQ0.out | with_reducible exact HELD.out _ HQ3.out | fail)
    (first
      | (go_at_call 59; go_split_ands; refine (HLW.out W.drew).mono ?_; unfold wcV; rintro e w3 ⟨rfl, b3⟩; have HB3 : Hid (Below W.heap.size W w3) := Lib.hid ((Below.refl _ _).drew.trans b3); have HQ3 : Hid (w3.heap[w.heap.size]? = W.heap[w.heap.size]?) := Lib.hid (HB3.out.block _ (by omega)); clear b3)
      | fail)
  have HBE := Lib.hid (HB0.out.trans (HB3.out.mono HB0.out.size))
  go_wp2
  refine bodyPost_ret (v := trV (.leaf n W1 W2)) (by simp [results, Try.results55, go_sem, trV]) rfl ?_
  exact ⟨rfl, by refine Below.trans HBE.out ?_; exact (by repeat' (first | exact Below.refl _ _ | apply Below.drew | apply below_drewN | apply Below.setCell | apply Below.alloc | (simp; done) | omega | (simp; omega)))⟩
theorem joint_k {n : Nd} (h1 : n.v = 0) (h2 : n.s = ByteArray.empty) : isJointB n = (decide (n.k = 15) || decide (n.k = 16)) := by
  unfold isJointB
  rw [decide_eq_true h1, decide_eq_true h2]
  simp
theorem fld0 (i o : Int) (w : World) : Sem.run Try.prog (Instr.field 50 (.agg #[.int .i64 i, .int .i64 o]) 0) w = .ok (.int .i64 i) w := by kernel_rfl
theorem fld1 (i o : Int) (w : World) : Sem.run Try.prog (Instr.field 50 (.agg #[.int .i64 i, .int .i64 o]) 1) w = .ok (.int .i64 o) w := by kernel_rfl
set_option maxHeartbeats 1600000 in
theorem isJoint_any (w : World) (n : Nd) : Calls Try.prog 47 #[ndV n] w fun e w' => e = .returned (.bool (isJointB n)) ∧ Below w.heap.size w w' := by
  unfold ndV
  by_cases hs : n.s = ByteArray.empty
  · by_cases hv : n.v = 0
    · by_cases k15 : n.k = 15
      · have H : Hid (isJointB n = true) := Lib.hid (by rw [joint_k hv hs, k15]; rfl)
        rw [hs, hv, k15]
        go_enter Try.func47, Try.ntmps47
        go_wp2
        go_ret
        rw [H.out]
        exact ⟨rfl, by repeat' (first | exact Below.refl _ _ | apply Below.drew | apply below_drewN | apply Below.setCell | apply Below.alloc | (simp; done) | omega | (simp; omega))⟩
      · by_cases k16 : n.k = 16
        · have H : Hid (isJointB n = true) := Lib.hid (by rw [joint_k hv hs, k16]; rfl)
          rw [hs, hv, k16]
          go_enter Try.func47, Try.ntmps47
          go_wp2
          go_ret
          rw [H.out]
          exact ⟨rfl, by repeat' (first | exact Below.refl _ _ | apply Below.drew | apply below_drewN | apply Below.setCell | apply Below.alloc | (simp; done) | omega | (simp; omega))⟩
        · have H : Hid (isJointB n = false) := Lib.hid (by rw [joint_k hv hs, decide_eq_false k15, decide_eq_false k16]; rfl)
          rw [hs, hv]
          go_enter Try.func47, Try.ntmps47
          go_wp2
          go_ret
          rw [H.out]
          exact ⟨rfl, by repeat' (first | exact Below.refl _ _ | apply Below.drew | apply below_drewN | apply Below.setCell | apply Below.alloc | (simp; done) | omega | (simp; omega))⟩
    · have H : Hid (isJointB n = false) := Lib.hid (joint_no_v hv)
      rw [hs]
      go_enter Try.func47, Try.ntmps47
      go_wp2
      go_ret
      rw [H.out]
      exact ⟨rfl, by repeat' (first | exact Below.refl _ _ | apply Below.drew | apply below_drewN | apply Below.setCell | apply Below.alloc | (simp; done) | omega | (simp; omega))⟩
  · have H : Hid (isJointB n = false) := Lib.hid (joint_no_s hs)
    have hs2 : ¬ n.s.toList = [] := fun h => by have h2 := str_some hs; rw [h] at h2; simp at h2
    go_enter Try.func47, Try.ntmps47
    go_wp2
    all_goals (first | (exfalso; simp_all; done) | (go_ret; rw [H.out]; exact ⟨rfl, by repeat' (first | exact Below.refl _ _ | apply Below.drew | apply below_drewN | apply Below.setCell | apply Below.alloc | (simp; done) | omega | (simp; omega))⟩))
theorem trV_wires (t : Tr) : ∃ T V g, trV t = .iface T V ∧ (∀ n w, 0 < n → Sem.run Try.prog (method n T V "loop.example/g01073/impl.wires") w = .ok (g, V) w) ∧ (∀ w, Sem.run Try.prog (callFunc g #[V]) w = .ok (.enter g #[V]) w) ∧ (∀ w, Calls Try.prog g #[V] w fun e w' => e = .returned (wcV t.inw t.outw) ∧ Below w.heap.size w w') := by
  rcases t with ⟨n, i, o⟩ | ⟨a, b, i, o⟩ | ⟨a, b, i, o⟩
  · refine ⟨tLeafT, .agg #[.int .i64 n.k, .int .i64 n.v, .string n.s, .int .i64 i, .int .i64 o], 80, rfl, fun m w hm => ?_, fun w => by kernel_rfl, fun w => wires_leaf w _ _ _ i o⟩
    obtain ⟨m, rfl⟩ : ∃ q, m = q + 1 := ⟨m - 1, by omega⟩
    kernel_rfl
  · refine ⟨tSeqT, .agg #[trV a, trV b, .int .i64 i, .int .i64 o], 84, rfl, fun m w hm => ?_, fun w => by kernel_rfl, fun w => wires_seq w _ _ i o⟩
    obtain ⟨m, rfl⟩ : ∃ q, m = q + 1 := ⟨m - 1, by omega⟩
    kernel_rfl
  · refine ⟨tParT, .agg #[trV a, trV b, .int .i64 i, .int .i64 o], 88, rfl, fun m w hm => ?_, fun w => by kernel_rfl, fun w => wires_par w _ _ i o⟩
    obtain ⟨m, rfl⟩ : ∃ q, m = q + 1 := ⟨m - 1, by omega⟩
    kernel_rfl
set_option maxHeartbeats 3200000 in
theorem compose_any (w : World) (a b : Tr) : Calls Try.prog 56 #[trV a, trV b] w fun e w' => e = .returned (trV (.seq a b a.inw b.outw)) ∧ Below w.heap.size w w' := by
  obtain ⟨R, HR⟩ : ∃ R, Hid (trV (.seq a b a.inw b.outw) = R) := ⟨_, Lib.hid rfl⟩
  rw [HR.out]
  obtain ⟨Ta, Va, ga, ea, hma, hca, hCa⟩ := trV_wires a
  obtain ⟨Tb, Vb, gb, eb, hmb, hcb, hCb⟩ := trV_wires b
  have HCa := Lib.hid hCa
  have HCb := Lib.hid hCb
  clear hCa hCb
  have hf0 := fld0
  have hf1 := fld1
  rw [ea, eb]
  go_enter Try.func56, Try.ntmps56
  go_wp2_with (first | (with_reducible refine (HCa.out _).mono ?_; rintro e w1 ⟨rfl, b1⟩; have HB1 := Lib.hid b1; clear b1; unfold wcV) | (with_reducible refine (HCb.out _).mono ?_; rintro e w2 ⟨rfl, b2⟩; have HB2 := Lib.hid b2; clear b2; unfold wcV) | fail)
  have HE := Lib.hid (HB1.out.trans (HB2.out.mono HB1.out.size))
  refine bodyPost_ret (v := R) (by rw [← HR.out]; simp [results, Try.results56, go_sem, trV, ea, eb]) rfl ?_
  exact ⟨rfl, by refine Below.trans HE.out ?_; exact (by repeat' (first | exact Below.refl _ _ | apply Below.drew | apply below_drewN | apply Below.setCell | apply Below.alloc | (simp; done) | omega | (simp; omega)))⟩
end Go.Proofs.Ytdgimjmdgppboaa
