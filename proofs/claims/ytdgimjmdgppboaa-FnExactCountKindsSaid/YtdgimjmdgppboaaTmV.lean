/- Lemmas of the model's scan of a term: a node's step, rows. -/
import Derived.Test.YtdgimjmdgppboaaTmX
namespace Go.Proofs.Ytdgimjmdgppboaa
set_option maxRecDepth 100000
open Go Go.RowKit Go.Deep

abbrev tTm : TypeId := 30
def IsSl (v : Value) : Prop := ∃ A n c, v = .slice A n c
/-- What the scan of a term leaves: whether it is valid, and then the lists. -/
def ScanSaid (w : World) (x : List Nd) (e : Ending) (w' : World) : Prop :=
  ∃ v0 v1 v2, e = .returned (.tuple #[.agg #[v0, v1, v2], .bool (okS x)]) ∧ Below w.heap.size w w' ∧ (okS x = true → ∃ X, scanS .nil 0 x = some X ∧ X.Good x.length ∧ RowA w' w.heap.size v0 X.f ∧ RowA w' w.heap.size v1 X.i ∧ RowA w' w.heap.size v2 X.o) ∧ IsSl v0 ∧ IsSl v1 ∧ IsSl v2
theorem RowA.mono {w : World} {B B' : Nat} {v : Value} {xs : List Int} (h : RowA w B v xs) (hB : B' ≤ B) : RowA w B' v xs := by
  refine ⟨h.1, ?_⟩
  rcases h.2 with hn | ⟨g, cap, cur, e, hb, rest⟩
  · exact Or.inl hn
  · exact Or.inr ⟨g, cap, cur, e, Nat.le_trans hB hb, rest⟩
theorem RowA.form {w : World} {B : Nat} {v : Value} {xs : List Int} (h : RowA w B v xs) : ∃ A c, v = .slice A xs.length c := by
  rcases h.2 with ⟨rfl, h0⟩ | ⟨g, cap, cur, rfl, _⟩
  · exact ⟨none, 0, by rw [h0]⟩
  · exact ⟨_, cap, rfl⟩
theorem Kp.below {b B H : Nat} {w w' : World} (h : Kp b B w w') (hb : H ≤ b) (hB : H ≤ B) (hs : H ≤ w.heap.size) : Below H w w' :=
  Touch.below (S := fun k => k = b ∨ B ≤ k) h hs (fun k hk => by omega)
theorem Kp.at {b B q : Nat} {w w' : World} {t : TypeId} {vs : List Value} (h : Kp b B w w') (hc : CellsAt w q t vs) (hq : q ≠ b) (hq2 : q < B) : CellsAt w' q t vs :=
  hc.touch h (by omega)
theorem stepS_leaf {X : Sc} {k : Nat} {n : Nd} (h : isLeafB n = true) : stepS X k n = some (X.push k (leafW n).1 (leafW n).2) := by
  unfold stepS
  rw [if_pos h]
theorem cellI_new (w : World) (y : Int) (t : TypeId) (b : Nat) (hb : b = w.heap.size) : (w.alloc (.cells #[.int .i64 y] t)).cell? ⟨b, 0, none⟩ = some (.int .i64 y) := by
  subst hb
  have h := (cellsAt_new w #[.int .i64 y] t).cell (i := 0) (by simp)
  rw [h]
  rfl

theorem lbFind_nil (w : World) (s : ByteArray) : Calls Try.prog 51 #[.slice none 0 0, .string s] w fun e w' => e = .returned (.int .i64 (-1)) ∧ w' = w := by
  go_enter Try.func51, Try.ntmps51
  go_wp2
  go_loopw [9] (fun i wr => i = .int .i64 0 ∧ wr = w) (fun _ _ => 0)
  case atStart => exact ⟨rfl, rfl⟩
  case round =>
    obtain ⟨rfl, rfl⟩ := hrel
    go_wp2
    go_ret
    exact ⟨rfl, rfl⟩
theorem stepS_none_k {X : Sc} {k : Nat} {n : Nd} (h : isLeafB n = false) (hj : isJointB n = false) : stepS X k n = none := by
  unfold stepS
  rw [if_neg (by rw [h]; simp), if_neg (by rw [hj]; simp)]
theorem stepS_none_2 {X : Sc} {k : Nat} {n : Nd} (h : isLeafB n = false) (h2 : k < 2) : stepS X k n = none := by
  unfold stepS
  rw [if_neg (by rw [h]; simp), if_neg (by omega)]
theorem stepS_none_f {X : Sc} {k : Nat} {n : Nd} (h : isLeafB n = false) (h2 : X.f.getD (k - 1) 0 < 1) : stepS X k n = none := by
  unfold stepS
  rw [if_neg (by rw [h]; simp), if_neg (by omega)]
theorem joint_no_k {n : Nd} (h1 : n.k ≠ 15) (h2 : n.k ≠ 16) : isJointB n = false := by
  cases e : isJointB n with
  | false => rfl
  | true => rcases joint_kind e with h | h <;> omega
theorem joint_no_v {n : Nd} (h1 : n.v ≠ 0) : isJointB n = false := by
  unfold isJointB
  rw [decide_eq_false h1]
  simp
theorem joint_no_s {n : Nd} (h1 : n.s ≠ ByteArray.empty) : isJointB n = false := by
  unfold isJointB
  rw [decide_eq_false h1]
  simp
theorem joint_yes {n : Nd} (h : isJointB n = true) : (n.k = 15 ∨ n.k = 16) ∧ n.v = 0 ∧ n.s = ByteArray.empty := by
  unfold isJointB at h
  simp at h
  exact ⟨h.1.1, h.1.2, h.2⟩
theorem stepS_seq {X : Sc} {m a : Nat} {n : Nd} {f : Int} (h : isLeafB n = false) (hj : isJointB n = true) (hm : 1 ≤ m) (hf : X.f.getD m 0 = f) (ha : f = (a : Int) + 1) (hk : n.k = 15) :
    stepS X (m + 1) n = if X.o.getD a 0 = X.i.getD m 0 then some (X.push (X.f.getD a 0) (X.i.getD a 0) (X.o.getD m 0)) else none := by
  have e1 : (X.f.getD (m + 1 - 1) 0 - 1).toNat = a := by rw [Nat.add_sub_cancel, hf, ha]; omega
  unfold stepS
  rw [if_neg (by rw [h]; simp), if_pos ⟨hj, by omega, by rw [Nat.add_sub_cancel, hf, ha]; omega⟩, if_pos hk, e1, Nat.add_sub_cancel]
theorem stepS_par {X : Sc} {m a : Nat} {n : Nd} {f : Int} (h : isLeafB n = false) (hj : isJointB n = true) (hm : 1 ≤ m) (hf : X.f.getD m 0 = f) (ha : f = (a : Int) + 1) (hk : n.k = 16) :
    stepS X (m + 1) n = if X.i.getD a 0 + X.i.getD m 0 ≤ 12 ∧ X.o.getD a 0 + X.o.getD m 0 ≤ 12 then some (X.push (X.f.getD a 0) (X.i.getD a 0 + X.i.getD m 0) (X.o.getD a 0 + X.o.getD m 0)) else none := by
  have e1 : (X.f.getD (m + 1 - 1) 0 - 1).toNat = a := by rw [Nat.add_sub_cancel, hf, ha]; omega
  unfold stepS
  rw [if_neg (by rw [h]; simp), if_pos ⟨hj, by omega, by rw [Nat.add_sub_cancel, hf, ha]; omega⟩, if_neg (by omega), e1, Nat.add_sub_cancel]
theorem RowA.cells {w : World} {B : Nat} {v : Value} {xs : List Int} (h : RowA w B v xs) (hn : 0 < xs.length) : ∃ g cap, v = .slice (some ⟨g, 0, none⟩) xs.length cap ∧ (∀ q, q < xs.length → w.cell? ⟨g, q, none⟩ = some (.int .i64 (xs.getD q 0))) := by
  obtain ⟨g, cap, e, _, _⟩ := World.ownsRow.form h hn
  subst e
  refine ⟨g, cap, rfl, fun q hq => ?_⟩
  have hc := World.ownsRow.cells h (g := g) rfl q _ (icells_get hq)
  have e : (⟨g, 0, none⟩ : Addr).add q = ⟨g, q, none⟩ := by unfold Addr.add; split <;> simp_all
  rw [e] at hc
  exact hc
theorem RowA.cell {w : World} {B g n c : Nat} {xs : List Int} (h : RowA w B (.slice (some ⟨g, 0, none⟩) n c) xs) {q : Nat} (hq : q < xs.length) : w.cell? ⟨g, q, none⟩ = some (.int .i64 (xs.getD q 0)) := by
  have hc := World.ownsRow.cells h (g := g) rfl q _ (icells_get hq)
  have e : (⟨g, 0, none⟩ : Addr).add q = ⟨g, q, none⟩ := by unfold Addr.add; split <;> simp_all
  rw [e] at hc
  exact hc
theorem Box3.setO {w : World} {b B q j : Nat} {v0 v1 v2 u : Value} {x0 x1 x2 : List Int} (h : Box3 w b B v0 v1 v2 x0 x1 x2) (hq : b ≠ q) (hB : q < B) : Box3 (w.setCell ⟨q, j, none⟩ u) b B v0 v1 v2 x0 x1 x2 :=
  ⟨h.box.setOther (a := ⟨q, j, none⟩) hq u, h.r0.set hB, h.r1.set hB, h.r2.set hB, h.d01, h.d02, h.d12, h.lt⟩
theorem grown_drewN (w : World) (n : Nat) : w.grownBy (w.drewN n) none := ⟨rfl, rfl, rfl, Nat.le_refl _, fun _ _ _ => rfl⟩
theorem grown_drew (w : World) : w.grownBy w.drew none := ⟨rfl, rfl, rfl, Nat.le_refl _, fun _ _ _ => rfl⟩
end Go.Proofs.Ytdgimjmdgppboaa
