/- The first node of the part of a valid term that ends at a node: the program walks back, the model has it from its scan. -/
import Derived.Test.YtbeaihjiablcbaaTmS0
import Derived.Test.YtbeaihjiablcbaaPtA
namespace Go.Proofs.Ytbeaihjiablcbaa
set_option maxRecDepth 100000
open Go Go.RowKit Go.Deep

/-- The walk back from the j nodes in front, w parts wanted. -/
def bk (x : List Nd) : Nat → Nat → Option Nat
  | 0, _ => none
  | j + 1, w => if isJointB (x.getD j nd0) = true then bk x j (w + 1) else if w = 1 then some j else bk x j (w - 1)
def BkOK (x : List Nd) (X : Sc) (k : Nat) : Prop := ∀ j, j < k → ∃ a : Nat, X.f.getD j 0 = (a : Int) ∧ a ≤ j ∧ ∀ w, 1 ≤ w → bk x (j + 1) w = if w = 1 then some a else bk x a (w - 1)
theorem step_f {X X' : Sc} {k : Nat} {n : Nd} (h : stepS X k n = some X') : (isJointB n = false ∧ ∃ i o, X' = X.push k i o) ∨ (isJointB n = true ∧ 2 ≤ k ∧ 1 ≤ X.f.getD (k - 1) 0 ∧ ∃ i o, X' = X.push (X.f.getD (X.f.getD (k - 1) 0 - 1).toNat 0) i o) := by
  unfold stepS at h
  by_cases hl : isLeafB n = true
  · rw [if_pos hl] at h
    left
    refine ⟨?_, _, _, (Option.some.inj h).symm⟩
    cases hj : isJointB n with
    | false => rfl
    | true => rw [joint_leaf hj] at hl; cases hl
  · rw [if_neg hl] at h
    by_cases hj : isJointB n = true ∧ 2 ≤ k ∧ 1 ≤ X.f.getD (k - 1) 0
    · rw [if_pos hj] at h
      right
      refine ⟨hj.1, hj.2.1, hj.2.2, ?_⟩
      by_cases h15 : n.k = 15
      · rw [if_pos h15] at h
        split at h
        · exact ⟨_, _, (Option.some.inj h).symm⟩
        · cases h
      · rw [if_neg h15] at h
        split at h
        · exact ⟨_, _, (Option.some.inj h).symm⟩
        · cases h
    · rw [if_neg hj] at h
      cases h
theorem bk_scan (x : List Nd) : ∀ k, k ≤ x.length → ∀ X, scanS .nil 0 (x.take k) = some X → X.len k ∧ BkOK x X k
  | 0, _, X, e => by
    obtain rfl : Sc.nil = X := Option.some.inj e
    exact ⟨⟨rfl, rfl, rfl⟩, fun j hj => absurd hj (Nat.not_lt_zero j)⟩
  | k + 1, hk, X', e => by
    have hlt : k < x.length := by omega
    rw [takeN_snoc hlt, scanS_snoc] at e
    obtain ⟨X, e1, e2⟩ := Option.bind_eq_some_iff.1 e
    rw [Nat.zero_add, List.length_take, Nat.min_eq_left (by omega)] at e2
    obtain ⟨hl, hg⟩ := bk_scan x k (by omega) X e1
    have key : ∀ (f i o : Int) (a : Nat), X' = X.push f i o → f = (a : Int) → a ≤ k → (∀ w, 1 ≤ w → bk x (k + 1) w = if w = 1 then some a else bk x a (w - 1)) → X'.len (k + 1) ∧ BkOK x X' (k + 1) := by
      rintro f i o a rfl hf ha hb
      refine ⟨Sc.len_push hl _ _ _, fun j hj => ?_⟩
      by_cases ej : j = k
      · subst ej
        refine ⟨a, ?_, ha, hb⟩
        rw [← hf]
        show (X.f ++ [f]).getD j 0 = f
        rw [← hl.1]
        exact getD_snoc_r _ _
      · have e1 : (X.push f i o).f.getD j 0 = X.f.getD j 0 := getD_snoc_l (by rw [hl.1]; omega)
        rw [e1]
        exact hg j (by omega)
    rcases step_f e2 with ⟨hj, i, o, hx⟩ | ⟨hj, h2, h1, i, o, hx⟩
    · refine key _ i o k hx rfl (Nat.le_refl _) fun w hw => ?_
      show (if isJointB (x.getD k nd0) = true then bk x k (w + 1) else if w = 1 then some k else bk x k (w - 1)) = _
      rw [if_neg (by rw [hj]; simp)]
    · obtain ⟨m, rfl⟩ : ∃ m, k = m + 1 := ⟨k - 1, by omega⟩
      rw [Nat.add_sub_cancel] at h1 hx
      obtain ⟨a1, ha1, hle1, hb1⟩ := hg m (by omega)
      obtain ⟨a, rfl⟩ : ∃ a, a1 = a + 1 := ⟨a1 - 1, by omega⟩
      obtain ⟨a2, ha2, hle2, hb2⟩ := hg a (by omega)
      have e3 : (X.f.getD m 0 - 1).toNat = a := by omega
      rw [e3] at hx
      refine key _ i o a2 hx ha2 (by omega) fun w hw => ?_
      show (if isJointB (x.getD (m + 1) nd0) = true then bk x (m + 1) (w + 1) else if w = 1 then some (m + 1) else bk x (m + 1) (w - 1)) = _
      rw [if_pos hj, hb1 (w + 1) (by omega), if_neg (by omega), Nat.add_sub_cancel]
      exact hb2 w hw
theorem bk_zero {x : List Nd} {w f : Nat} {j : Nat} (h : bk x j w = some f) : 1 ≤ j := by
  cases j with
  | zero => cases h
  | succ j => omega
set_option maxRecDepth 100000 in
set_option maxHeartbeats 3200000 in
theorem firstNode_any (w : World) (B : Nat) (v : Value) (x : List Nd) (p f : Nat) (hv : LfN w B v x) (hB : B ≤ w.heap.size) (hp : p < x.length) (hl : x.length ≤ 400) (hf : bk x (p + 1) 1 = some f) :
    Calls Try.prog 36 #[.agg #[v], .int .i64 p] w fun e w' => e = .returned (.int .i64 f) ∧ Below w.heap.size w w' := by
  have HB0 := Lib.hid (Below.alloc (Below.refl w.heap.size w) (Nat.le_refl _) (.cells #[v] tTm))
  have HT0 := Lib.hid (cellsAt_new' w #[v] tTm [v] w.heap.size rfl rfl)
  have HV := Lib.hid hv.1
  have HB := Lib.hid hB
  have HF := Lib.hid hf
  obtain ⟨A, c, rfl⟩ := hv.len
  clear hv hB hf
  go_enter Try.func36, Try.ntmps36
  go_wp2
  go_loopw [5, 6] (fun tf tw wr => ∃ j q : Nat, tf = .int .i64 j ∧ tw = .int .i64 q ∧ j < x.length ∧ 1 ≤ q ∧ q + j ≤ p + 1 ∧ Hid (bk x (j + 1) q = some f) ∧ Hid (Below w.heap.size w wr) ∧ Hid (CellsAt wr w.heap.size tTm [.slice A x.length c])) (fun tf _ _ => (intOf tf).toNat)
  case atStart => exact ⟨p, 1, rfl, rfl, hp, Nat.le_refl _, by omega, HF, HB0, HT0⟩
  case round =>
    obtain ⟨j, q, rfl, rfl, hj, hq, hqj, HK, HW, HT⟩ := hrel
    obtain ⟨b, o, rfl, hb, hc0, hc1, hc2⟩ := (HV.out.below HW.out HB.out).at hj
    have HIJ := Lib.hid (isJoint_any wr (x.getD j nd0))
    have HK2 : Hid ((if isJointB (x.getD j nd0) = true then bk x j (q + 1) else if q = 1 then some j else bk x j (q - 1)) = some f) := Lib.hid HK.out
    generalize x.getD j nd0 = nd at hc0 hc1 hc2 HIJ HK2
    have hjI : (j : Int) < (x.length : Int) := by omega
    have hj0 : (0 : Int) ≤ (j : Int) := by omega
    have ht0 : wr.cell? ⟨w.heap.size, 0, none⟩ = some (.slice (some ⟨b, o, none⟩) x.length c) := HT.out.cell (i := 0) (by simp)
    have hos := HT.out.lt
    cases hjo : isJointB nd with
    | true =>
      have HN := Lib.hid (HK2.out.symm.trans (if_pos hjo)).symm
      have hj1 := bk_zero HN.out
      obtain ⟨m, rfl⟩ : ∃ m, j = m + 1 := ⟨j - 1, by omega⟩
      have hw1 : IntKind.i64.wrap ((q : Int) + 1) = (q : Int) + 1 := Go.IntWalk.i64_in _ ⟨by omega, by omega⟩
      rw [hjo] at HIJ
      go_wp2_with fail
      refine HIJ.out.mono ?_
      rintro e w2 ⟨rfl, b2⟩
      have HW2 := Lib.hid (HW.out.trans (b2.mono HW.out.size))
      have HT2 := Lib.hid (HT.out.below b2 hos)
      clear b2 hc0 hc1 hc2 ht0
      have hq1 : ¬ ((q : Int) + 1 = 0) := by omega
      go_wp2
      go_roundw
      case rel => exact ⟨m, q + 1, by go_num, by go_num, by omega, by omega, by omega, HN, HW2, HT2⟩
      case measure => simp [intOf]
    | false =>
      have HN0 := Lib.hid (HK2.out.symm.trans (if_neg (by rw [hjo]; simp))).symm
      rw [hjo] at HIJ
      by_cases h1 : q = 1
      · subst h1
        have HJF := Lib.hid (Option.some.inj ((if_pos rfl).symm.trans HN0.out))
        go_wp2_with fail
        refine HIJ.out.mono ?_
        rintro e w2 ⟨rfl, b2⟩
        have HW2 := Lib.hid (HW.out.trans (b2.mono HW.out.size))
        clear b2 hc0 hc1 hc2 ht0
        go_wp2
        go_ret
        exact ⟨by rw [HJF.out]; rfl, HW2.out⟩
      · have HN := Lib.hid ((if_neg h1).symm.trans HN0.out)
        have hj1 := bk_zero HN.out
        obtain ⟨m, rfl⟩ : ∃ m, j = m + 1 := ⟨j - 1, by omega⟩
        obtain ⟨r, rfl⟩ : ∃ r, q = r + 1 := ⟨q - 1, by omega⟩
        have HN1 : Hid (bk x (m + 1) r = some f) := Lib.hid HN.out
        go_wp2_with fail
        refine HIJ.out.mono ?_
        rintro e w2 ⟨rfl, b2⟩
        have HW2 := Lib.hid (HW.out.trans (b2.mono HW.out.size))
        have HT2 := Lib.hid (HT.out.below b2 hos)
        clear b2 hc0 hc1 hc2 ht0
        have hq1 : ¬ ((r : Int) = 0) := by omega
        go_wp2
        go_roundw
        case rel => exact ⟨m, r, by go_num, by go_num, by omega, by omega, by omega, HN1, HW2, HT2⟩
        case measure => simp [intOf]
end Go.Proofs.Ytbeaihjiablcbaa
