/- IsTerm: both sides. -/
import Derived.Test.YtlnhkhgkmikhoaaDoorPtA
import Derived.Test.YtlnhkhgkmikhoaaDoorMxB
import Derived.Test.YtlnhkhgkmikhoaaDoorRetB
namespace Go.Proofs.YtlnhkhgkmikhoaaDoor
set_option maxRecDepth 100000
open Go Go.RowKit Go.Deep

def badN (p : Int) (n : Nd) : Bool := decide (n.k = 7 ∨ n.k = 13) && !(elems p [n.v])
def itOk (p : Int) (x : List Nd) : Bool := tyOk x && fld p && !(x.any (badN p))
theorem badN_valid {p : Int} {n : Nd} (hf : fld p = true) (h0 : 0 ≤ n.v) : badN p n = (decide (n.k = 7 ∨ n.k = 13) && decide (p ≤ n.v)) := by
  unfold badN elems
  rw [hf]
  simp only [List.all_cons, List.all_nil, Bool.and_true, Bool.true_and]
  congr 1
  unfold el
  rw [decide_eq_true h0, Bool.true_and]
  by_cases h : n.v < p
  · rw [decide_eq_true h, decide_eq_false (by omega)]
    rfl
  · rw [decide_eq_false h, decide_eq_true (by omega)]
    rfl
theorem anyN_no {x : List Nd} {f : Nd → Bool} (h : ∀ j, j < x.length → f (x.getD j nd0) = false) : x.any f = false := by
  rw [List.any_eq_false]
  intro n hn
  obtain ⟨i, hi, rfl⟩ := List.mem_iff_getElem.1 hn
  have := h i hi
  rw [List.getD_eq_getElem?_getD, List.getElem?_eq_getElem hi] at this
  simpa using this
theorem anyN_yes {x : List Nd} {f : Nd → Bool} {j : Nat} (hj : j < x.length) (h : f (x.getD j nd0) = true) : x.any f = true := by
  rw [List.any_eq_true]
  exact ⟨_, getD_mem' hj nd0, h⟩
theorem stack_v : ∀ {t : Tr}, VTr t → ∀ n ∈ nodesOf t, 0 ≤ n.v
  | .leaf n i o, h, m, hm => by
    obtain rfl := List.mem_singleton.1 hm
    exact (leaf_range h.1).2.2.1
  | .seq a b i o, h, m, hm => by
    simp only [nodesOf, List.mem_append, List.mem_singleton] at hm
    rcases hm with hm | hm | rfl
    · exact stack_v h.1 m hm
    · exact stack_v h.2.1 m hm
    · exact Int.le_refl 0
  | .par a b i o, h, m, hm => by
    simp only [nodesOf, List.mem_append, List.mem_singleton] at hm
    rcases hm with hm | hm | rfl
    · exact stack_v h.1 m hm
    · exact stack_v h.2.1 m hm
    · exact Int.le_refl 0
set_option maxHeartbeats 3200000 in
/-- Whether a node's factor lies outside a field: the program's function literal. -/
theorem outN_any (W : World) (bp : Nat) (n : Nd) (p : Int) (hp : CellsAt W bp 3 [.int .i64 p]) (ht : Tab W) :
    Calls Tryd.prog 14 #[ndV n, .pointer (some ⟨bp, 0, none⟩)] W (SaysB W (badN p n)) := by
  unfold ndV
  have hp0 : W.cell? ⟨bp, 0, none⟩ = some (.int .i64 p) := hp.cell (i := 0) (by simp)
  have hlt := hp.lt
  by_cases hk : n.k = 7 ∨ n.k = 13
  · have HM := Lib.hid (show badN p n = !(elems p [n.v]) by unfold badN; rw [decide_eq_true hk]; rfl)
    have HHF := Lib.hid (fun w0 => hasFactor_any w0 n.k)
    rw [decide_eq_true hk] at HHF
    have HB0 := Lib.hid (show Below W.heap.size W ((W.alloc (.cells #[.int .i64 n.k, .int .i64 n.v, .string n.s] tNd)).alloc (.cells #[.int .i64 n.v] 3)) from ((Below.refl _ _).alloc (Nat.le_refl _) _).alloc (by simp) _)
    have HAE := Lib.hid (areElements_any p [n.v] 1 1 (W.heap.size + 1) ((W.alloc (.cells #[.int .i64 n.k, .int .i64 n.v, .string n.s] tNd)).alloc (.cells #[.int .i64 n.v] 3)) (ht.below HB0.out) rfl (by simp) (fun k hk => by
      have e : k = 0 := by simp at hk; omega
      subst e
      simp))
    rw [HM.out]
    clear hk hp ht
    go_enter Tryd.func14, Tryd.ntmps14
    go_wp2_with (first | (go_at_call 15; refine (HHF.out _).mono ?_; rintro e w' ⟨rfl, rfl⟩) | (go_at_call 16; refine HAE.out.mono ?_; rintro e w' ⟨rfl, rfl⟩) | fail)
    go_ret
    exact ⟨rfl, HB0.out⟩
  · have HM := Lib.hid (show badN p n = false by unfold badN; rw [decide_eq_false hk]; rfl)
    have HHF := Lib.hid (fun w0 => hasFactor_any w0 n.k)
    rw [decide_eq_false hk] at HHF
    have HB0 := Lib.hid (show Below W.heap.size W (W.alloc (.cells #[.int .i64 n.k, .int .i64 n.v, .string n.s] tNd)) from (Below.refl _ _).alloc (Nat.le_refl _) _)
    rw [HM.out]
    clear hk hp ht
    go_enter Tryd.func14, Tryd.ntmps14
    go_wp2_with (first | (go_at_call 15; refine (HHF.out _).mono ?_; rintro e w' ⟨rfl, rfl⟩) | fail)
    go_ret
    exact ⟨rfl, HB0.out⟩
def IdxN (w : World) (b : Bool) (e : Ending) (w' : World) : Prop := ∃ i : Int, e = .returned (.int .i64 i) ∧ (0 ≤ i ↔ b = true) ∧ Below w.heap.size w w'
set_option maxHeartbeats 1600000 in
theorem indexN_any (w : World) (B : Nat) (v p1 : Value) (x : List Nd) (f : Nd → Bool) (hv : RdN w (fun b => b < B) v x) (hB : B ≤ w.heap.size) (hn : x.length ≤ 1000000)
    (HF : ∀ (W : World) (n : Nd), Below w.heap.size w W → Calls Tryd.prog 14 #[ndV n, p1] W (SaysB W (f n))) :
    Calls Tryd.prog 24 #[v, .func (.func 14) #[] #[p1]] w (IdxN w (x.any f)) := by
  obtain ⟨A, c, rfl⟩ := hv.len
  have HV := Lib.hid hv
  have HFF := Lib.hid HF
  clear hv HF
  go_enter Tryd.func24, Tryd.ntmps24
  go_wp2
  go_loopw [8, 5] (fun i _ wr => ∃ k : Nat, k ≤ x.length ∧ i = .int .i64 k ∧ Hid (Below w.heap.size w wr) ∧ Hid (∀ j, j < k → f (x.getD j nd0) = false)) (fun i _ _ => x.length - (intOf i).toNat)
  case atStart => exact ⟨0, Nat.zero_le _, rfl, Lib.hid (Below.refl _ _), Lib.hid fun j hj => absurd hj (Nat.not_lt_zero j)⟩
  case round =>
    obtain ⟨k, hk, rfl, HB2, HS⟩ := hrel
    by_cases hlt : k < x.length
    · obtain ⟨b1, o1, rfl, hb1, hc0, hc1, hc2⟩ := (HV.out.below HB2.out hB).at hlt
      have hkI : (k : Int) < (x.length : Int) := by omega
      clear hb1
      cases hfx : f (x.getD k nd0) with
      | false =>
        have HFX := Lib.hid hfx
        have HS2 := Lib.hid (show ∀ j, j < k + 1 → f (x.getD j nd0) = false from fun j hj => by
          by_cases c : j = k
          · rw [c]; exact hfx
          · exact HS.out j (by omega))
        clear hfx
        generalize x.getD k nd0 = nd at hc0 hc1 hc2 HFX
        go_wp2_with fail
        refine (HFF.out _ nd HB2.out).mono ?_
        rintro e w2 ⟨rfl, b2⟩
        have HB3 := Lib.hid (HB2.out.trans (b2.mono HB2.out.size))
        clear b2
        rw [HFX.out]
        go_wp2
        go_roundw
        case rel => exact ⟨k + 1, by omega, by go_num, HB3, HS2⟩
        case measure => simp [intOf]; omega
      | true =>
        have HFX := Lib.hid hfx
        have HY := Lib.hid (anyN_yes hlt hfx)
        clear hfx
        generalize x.getD k nd0 = nd at hc0 hc1 hc2 HFX
        go_wp2_with fail
        refine (HFF.out _ nd HB2.out).mono ?_
        rintro e w2 ⟨rfl, b2⟩
        have HB3 := Lib.hid (HB2.out.trans (b2.mono HB2.out.size))
        clear b2
        rw [HFX.out]
        go_wp2
        go_ret
        exact ⟨k, rfl, by rw [HY.out]; simp, HB3.out⟩
    · have HN := Lib.hid (anyN_no (f := f) fun j hj => HS.out j (by omega))
      have hkI : ¬ (k : Int) < (x.length : Int) := by omega
      go_wp2
      go_ret
      exact ⟨-1, rfl, by rw [HN.out]; simp, HB2.out⟩
set_option maxHeartbeats 1600000 in
theorem containsN_any (w : World) (B : Nat) (v p1 : Value) (x : List Nd) (f : Nd → Bool) (hv : RdN w (fun b => b < B) v x) (hB : B ≤ w.heap.size) (hn : x.length ≤ 1000000)
    (HF : ∀ (W : World) (n : Nd), Below w.heap.size w W → Calls Tryd.prog 14 #[ndV n, p1] W (SaysB W (f n))) :
    Calls Tryd.prog 17 #[v, .func (.func 14) #[] #[p1]] w (SaysB w (x.any f)) := by
  obtain ⟨A, c, rfl⟩ := hv.len
  have HI := Lib.hid (indexN_any w B _ p1 x f hv hB hn HF)
  clear hv HF
  go_enter Tryd.func17, Tryd.ntmps17
  go_wp2_with fail
  refine HI.out.mono ?_
  rintro e w2 ⟨i, rfl, hi, b2⟩
  have HII := Lib.hid hi
  have HB2 := Lib.hid b2
  clear hi b2
  go_wp2
  go_ret
  refine ⟨congrArg (fun b => Ending.returned (Value.bool b)) ?_, HB2.out⟩
  have := HII.out
  rw [Bool.eq_iff_iff, ← this]
  simp
set_option maxRecDepth 100000 in
set_option maxHeartbeats 6400000 in
theorem impl_IsTerm (w : World) (B : Nat) (p : Int) (v : Value) (x : List Nd) (ht : Tab w) (hv : LfN w B v x) (hB : B ≤ w.heap.size) (_ : szN x ≤ 1048576) :
    Calls Tryd.prog 7 #[.int .i64 p, .agg #[v]] w (IRetB w (itOk p x)) := by
  have HB0 := Lib.hid (show Below w.heap.size w ((w.alloc (.cells #[.int .i64 p] 3)).alloc (.cells #[v] tTm)) from ((Below.refl _ _).alloc (Nat.le_refl _) _).alloc (by simp) _)
  have HPO := Lib.hid (partOf_any ((w.alloc (.cells #[.int .i64 p] 3)).alloc (.cells #[v] tTm)) B v x (hv.below HB0.out hB) (by simp; omega))
  have HP0 := Lib.hid ((cellsAt_new' w #[.int .i64 p] 3 [.int .i64 p] w.heap.size rfl rfl).alloc (.cells #[v] tTm))
  have HC0 := Lib.hid (cellsAt_new' (w.alloc (.cells #[.int .i64 p] 3)) #[v] tTm [v] (w.heap.size + 1) (by simp) rfl)
  have hsz0 : ((w.alloc (.cells #[.int .i64 p] 3)).alloc (.cells #[v] tTm)).heap.size = w.heap.size + 2 := by simp
  have HT := Lib.hid ht
  have HV := Lib.hid hv
  have HB := Lib.hid hB
  have hxl := hv.2.1
  obtain ⟨A, c, rfl⟩ := hv.len
  obtain ⟨bt, HTB⟩ : ∃ bt, Hid ((treeOf x).isSome = bt) := ⟨_, Lib.hid rfl⟩
  have HTY : Hid (tyOk x = bt) := Lib.hid (by rw [← HTB.out]; rfl)
  clear hv hB ht
  cases bt with
  | false =>
    have H1 : Hid (itOk p x = false) := Lib.hid (by unfold itOk; rw [HTY.out]; rfl)
    go_enter Tryd.func7, Tryd.ntmps7
    go_wp2_with fail
    refine HPO.out.mono ?_
    rintro e w2 ⟨u, ok, rfl, b2, hok, hu⟩
    rw [HTB.out] at hok
    subst hok
    have HB2 := Lib.hid (HB0.out.trans (b2.mono (by rw [hsz0]; omega)))
    clear b2 hu
    go_wp2
    refine bodyPost_ret (v := .bool false) (by simp [results, Tryd.results7, go_sem]) rfl ?_
    unfold IRetB
    rw [H1.out]
    exact ⟨rfl, HB2.out⟩
  | true =>
    have hx4 : x.length ≤ 400 := by
      have h := HTB.out
      obtain ⟨t, ht⟩ := Option.isSome_iff_exists.1 h
      exact (tree_valid ht).2.2
    cases hf : fld p with
    | false =>
      have H1 : Hid (itOk p x = false) := Lib.hid (by unfold itOk; rw [HTY.out, hf]; rfl)
      have HF := Lib.hid hf
      clear hf
      go_enter Tryd.func7, Tryd.ntmps7
      go_wp2_with fail
      refine HPO.out.mono ?_
      rintro e w2 ⟨u, ok, rfl, b2, hok, hu⟩
      rw [HTB.out] at hok
      subst hok
      have HB2 := Lib.hid (HB0.out.trans (b2.mono (by rw [hsz0]; omega)))
      have HP2 := Lib.hid (HP0.out.below b2 (by rw [hsz0]; omega))
      have hp2 : w2.cell? ⟨w.heap.size, 0, none⟩ = some (.int .i64 p) := HP2.out.cell (i := 0) (by simp)
      have HI := Lib.hid (isField_any p w2 (HT.out.below HB2.out))
      rw [HF.out] at HI
      clear b2 hu
      go_wp2_with (first | (go_at_call 13; refine HI.out.mono ?_; rintro e w' ⟨rfl, rfl⟩) | fail)
      refine bodyPost_ret (v := .bool false) (by simp [results, Tryd.results7, go_sem]) rfl ?_
      unfold IRetB
      rw [H1.out]
      exact ⟨rfl, HB2.out⟩
    | true =>
      have H1 : Hid (itOk p x = !(x.any (badN p))) := Lib.hid (by unfold itOk; rw [HTY.out, hf]; rfl)
      have HF := Lib.hid hf
      clear hf
      go_enter Tryd.func7, Tryd.ntmps7
      go_wp2_with fail
      refine HPO.out.mono ?_
      rintro e w2 ⟨u, ok, rfl, b2, hok, hu⟩
      rw [HTB.out] at hok
      subst hok
      have HB2 := Lib.hid (HB0.out.trans (b2.mono (by rw [hsz0]; omega)))
      have HP2 := Lib.hid (HP0.out.below b2 (by rw [hsz0]; omega))
      have HC2 := Lib.hid (HC0.out.below b2 (by rw [hsz0]; omega))
      have hsz2 : w.heap.size + 2 ≤ w2.heap.size := by rw [← hsz0]; exact b2.size
      have hp2 : w2.cell? ⟨w.heap.size, 0, none⟩ = some (.int .i64 p) := HP2.out.cell (i := 0) (by simp)
      have hc2 : w2.cell? ⟨w.heap.size + 1, 0, none⟩ = some (.slice A x.length c) := HC2.out.cell (i := 0) (by simp)
      have HI := Lib.hid (isField_any p w2 (HT.out.below HB2.out))
      rw [HF.out] at HI
      have HCN := Lib.hid (containsN_any w2 B (.slice A x.length c) (.pointer (some ⟨w.heap.size, 0, none⟩)) x (badN p) (HV.out.1.below HB2.out HB.out) (by have := HB.out; omega) (by omega) (fun W n hW => outN_any W w.heap.size n p (HP2.out.below hW (by omega)) ((HT.out.below HB2.out).below hW)))
      obtain ⟨r, HR⟩ : ∃ r, Hid (x.any (badN p) = r) := ⟨_, Lib.hid rfl⟩
      rw [HR.out] at HCN H1
      clear b2 hu
      go_wp2_with (first | (go_at_call 13; refine HI.out.mono ?_; rintro e w' ⟨rfl, rfl⟩) | (go_at_call 17; refine HCN.out.mono ?_; rintro e w3 ⟨rfl, b3⟩; have HB3 := Lib.hid (HB2.out.trans (b3.mono HB2.out.size)); clear b3) | fail)
      refine bodyPost_ret (v := .bool !r) (by simp [results, Tryd.results7, go_sem]) rfl ?_
      unfold IRetB
      rw [H1.out]
      exact ⟨rfl, HB3.out⟩
end Go.Proofs.YtlnhkhgkmikhoaaDoor
