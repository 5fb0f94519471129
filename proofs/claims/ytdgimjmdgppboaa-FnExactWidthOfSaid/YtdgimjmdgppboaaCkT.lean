/- CountKinds: the number of nodes of each kind: the model and the program. -/
import Derived.Test.YtdgimjmdgppboaaTmQ
import Derived.Test.YtdgimjmdgppboaaPtA
import Derived.Test.YtdgimjmdgppboaaRetRB
namespace Go.Proofs.Ytdgimjmdgppboaa
set_option maxRecDepth 100000
open Go Go.RowKit Go.Deep

def ckL (x : List Nd) : List Int := if tyOk x = true then cntK x else []
theorem take_snocN {x : List Nd} {k : Nat} (h : k < x.length) : x.take (k + 1) = x.take k ++ [x.getD k nd0] := by
  rw [List.take_add_one, List.getElem?_eq_getElem h, List.getD_eq_getElem?_getD, List.getElem?_eq_getElem h]
  rfl
theorem tree_len {ns : List Nd} {t : Tr} (h : treeOf ns = some t) : ns.length ≤ 400 := by
  unfold treeOf at h
  by_cases h1 : ns.length ≤ 400
  · exact h1
  · rw [if_neg h1] at h
    cases h
set_option maxHeartbeats 1600000 in
theorem tmValid_any (w : World) (B : Nat) (v : Value) (x : List Nd) (hv : LfN w B v x) (hB : B ≤ w.heap.size) :
    Calls Try.prog 28 #[.agg #[v]] w fun e w' => e = .returned (.bool (okS x)) ∧ Below w.heap.size w w' := by
  have HB0 := Lib.hid (Below.alloc (Below.refl w.heap.size w) (Nat.le_refl _) (.cells #[v] tTm))
  have HSC := Lib.hid (tmScan_any (w.alloc (.cells #[v] tTm)) B v x (hv.below HB0.out hB) (by simp; omega))
  obtain ⟨A, c, rfl⟩ := hv.len
  clear hv hB
  go_enter Try.func28, Try.ntmps28
  go_wp2_with fail
  refine HSC.out.mono ?_
  rintro e w2 ⟨v0, v1, v2, rfl, b2, -, ⟨A0, n0, c0, rfl⟩, ⟨A1, n1, c1, rfl⟩, ⟨A2, n2, c2, rfl⟩⟩
  have HB2 := Lib.hid (HB0.out.trans (b2.mono (by simp)))
  clear b2
  go_wp2
  refine bodyPost_ret (v := .bool (okS x)) (by simp [results, Try.results28, go_sem]) rfl ?_
  exact ⟨rfl, HB2.out.alloc (by have := HB2.out.size; omega) _⟩

set_option maxRecDepth 100000 in
set_option maxHeartbeats 3200000 in
theorem spec_CountKinds (w : World) (B : Nat) (v : Value) (x : List Nd) (hv : LfN w B v x) (hB : B ≤ w.heap.size) (_ : szN x ≤ 1048576) :
    Calls Try.prog 14 #[.agg #[v]] w (SRetRB w (ckL x) (tyOk x)) := by
  have HPO := Lib.hid (tmValid_any (w.alloc (.cells #[v] tTm)) B v x (hv.below (Below.alloc (Below.refl _ _) (Nat.le_refl _) _) hB) (by simp; omega))
  have HB0 := Lib.hid (Below.alloc (Below.refl w.heap.size w) (Nat.le_refl _) (.cells #[v] tTm))
  have HT0 := Lib.hid (cellsAt_new' w #[v] tTm [v] w.heap.size rfl rfl)
  have HV := Lib.hid hv
  have HB := Lib.hid hB
  obtain ⟨A, c, rfl⟩ := hv.len
  clear hv hB
  cases ht : treeOf x with
  | none =>
    have H1 : Hid (ckL x = []) := Lib.hid (by unfold ckL tyOk; rw [ht]; rfl)
    have H3 : Hid (tyOk x = false) := Lib.hid (by unfold tyOk; rw [ht]; rfl)
    have HOK : Hid (okS x = false) := Lib.hid (by rw [ok_both, ht]; rfl)
    have HT := Lib.hid ht
    clear ht
    go_enter Try.func14, Try.ntmps14
    go_wp2_with fail
    refine HPO.out.mono ?_
    rintro e w2 ⟨rfl, b2⟩
    rw [HOK.out]
    have HB2 := Lib.hid (HB0.out.trans (b2.mono (by simp)))
    clear b2
    go_wp2
    refine bodyPost_ret (v := .tuple #[.slice none 0 0, .bool false]) (by simp [results, Try.results14, go_sem]) rfl ?_
    unfold SRetRB
    rw [H1.out, H3.out]
    exact ⟨_, rfl, HB2.out, ⟨none, 0, rfl, Nat.le_refl _, Or.inl rfl⟩, Nat.zero_le _⟩
  | some t =>
    have H1 : Hid (ckL x = cntK x) := Lib.hid (by unfold ckL tyOk; rw [ht]; rfl)
    have H3 : Hid (tyOk x = true) := Lib.hid (by unfold tyOk; rw [ht]; rfl)
    have HOK : Hid (okS x = true) := Lib.hid (by rw [ok_both, ht]; rfl)
    have HKD : Hid (∀ n ∈ x, 1 ≤ n.k ∧ n.k ≤ 16) := Lib.hid (tree_kinds ht)
    have hxl : x.length ≤ 400 := tree_len ht
    have HT := Lib.hid ht
    clear ht
    go_enter Try.func14, Try.ntmps14
    go_wp2_with fail
    refine HPO.out.mono ?_
    rintro e w2 ⟨rfl, b2⟩
    rw [HOK.out]
    have HB2 := Lib.hid (HB0.out.trans (b2.mono (by simp)))
    have HTM := Lib.hid (HT0.out.below b2 (by simp))
    have hsz2 : w.heap.size + 1 ≤ w2.heap.size := by have := b2.size; simp at this; omega
    have hlt0 : w.heap.size < w2.heap.size := by omega
    obtain ⟨ht0, -⟩ : w2.cell? ⟨w.heap.size, 0, none⟩ = some (.slice A x.length c) ∧ True := ⟨HTM.out.cell (i := 0) (by simp), trivial⟩
    have hmk : (Instr.makeSlice 34 (.int .i64 16) (.int .i64 16)).run Try.prog w2 = .ok (.slice (some ⟨w2.heap.size, 0, none⟩) 16 16) (w2.alloc (.cells (madeCells #[.int .i64 0] 16) 3)) := make_ints 16 (by omega) w2
    have HMI := Lib.hid (made_ints w2 16)
    clear b2
    go_wp2
    go_loopw [14] (fun i wr => ∃ k : Nat, k ≤ x.length ∧ i = .int .i64 k ∧ Hid (Below w.heap.size w wr) ∧ Hid (CellsAt wr w2.heap.size tI (icells (cntK (x.take k))))) (fun i _ => x.length - (intOf i).toNat)
    case atStart => exact ⟨0, Nat.zero_le _, rfl, Lib.hid (by refine Below.trans HB2.out ?_; repeat' (first | exact Below.refl _ _ | apply Below.drew | apply below_drewN | apply Below.setCell | apply Below.alloc | (simp; done) | omega | (simp; omega))), Lib.hid (by rw [List.take_zero, cntK_nil]; exact HMI.out)⟩
    case round =>
      obtain ⟨k, hk, rfl, HBR, HO⟩ := hrel
      by_cases hlt : k < x.length
      · obtain ⟨b, o, rfl, hb, hc0, hc1, hc2⟩ := (HV.out.below HBR.out HB.out).1.at hlt
        have hkd := HKD.out (x.getD k nd0) (getD_mem' hlt nd0)
        have htk : x.take (k + 1) = x.take k ++ [x.getD k nd0] := take_snocN hlt
        have hbd := cntK_bd (x.take k) ((x.getD k nd0).k - 1).toNat
        have HLT := Lib.hid (show (x.take k).length ≤ 400 by rw [List.length_take]; omega)
        have HSN := Lib.hid (cntK_snoc (ns := x.take k) hkd.1 hkd.2)
        rw [← htk] at HSN
        generalize x.getD k nd0 = nd at hc0 hc1 hc2 hkd HSN hbd
        clear htk
        obtain ⟨k1, k2⟩ := hkd
        obtain ⟨j, hj, hj16⟩ : ∃ j : Nat, nd.k - 1 = (j : Int) ∧ j < 16 := ⟨(nd.k - 1).toNat, by omega, by omega⟩
        have hjn : (nd.k - 1).toNat = j := by omega
        rw [hjn] at HSN hbd
        have hw1 : IntKind.i64.wrap (nd.k - 1) = (j : Int) := by rw [hj]; exact Go.IntWalk.i64_in _ ⟨by omega, by omega⟩
        have hcl := cntK_len (x.take k)
        have hcj : wr.cell? ⟨w2.heap.size, j, none⟩ = some (.int .i64 ((cntK (x.take k)).getD j 0)) := by
          rw [HO.out.cell (i := j) (by rw [icells_len, hcl]; exact hj16), ← icells_get (by rw [hcl]; exact hj16), List.getElem?_eq_getElem (by rw [icells_len, hcl]; exact hj16)]
        have HST := Lib.hid (HO.out.set j (.int .i64 ((cntK (x.take k)).getD j 0 + 1)))
        rw [icells_set, HSN.out] at HST
        have hf := HO.out.frozen j
        have hos := HO.out.lt
        obtain ⟨z, HZ⟩ : ∃ z, Hid ((cntK (x.take k)).getD j 0 = z) := ⟨_, Lib.hid rfl⟩
        rw [HZ.out] at hcj hbd HST
        have hz := HLT.out
        have hw2 : IntKind.i64.wrap (z + 1) = z + 1 := Go.IntWalk.i64_in _ ⟨by omega, by omega⟩
        clear hbd hcl
        have hxI : (k : Int) < (x.length : Int) := by omega
        have hj0 : (0 : Int) ≤ (j : Int) := by omega
        have hj1 : (j : Int) < 16 := by omega
        have hwb : w.heap.size ≤ w2.heap.size := by omega
        go_wp2
        go_roundw
        case rel => exact ⟨k + 1, by omega, by go_num, Lib.hid (by refine Below.trans HBR.out ?_; repeat' (first | exact Below.refl _ _ | apply Below.drew | apply below_drewN | apply Below.setCell | apply Below.alloc | (simp; done) | omega | (simp; omega))), Lib.hid (HST.out.alloc _)⟩
        case measure => simp [intOf]; omega
      · have hxI : ¬ (k : Int) < (x.length : Int) := by omega
        have HE := Lib.hid (show x.take k = x from List.take_of_length_le (by omega))
        rw [HE.out] at HO
        go_wp2
        refine bodyPost_ret (v := .tuple #[.slice (some ⟨w2.heap.size, 0, none⟩) 16 16, .bool true]) (by simp [results, Try.results14, go_sem]) rfl ?_
        unfold SRetRB
        rw [H1.out, H3.out]
        exact ⟨_, rfl, HBR.out, owR_at (by omega) HO.out (by rw [cntK_len]), by unfold szR; rw [cntK_len]; omega⟩

set_option maxRecDepth 100000 in
set_option maxHeartbeats 3200000 in
theorem impl_CountKinds (w : World) (B : Nat) (v : Value) (x : List Nd) (hv : LfN w B v x) (hB : B ≤ w.heap.size) (_ : szN x ≤ 1048576) :
    Calls Try.prog 15 #[.agg #[v]] w (IRetRB w (ckL x) (tyOk x)) := by
  have HPO := Lib.hid (partOf_any (w.alloc (.cells #[v] tTm)) B v x (hv.below (Below.alloc (Below.refl _ _) (Nat.le_refl _) _) hB) (by simp; omega))
  have HB0 := Lib.hid (Below.alloc (Below.refl w.heap.size w) (Nat.le_refl _) (.cells #[v] tTm))
  have HT0 := Lib.hid (cellsAt_new' w #[v] tTm [v] w.heap.size rfl rfl)
  have HV := Lib.hid hv
  have HB := Lib.hid hB
  obtain ⟨A, c, rfl⟩ := hv.len
  clear hv hB
  cases ht : treeOf x with
  | none =>
    have H1 : Hid (ckL x = []) := Lib.hid (by unfold ckL tyOk; rw [ht]; rfl)
    have H3 : Hid (tyOk x = false) := Lib.hid (by unfold tyOk; rw [ht]; rfl)
    have HOK : Hid (okS x = false) := Lib.hid (by rw [ok_both, ht]; rfl)
    have HT := Lib.hid ht
    clear ht
    go_enter Try.func15, Try.ntmps15
    go_wp2_with fail
    refine HPO.out.mono ?_
    rintro e w2 ⟨u, ok, rfl, b2, hok, hu⟩
    rw [HT.out] at hok
    subst hok
    clear hu
    have HB2 := Lib.hid (HB0.out.trans (b2.mono (by simp)))
    clear b2
    go_wp2
    refine bodyPost_ret (v := .tuple #[.slice none 0 0, .bool false]) (by simp [results, Try.results15, go_sem]) rfl ?_
    unfold IRetRB
    rw [H1.out, H3.out]
    exact ⟨_, rfl, HB2.out, ⟨none, 0, rfl, Nat.le_refl _, Or.inl rfl⟩, Nat.zero_le _⟩
  | some t =>
    have H1 : Hid (ckL x = cntK x) := Lib.hid (by unfold ckL tyOk; rw [ht]; rfl)
    have H3 : Hid (tyOk x = true) := Lib.hid (by unfold tyOk; rw [ht]; rfl)
    have HOK : Hid (okS x = true) := Lib.hid (by rw [ok_both, ht]; rfl)
    have HKD : Hid (∀ n ∈ x, 1 ≤ n.k ∧ n.k ≤ 16) := Lib.hid (tree_kinds ht)
    have hxl : x.length ≤ 400 := tree_len ht
    have HT := Lib.hid ht
    clear ht
    go_enter Try.func15, Try.ntmps15
    go_wp2_with fail
    refine HPO.out.mono ?_
    rintro e w2 ⟨u, ok, rfl, b2, hok, hu⟩
    rw [HT.out] at hok
    subst hok
    clear hu
    have HB2 := Lib.hid (HB0.out.trans (b2.mono (by simp)))
    have HTM := Lib.hid (HT0.out.below b2 (by simp))
    have hsz2 : w.heap.size + 1 ≤ w2.heap.size := by have := b2.size; simp at this; omega
    have hlt0 : w.heap.size < w2.heap.size := by omega
    obtain ⟨ht0, -⟩ : w2.cell? ⟨w.heap.size, 0, none⟩ = some (.slice A x.length c) ∧ True := ⟨HTM.out.cell (i := 0) (by simp), trivial⟩
    have hmk : (Instr.makeSlice 34 (.int .i64 16) (.int .i64 16)).run Try.prog w2 = .ok (.slice (some ⟨w2.heap.size, 0, none⟩) 16 16) (w2.alloc (.cells (madeCells #[.int .i64 0] 16) 3)) := make_ints 16 (by omega) w2
    have HMI := Lib.hid (made_ints w2 16)
    clear b2
    go_wp2
    go_loopw [20] (fun i wr => ∃ k : Nat, k ≤ x.length ∧ i = .int .i64 k ∧ Hid (Below w.heap.size w wr) ∧ Hid (CellsAt wr w2.heap.size tI (icells (cntK (x.take k))))) (fun i _ => x.length - (intOf i).toNat)
    case atStart => exact ⟨0, Nat.zero_le _, rfl, Lib.hid (by refine Below.trans HB2.out ?_; repeat' (first | exact Below.refl _ _ | apply Below.drew | apply below_drewN | apply Below.setCell | apply Below.alloc | (simp; done) | omega | (simp; omega))), Lib.hid (by rw [List.take_zero, cntK_nil]; exact HMI.out)⟩
    case round =>
      obtain ⟨k, hk, rfl, HBR, HO⟩ := hrel
      by_cases hlt : k < x.length
      · obtain ⟨b, o, rfl, hb, hc0, hc1, hc2⟩ := (HV.out.below HBR.out HB.out).1.at hlt
        have hkd := HKD.out (x.getD k nd0) (getD_mem' hlt nd0)
        have htk : x.take (k + 1) = x.take k ++ [x.getD k nd0] := take_snocN hlt
        have hbd := cntK_bd (x.take k) ((x.getD k nd0).k - 1).toNat
        have HLT := Lib.hid (show (x.take k).length ≤ 400 by rw [List.length_take]; omega)
        have HSN := Lib.hid (cntK_snoc (ns := x.take k) hkd.1 hkd.2)
        rw [← htk] at HSN
        generalize x.getD k nd0 = nd at hc0 hc1 hc2 hkd HSN hbd
        clear htk
        obtain ⟨k1, k2⟩ := hkd
        obtain ⟨j, hj, hj16⟩ : ∃ j : Nat, nd.k - 1 = (j : Int) ∧ j < 16 := ⟨(nd.k - 1).toNat, by omega, by omega⟩
        have hjn : (nd.k - 1).toNat = j := by omega
        rw [hjn] at HSN hbd
        have hw1 : IntKind.i64.wrap (nd.k - 1) = (j : Int) := by rw [hj]; exact Go.IntWalk.i64_in _ ⟨by omega, by omega⟩
        have hcl := cntK_len (x.take k)
        have hcj : wr.cell? ⟨w2.heap.size, j, none⟩ = some (.int .i64 ((cntK (x.take k)).getD j 0)) := by
          rw [HO.out.cell (i := j) (by rw [icells_len, hcl]; exact hj16), ← icells_get (by rw [hcl]; exact hj16), List.getElem?_eq_getElem (by rw [icells_len, hcl]; exact hj16)]
        have HST := Lib.hid (HO.out.set j (.int .i64 ((cntK (x.take k)).getD j 0 + 1)))
        rw [icells_set, HSN.out] at HST
        have hf := HO.out.frozen j
        have hos := HO.out.lt
        obtain ⟨z, HZ⟩ : ∃ z, Hid ((cntK (x.take k)).getD j 0 = z) := ⟨_, Lib.hid rfl⟩
        rw [HZ.out] at hcj hbd HST
        have hz := HLT.out
        have hw2 : IntKind.i64.wrap (z + 1) = z + 1 := Go.IntWalk.i64_in _ ⟨by omega, by omega⟩
        clear hbd hcl
        have hxI : (k : Int) < (x.length : Int) := by omega
        have hj0 : (0 : Int) ≤ (j : Int) := by omega
        have hj1 : (j : Int) < 16 := by omega
        have hwb : w.heap.size ≤ w2.heap.size := by omega
        go_wp2
        go_roundw
        case rel => exact ⟨k + 1, by omega, by go_num, Lib.hid (by refine Below.trans HBR.out ?_; repeat' (first | exact Below.refl _ _ | apply Below.drew | apply below_drewN | apply Below.setCell | apply Below.alloc | (simp; done) | omega | (simp; omega))), Lib.hid (HST.out.alloc _)⟩
        case measure => simp [intOf]; omega
      · have hxI : ¬ (k : Int) < (x.length : Int) := by omega
        have HE := Lib.hid (show x.take k = x from List.take_of_length_le (by omega))
        rw [HE.out] at HO
        go_wp2
        refine bodyPost_ret (v := .tuple #[.slice (some ⟨w2.heap.size, 0, none⟩) 16 16, .bool true]) (by simp [results, Try.results15, go_sem]) rfl ?_
        unfold IRetRB
        rw [H1.out, H3.out]
        exact ⟨_, rfl, HBR.out, owR_at (by omega) HO.out (by rw [cntK_len]), by unfold szR; rw [cntK_len]; omega⟩
end Go.Proofs.Ytdgimjmdgppboaa
