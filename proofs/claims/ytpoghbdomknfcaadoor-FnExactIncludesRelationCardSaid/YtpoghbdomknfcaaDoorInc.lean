/- IncludesRelation: the helpers of both sides. -/
import Derived.Test.YtpoghbdomknfcaaDoorVecI
import Derived.Test.YtpoghbdomknfcaaDoorVecS
import Derived.Test.YtpoghbdomknfcaaDoorIsRl
import Derived.Deep.RegionHeld3
namespace Go.Proofs.YtpoghbdomknfcaaDoor
set_option maxRecDepth 100000
open Go Go.RowKit Go.Deep

theorem rdS_slice {w : World} {S : Nat → Prop} {v : Value} {xs : List Int} (h : RdS w S v xs) : ∃ A c, v = .slice A xs.length c := by
  obtain ⟨A, c, e, _⟩ := h
  exact ⟨A, c, e⟩
set_option maxHeartbeats 1600000 in
/-- Whether a pair is not in a relation: the program's function literal. -/
theorem outside_any (W : World) (B b3 b4 : Nat) (u : Value) (A1 : Option Addr) (c1 : Nat) (p : Int) (l r : Nat) (R : List (List Int)) (x : List Int) (h3 : CellsAt W b3 3 [.int .i64 p]) (h4 : CellsAt W b4 tRl [.int .i64 l, .int .i64 r, .slice A1 R.length c1])
    (hv : RdG W B (.slice A1 R.length c1) R) (hu : RdS W (fun b => b < B) u x) (hB : B ≤ W.heap.size) (hf : fld p = true) (hR : IsRed p R.length (l + r) R) (hxv : Vec p (l + r) x) (hl : l + r ≤ 24) :
    Calls Tryd.prog 88 #[u, .pointer (some ⟨b3, 0, none⟩), .pointer (some ⟨b4, 0, none⟩)] W (SaysB W (!hasV p (l + r) R x)) := by
  obtain ⟨Au, cu, rfl⟩ := rdS_slice hu
  have hp0 : W.cell? ⟨b3, 0, none⟩ = some (.int .i64 p) := h3.cell (i := 0) (by simp)
  have hx := h4.three
  have HELD : Hid (∀ w' : World, w'.heap[b3]? = W.heap[b3]? → w'.heap[b4]? = W.heap[b4]? → w'.cell? ⟨b3, 0, none⟩ = some (.int .i64 p) ∧ w'.cell? ⟨b4, 0, none⟩ = some (.int .i64 l) ∧ w'.cell? ⟨b4, 1, none⟩ = some (.int .i64 r) ∧ w'.cell? ⟨b4, 2, none⟩ = some (.slice A1 R.length c1)) := Lib.hid (fun w' H K => ⟨(World.cell?_of_block (w := W) H).trans hp0, (World.cell?_of_block (w := W) K).trans hx.1, (World.cell?_of_block (w := W) K).trans hx.2.1, (World.cell?_of_block (w := W) K).trans hx.2.2.1⟩)
  have hb3 := h3.lt
  have hb4 := h4.lt
  have HQ0 : Hid (W.drew.heap[b3]? = W.heap[b3]?) := Lib.hid rfl
  have HK0 : Hid (W.drew.heap[b4]? = W.heap[b4]?) := Lib.hid rfl
  have HV := Lib.hid hv
  have HU := Lib.hid hu
  have HF := Lib.hid hf
  have HR := Lib.hid hR
  have HXV := Lib.hid hxv
  have hl0 : (0 : Int) ≤ l := by omega
  have hr0 : (0 : Int) ≤ r := by omega
  have hlr : (l : Int) + r ≤ 24 := by omega
  have HC := Lib.hid (show ((l : Int) + r) = ((l + r : Nat) : Int) by omega)
  clear hx hp0 hv hu hf hR h3 h4 hxv
  go_enter Tryd.func88, Tryd.ntmps88
  go_wp2
  go_region_held3 (fun w' => w'.cell? ⟨b3, 0, none⟩ = some (.int .i64 p) ∧ w'.cell? ⟨b4, 0, none⟩ = some (.int .i64 l) ∧ w'.cell? ⟨b4, 1, none⟩ = some (.int .i64 r) ∧ w'.cell? ⟨b4, 2, none⟩ = some (.slice A1 R.length c1))
    (first | with_reducible exact HELD.out _ HQ0.out HK0.out | with_reducible exact HELD.out _ HQ1.out HK1.out | with_reducible exact HELD.out _ HQ2.out HK2.out)
    (first
      | (go_at_call 85; go_split_ands; refine (pairs_any W.drew A1 R.length c1 l r hl0 hr0 hlr).mono ?_; rintro e w1 ⟨rfl, b1⟩; have HB1 : Hid (Below W.heap.size W w1) := Lib.hid ((Below.refl _ _).drew.trans b1); have HQ1 : Hid (w1.heap[b3]? = W.heap[b3]?) := Lib.hid (HB1.out.block _ hb3); have HK1 : Hid (w1.heap[b4]? = W.heap[b4]?) := Lib.hid (HB1.out.block _ hb4); have HV1 := Lib.hid (HV.out.below HB1.out hB); have HU1 := Lib.hid (HU.out.below HB1.out hB); have hB1 : B ≤ w1.heap.size := Nat.le_trans hB HB1.out.size; clear b1)
      | (go_at_call 84; go_split_ands; rw [HC.out]; refine (contains_sp w1 B _ _ p (l + r) R x HV1.out HU1.out hB1 HF.out HR.out HXV.out hl).mono ?_; rintro e w2 ⟨rfl, b2⟩; have HB2 : Hid (Below W.heap.size W w2) := Lib.hid (HB1.out.trans (b2.mono HB1.out.size)); have HQ2 : Hid (w2.heap[b3]? = W.heap[b3]?) := Lib.hid (HB2.out.block _ hb3); have HK2 : Hid (w2.heap[b4]? = W.heap[b4]?) := Lib.hid (HB2.out.block _ hb4); clear b2))
  go_wp2
  go_ret
  exact ⟨rfl, HB2.out⟩
/-- An index at or behind 0 exactly if there is such an element. -/
def IdxB (w : World) (b : Bool) (e : Ending) (w' : World) : Prop := ∃ i : Int, e = .returned (.int .i64 i) ∧ (0 ≤ i ↔ b = true) ∧ Below w.heap.size w w'
theorem any_no {rows : List (List Int)} {f : List Int → Bool} (h : ∀ j, j < rows.length → f (rows.getD j []) = false) : rows.any f = false := by
  rw [List.any_eq_false]
  intro x hx
  obtain ⟨i, hi, rfl⟩ := mem_getD [] hx
  rw [h i hi]
  simp
theorem any_yes {rows : List (List Int)} {f : List Int → Bool} {j : Nat} (hj : j < rows.length) (h : f (rows.getD j []) = true) : rows.any f = true := by
  rw [List.any_eq_true]
  exact ⟨_, getD_mem' hj [], h⟩
set_option maxHeartbeats 1600000 in
theorem indexOut_any (w : World) (B : Nat) (v p1 p2 : Value) (rows : List (List Int)) (f : List Int → Bool) (hv : RdG w B v rows) (hB : B ≤ w.heap.size) (hn : rows.length ≤ 1000000)
    (HF : ∀ (W : World) (u : Value) (j : Nat), Below w.heap.size w W → j < rows.length → RdS W (fun b => b < B) u (rows.getD j []) → Calls Tryd.prog 88 #[u, p1, p2] W (SaysB W (f (rows.getD j [])))) :
    Calls Tryd.prog 122 #[v, .func (.func 88) #[] #[p1, p2]] w (IdxB w (rows.any f)) := by
  obtain ⟨A, c, rfl⟩ := hv.len
  have HV := Lib.hid hv
  have HFF := Lib.hid HF
  clear hv HF
  go_enter Tryd.func122, Tryd.ntmps122
  go_wp2
  go_loopw [8, 5] (fun i _ wr => ∃ k : Nat, k ≤ rows.length ∧ i = .int .i64 k ∧ Hid (Below w.heap.size w wr) ∧ Hid (∀ j, j < k → f (rows.getD j []) = false)) (fun i _ _ => rows.length - (intOf i).toNat)
  case atStart => exact ⟨0, Nat.zero_le _, rfl, Lib.hid (Below.refl _ _), Lib.hid fun j hj => absurd hj (Nat.not_lt_zero j)⟩
  case round =>
    obtain ⟨k, hk, rfl, HB2, HS⟩ := hrel
    by_cases hlt : k < rows.length
    · obtain ⟨b1, o1, A3, c3, rfl, hb1, hc1, hrd⟩ := (HV.out.below HB2.out hB).at hlt
      have HRD := Lib.hid hrd
      have HFK := Lib.hid (fun W u => HFF.out W u k)
      have HLT := Lib.hid hlt
      have hkI : (k : Int) < (rows.length : Int) := by omega
      clear hrd hb1
      cases hfx : f (rows.getD k []) with
      | false =>
        have HFX := Lib.hid hfx
        have HS2 := Lib.hid (show ∀ j, j < k + 1 → f (rows.getD j []) = false from fun j hj => by
          by_cases c : j = k
          · rw [c]; exact hfx
          · exact HS.out j (by omega))
        clear hfx
        generalize rows.getD k [] = xr at hc1 HRD HFK HFX
        go_wp2_with fail
        refine (HFK.out _ _ HB2.out HLT.out HRD.out).mono ?_
        rintro e w2 ⟨rfl, b2⟩
        have HB3 := Lib.hid (HB2.out.trans (b2.mono HB2.out.size))
        clear b2
        rw [HFX.out]
        go_wp2
        go_roundw
        case rel => exact ⟨k + 1, by omega, by go_num, HB3, HS2⟩
        case measure => simp [intOf]; omega
      | true =>
        have HFX := Lib.hid hfx
        have HY := Lib.hid (any_yes hlt hfx)
        clear hfx
        generalize rows.getD k [] = xr at hc1 HRD HFK HFX
        go_wp2_with fail
        refine (HFK.out _ _ HB2.out HLT.out HRD.out).mono ?_
        rintro e w2 ⟨rfl, b2⟩
        have HB3 := Lib.hid (HB2.out.trans (b2.mono HB2.out.size))
        clear b2
        rw [HFX.out]
        go_wp2
        go_ret
        exact ⟨k, rfl, by rw [HY.out]; simp, HB3.out⟩
    · have HN := Lib.hid (any_no (f := f) fun j hj => HS.out j (by omega))
      go_wp2
      go_ret
      exact ⟨-1, rfl, by rw [HN.out]; simp, HB2.out⟩
set_option maxHeartbeats 1600000 in
theorem containsOut_any (w : World) (B : Nat) (v p1 p2 : Value) (rows : List (List Int)) (f : List Int → Bool) (hv : RdG w B v rows) (hB : B ≤ w.heap.size) (hn : rows.length ≤ 1000000)
    (HF : ∀ (W : World) (u : Value) (j : Nat), Below w.heap.size w W → j < rows.length → RdS W (fun b => b < B) u (rows.getD j []) → Calls Tryd.prog 88 #[u, p1, p2] W (SaysB W (f (rows.getD j [])))) :
    Calls Tryd.prog 89 #[v, .func (.func 88) #[] #[p1, p2]] w (SaysB w (rows.any f)) := by
  obtain ⟨A, c, rfl⟩ := hv.len
  have HI := Lib.hid (indexOut_any w B _ p1 p2 rows f hv hB hn HF)
  clear hv HF
  go_enter Tryd.func89, Tryd.ntmps89
  go_wp2_with fail
  refine HI.out.mono ?_
  rintro e w2 ⟨i, rfl, hi, b2⟩
  have HII := Lib.hid hi
  have HB2 := Lib.hid b2
  clear hi b2
  go_wp2
  go_ret
  refine ⟨congrArg (fun b => Ending.returned (Value.bool b)) ?_, HB2.out⟩
  have := HII.out
  rw [Bool.eq_iff_iff, ← this]
  simp
set_option maxHeartbeats 1600000 in
theorem rlIncludes_any (w : World) (B : Nat) (va vb : Value) (p : Int) (l r : Nat) (l2 r2 : Int) (R S : List (List Int)) (ha : RdG w B va R) (hb : RdG w B vb S) (hB : B ≤ w.heap.size) (hf : fld p = true) (hR : IsRed p R.length (l + r) R) (hS : Mat p S.length (l + r) S) (hl : l + r ≤ 24) (hn : S.length ≤ 1000000) :
    Calls Tryd.prog 87 #[.int .i64 p, .agg #[.int .i64 l, .int .i64 r, va], .agg #[.int .i64 l2, .int .i64 r2, vb]] w (SaysB w (!(S.any fun x => !hasV p (l + r) R x))) := by
  obtain ⟨A1, c1, rfl⟩ := ha.len
  obtain ⟨A2, c2, rfl⟩ := hb.len
  have HVB := Lib.hid (show Below w.heap.size w ((w.alloc (.cells #[.int .i64 l, .int .i64 r, .slice A1 R.length c1] tRl)).alloc (.cells #[.int .i64 l2, .int .i64 r2, .slice A2 S.length c2] tRl)) by repeat' (first | exact Below.refl _ _ | apply Below.alloc | (simp; done) | (simp; omega)))
  have HV := Lib.hid (ha.below HVB.out hB)
  have HW := Lib.hid (hb.below HVB.out hB)
  have hB0 : B ≤ ((w.alloc (.cells #[.int .i64 l, .int .i64 r, .slice A1 R.length c1] tRl)).alloc (.cells #[.int .i64 l2, .int .i64 r2, .slice A2 S.length c2] tRl)).heap.size := Nat.le_trans hB HVB.out.size
  have HX0 := Lib.hid ((cellsAt_new w #[.int .i64 l, .int .i64 r, .slice A1 R.length c1] tRl).alloc (.cells #[.int .i64 l2, .int .i64 r2, .slice A2 S.length c2] tRl))
  have HY0 := Lib.hid (cellsAt_new' (w.alloc (.cells #[.int .i64 l, .int .i64 r, .slice A1 R.length c1] tRl)) #[.int .i64 l2, .int .i64 r2, .slice A2 S.length c2] tRl _ (w.heap.size + 1) (by simp) rfl)
  have HF := Lib.hid hf
  have HR := Lib.hid hR
  have HS := Lib.hid hS
  clear ha hb hB hf hR hS
  go_enter Tryd.func87, Tryd.ntmps87
  go_upto_region 1 with fail
  generalize ((w.alloc (.cells #[.int .i64 l, .int .i64 r, .slice A1 R.length c1] tRl)).alloc (.cells #[.int .i64 l2, .int .i64 r2, .slice A2 S.length c2] tRl)) = W at HVB HV HW hB0 HX0 HY0 ⊢
  obtain ⟨hy0, hy1, hy2, hyf0, hyf1, hyf2, hys⟩ := HY0.out.three
  go_wp2
  clear hy0 hy1 hy2 hyf0 hyf1 hyf2
  go_loopw [12, 8] (fun i _ wr => ∃ k : Nat, k ≤ S.length ∧ i = .int .i64 k ∧ Hid (Below W.heap.size W wr) ∧ Hid (∀ j, j < k → (!hasV p (l + r) R (S.getD j [])) = false)) (fun i _ _ => S.length - (intOf i).toNat)
  case atStart => exact ⟨0, Nat.zero_le _, rfl, Lib.hid (Below.refl _ _), Lib.hid fun j hj => absurd hj (Nat.not_lt_zero j)⟩
  case round =>
    obtain ⟨k, hk, rfl, HB2, HS2⟩ := hrel
    by_cases hlt : k < S.length
    · obtain ⟨b1, o1, A3, c3, rfl, hb1, hc1, hrd⟩ := (HW.out.below HB2.out hB0).at hlt
      have HRD := Lib.hid hrd
      have hx := (HX0.out.below HB2.out (by have := HX0.out.lt; omega)).three
      obtain ⟨hx0, hx1, hx2, hxf0, hxf1, hxf2, hxs⟩ := hx
      have HV2 := Lib.hid (HV.out.below HB2.out hB0)
      have HVC := Lib.hid (show Vec p (l + r) (S.getD k []) from HS.out.row hlt)
      have hB2 : B ≤ wr.heap.size := Nat.le_trans hB0 HB2.out.size
      have hkI : (k : Int) < (S.length : Int) := by omega
      clear hrd hb1
      cases hfx : hasV p (l + r) R (S.getD k []) with
      | true =>
        have HFX := Lib.hid hfx
        have HS3 := Lib.hid (show ∀ j, j < k + 1 → (!hasV p (l + r) R (S.getD j [])) = false from fun j hj => by
          by_cases c : j = k
          · rw [c, hfx]; rfl
          · exact HS2.out j (by omega))
        clear hfx
        generalize S.getD k [] = xr at hc1 HRD HVC HFX
        go_wp2_with fail
        refine (spHas_any wr B _ _ p (l + r) R xr HV2.out HRD.out hB2 HF.out HR.out HVC.out (by omega)).mono ?_
        rintro e w2 ⟨rfl, b2⟩
        have HB3 := Lib.hid (HB2.out.trans (b2.mono HB2.out.size))
        clear b2 hx0 hx1 hx2 hxf0 hxf1 hxf2 hxs
        rw [HFX.out]
        go_wp2
        go_roundw
        case rel => exact ⟨k + 1, by omega, by go_num, HB3, HS3⟩
        case measure => simp [intOf]; omega
      | false =>
        have HFX := Lib.hid hfx
        have HY := Lib.hid (any_yes (f := fun x => !hasV p (l + r) R x) hlt (by rw [hfx]; rfl))
        clear hfx
        generalize S.getD k [] = xr at hc1 HRD HVC HFX
        go_wp2_with fail
        refine (spHas_any wr B _ _ p (l + r) R xr HV2.out HRD.out hB2 HF.out HR.out HVC.out (by omega)).mono ?_
        rintro e w2 ⟨rfl, b2⟩
        have HB3 := Lib.hid (HB2.out.trans (b2.mono HB2.out.size))
        clear b2 hx0 hx1 hx2 hxf0 hxf1 hxf2 hxs
        rw [HFX.out]
        go_wp2
        go_ret
        rw [HY.out]
        exact ⟨rfl, HVB.out.trans (HB3.out.mono HVB.out.size)⟩
    · have HN := Lib.hid (any_no (rows := S) (f := fun x => !hasV p (l + r) R x) fun j hj => HS2.out j (by omega))
      go_wp2
      go_ret
      rw [HN.out]
      exact ⟨rfl, HVB.out.trans (HB2.out.mono HVB.out.size)⟩
end Go.Proofs.YtpoghbdomknfcaaDoor
