/- Whether a relation is total, whether it is single-valued: the helpers of both sides. -/
import Derived.Test.YtiiloioobmkicaaDoorDomF
import Derived.Test.YtiiloioobmkicaaDoorRlS
namespace Go.Proofs.YtiiloioobmkicaaDoor
set_option maxRecDepth 100000
open Go Go.RowKit Go.Deep

set_option maxHeartbeats 1600000 in
theorem isTotal_any (w : World) (B : Nat) (v : Value) (p : Int) (l r : Nat) (R : List (List Int)) (hv : RdG w B v R) (hB : B ≤ w.heap.size) (hf : fld p = true) (hR : Mat p R.length (l + r) R) (hn : R.length ≤ 1000) (hl : l + r ≤ 1000) :
    Calls Tryd.prog 50 #[.int .i64 p, .agg #[.int .i64 l, .int .i64 r, v]] w (SaysB w (decide ((rref p (firsts l R) l).length = l))) := by
  obtain ⟨A1, c1, rfl⟩ := hv.len
  have hfld : ∀ (x : Int) (A : Option Addr) (n d : Nat) (w : World), (Instr.field tSp (.agg #[.int .i64 x, .slice A n d]) 1).run Tryd.prog w = .ok (.slice A n d) w := fun _ _ _ _ _ => by kernel_rfl
  have HVB := Lib.hid (show Below w.heap.size w (w.alloc (.cells #[.int .i64 l, .int .i64 r, .slice A1 R.length c1] tRl)) from (Below.refl _ _).alloc (Nat.le_refl _) _)
  have HV := Lib.hid (hv.below HVB.out hB)
  have hB0 : B ≤ (w.alloc (.cells #[.int .i64 l, .int .i64 r, .slice A1 R.length c1] tRl)).heap.size := Nat.le_trans hB HVB.out.size
  have HX0 := Lib.hid (cellsAt_new w #[.int .i64 l, .int .i64 r, .slice A1 R.length c1] tRl)
  have hsz0 : (w.alloc (.cells #[.int .i64 l, .int .i64 r, .slice A1 R.length c1] tRl)).heap.size = w.heap.size + 1 := by simp
  have HF := Lib.hid hf
  have HM := Lib.hid hR
  clear hv hB hf hR
  go_enter Tryd.func50, Tryd.ntmps50
  go_upto_region 1 with fail
  generalize (w.alloc (.cells #[.int .i64 l, .int .i64 r, .slice A1 R.length c1] tRl)) = W at HVB HV hB0 HX0 hsz0 ⊢
  have hW1 : w.heap.size + 1 ≤ W.heap.size := by omega
  clear hsz0
  have hx := HX0.out.three
  have HELD : Hid (∀ w' : World, w'.heap[w.heap.size]? = W.heap[w.heap.size]? → w'.cell? ⟨w.heap.size, 0, none⟩ = some (.int .i64 l) ∧ w'.cell? ⟨w.heap.size, 1, none⟩ = some (.int .i64 r) ∧ w'.cell? ⟨w.heap.size, 2, none⟩ = some (.slice A1 R.length c1)) := Lib.hid (fun w' H => ⟨(World.cell?_of_block (w := W) H).trans hx.1, (World.cell?_of_block (w := W) H).trans hx.2.1, (World.cell?_of_block (w := W) H).trans hx.2.2.1⟩)
  clear hx
  have HQ0 : Hid (W.drew.heap[w.heap.size]? = W.heap[w.heap.size]?) := Lib.hid rfl
  have HVD := Lib.hid (show RdG W.drew B (.slice A1 R.length c1) R from HV.out)
  have hBD : B ≤ W.drew.heap.size := hB0
  go_wp2
  go_region_held3 (fun w' => w'.cell? ⟨w.heap.size, 0, none⟩ = some (.int .i64 l) ∧ w'.cell? ⟨w.heap.size, 1, none⟩ = some (.int .i64 r) ∧ w'.cell? ⟨w.heap.size, 2, none⟩ = some (.slice A1 R.length c1))
    (first | with_reducible exact HELD.out _ HQ0.out | with_reducible exact HELD.out _ HQ3.out)
    (first | (go_at_call 87; go_split_ands; refine (domainOf_any W.drew B _ p l r R HVD.out hBD HF.out HM.out (by omega) (by omega)).mono ?_; rintro e w3 ⟨v3, rfl, b3, o3⟩; obtain ⟨A3, c3, rfl⟩ := OwG.len o3; have HB3 : Hid (Below W.heap.size W w3) := Lib.hid ((Below.refl _ _).drew.trans b3); have HQ3 : Hid (w3.heap[w.heap.size]? = W.heap[w.heap.size]?) := Lib.hid (HB3.out.block _ (by omega)); clear b3 o3))
  have HBE := Lib.hid (HVB.out.trans (HB3.out.mono HVB.out.size))
  go_wp2
  go_ret
  refine ⟨congrArg (fun b => Ending.returned (Value.bool b)) ?_, HBE.out⟩
  rw [Bool.eq_iff_iff]; (try rw [parts_first]); simp; try omega
set_option maxHeartbeats 1600000 in
theorem isSingle_any (w : World) (B : Nat) (v : Value) (p : Int) (l r : Nat) (R : List (List Int)) (hv : RdG w B v R) (hB : B ≤ w.heap.size) (hf : fld p = true) (hR : Mat p R.length (l + r) R) (hn : R.length ≤ 1000) (hl : l + r ≤ 1000) :
    Calls Tryd.prog 51 #[.int .i64 p, .agg #[.int .i64 l, .int .i64 r, v]] w (SaysB w (decide ((rref p (firsts l R) l).length = R.length))) := by
  obtain ⟨A1, c1, rfl⟩ := hv.len
  have hfld : ∀ (x : Int) (A : Option Addr) (n d : Nat) (w : World), (Instr.field tSp (.agg #[.int .i64 x, .slice A n d]) 1).run Tryd.prog w = .ok (.slice A n d) w := fun _ _ _ _ _ => by kernel_rfl
  have HVB := Lib.hid (show Below w.heap.size w (w.alloc (.cells #[.int .i64 l, .int .i64 r, .slice A1 R.length c1] tRl)) from (Below.refl _ _).alloc (Nat.le_refl _) _)
  have HV := Lib.hid (hv.below HVB.out hB)
  have hB0 : B ≤ (w.alloc (.cells #[.int .i64 l, .int .i64 r, .slice A1 R.length c1] tRl)).heap.size := Nat.le_trans hB HVB.out.size
  have HX0 := Lib.hid (cellsAt_new w #[.int .i64 l, .int .i64 r, .slice A1 R.length c1] tRl)
  have hsz0 : (w.alloc (.cells #[.int .i64 l, .int .i64 r, .slice A1 R.length c1] tRl)).heap.size = w.heap.size + 1 := by simp
  have HF := Lib.hid hf
  have HM := Lib.hid hR
  clear hv hB hf hR
  go_enter Tryd.func51, Tryd.ntmps51
  go_upto_region 1 with fail
  generalize (w.alloc (.cells #[.int .i64 l, .int .i64 r, .slice A1 R.length c1] tRl)) = W at HVB HV hB0 HX0 hsz0 ⊢
  have hW1 : w.heap.size + 1 ≤ W.heap.size := by omega
  clear hsz0
  have hx := HX0.out.three
  have HELD : Hid (∀ w' : World, w'.heap[w.heap.size]? = W.heap[w.heap.size]? → w'.cell? ⟨w.heap.size, 0, none⟩ = some (.int .i64 l) ∧ w'.cell? ⟨w.heap.size, 1, none⟩ = some (.int .i64 r) ∧ w'.cell? ⟨w.heap.size, 2, none⟩ = some (.slice A1 R.length c1)) := Lib.hid (fun w' H => ⟨(World.cell?_of_block (w := W) H).trans hx.1, (World.cell?_of_block (w := W) H).trans hx.2.1, (World.cell?_of_block (w := W) H).trans hx.2.2.1⟩)
  clear hx
  have HQ0 : Hid (W.drew.heap[w.heap.size]? = W.heap[w.heap.size]?) := Lib.hid rfl
  have HVD := Lib.hid (show RdG W.drew B (.slice A1 R.length c1) R from HV.out)
  have hBD : B ≤ W.drew.heap.size := hB0
  go_wp2
  go_region_held3 (fun w' => w'.cell? ⟨w.heap.size, 0, none⟩ = some (.int .i64 l) ∧ w'.cell? ⟨w.heap.size, 1, none⟩ = some (.int .i64 r) ∧ w'.cell? ⟨w.heap.size, 2, none⟩ = some (.slice A1 R.length c1))
    (first | with_reducible exact HELD.out _ HQ0.out | with_reducible exact HELD.out _ HQ3.out)
    (first | (go_at_call 87; go_split_ands; refine (domainOf_any W.drew B _ p l r R HVD.out hBD HF.out HM.out (by omega) (by omega)).mono ?_; rintro e w3 ⟨v3, rfl, b3, o3⟩; obtain ⟨A3, c3, rfl⟩ := OwG.len o3; have HB3 : Hid (Below W.heap.size W w3) := Lib.hid ((Below.refl _ _).drew.trans b3); have HQ3 : Hid (w3.heap[w.heap.size]? = W.heap[w.heap.size]?) := Lib.hid (HB3.out.block _ (by omega)); clear b3 o3))
  have HBE := Lib.hid (HVB.out.trans (HB3.out.mono HVB.out.size))
  go_wp2
  go_ret
  refine ⟨congrArg (fun b => Ending.returned (Value.bool b)) ?_, HBE.out⟩
  rw [Bool.eq_iff_iff]; (try rw [parts_first]); simp; try omega
set_option maxHeartbeats 1600000 in
theorem rlTotal_any (w : World) (B : Nat) (v : Value) (p : Int) (l r : Nat) (R : List (List Int)) (hv : RdG w B v R) (hB : B ≤ w.heap.size) (hf : fld p = true) (hR : Mat p R.length (l + r) R) (hn : R.length ≤ 1000) (hl : l + r ≤ 1000) :
    Calls Tryd.prog 48 #[.int .i64 p, .agg #[.int .i64 l, .int .i64 r, v]] w (SaysB w (decide ((rref p (firsts l R) l).length = l))) := by
  obtain ⟨A1, c1, rfl⟩ := hv.len
  have hfld : ∀ (x : Int) (A : Option Addr) (n d : Nat) (w : World), (Instr.field tSp (.agg #[.int .i64 x, .slice A n d]) 1).run Tryd.prog w = .ok (.slice A n d) w := fun _ _ _ _ _ => by kernel_rfl
  have HVB := Lib.hid (show Below w.heap.size w (w.alloc (.cells #[.int .i64 l, .int .i64 r, .slice A1 R.length c1] tRl)) from (Below.refl _ _).alloc (Nat.le_refl _) _)
  have HV := Lib.hid (hv.below HVB.out hB)
  have hB0 : B ≤ (w.alloc (.cells #[.int .i64 l, .int .i64 r, .slice A1 R.length c1] tRl)).heap.size := Nat.le_trans hB HVB.out.size
  have HX0 := Lib.hid (cellsAt_new w #[.int .i64 l, .int .i64 r, .slice A1 R.length c1] tRl)
  have hsz0 : (w.alloc (.cells #[.int .i64 l, .int .i64 r, .slice A1 R.length c1] tRl)).heap.size = w.heap.size + 1 := by simp
  have HF := Lib.hid hf
  have HM := Lib.hid hR
  clear hv hB hf hR
  go_enter Tryd.func48, Tryd.ntmps48
  go_upto_region 1 with fail
  generalize (w.alloc (.cells #[.int .i64 l, .int .i64 r, .slice A1 R.length c1] tRl)) = W at HVB HV hB0 HX0 hsz0 ⊢
  have hW1 : w.heap.size + 1 ≤ W.heap.size := by omega
  clear hsz0
  have hx := HX0.out.three
  have HELD : Hid (∀ w' : World, w'.heap[w.heap.size]? = W.heap[w.heap.size]? → w'.cell? ⟨w.heap.size, 0, none⟩ = some (.int .i64 l) ∧ w'.cell? ⟨w.heap.size, 1, none⟩ = some (.int .i64 r) ∧ w'.cell? ⟨w.heap.size, 2, none⟩ = some (.slice A1 R.length c1)) := Lib.hid (fun w' H => ⟨(World.cell?_of_block (w := W) H).trans hx.1, (World.cell?_of_block (w := W) H).trans hx.2.1, (World.cell?_of_block (w := W) H).trans hx.2.2.1⟩)
  clear hx
  have HQ0 : Hid (W.drew.heap[w.heap.size]? = W.heap[w.heap.size]?) := Lib.hid rfl
  have HVD := Lib.hid (show RdG W.drew B (.slice A1 R.length c1) R from HV.out)
  have hBD : B ≤ W.drew.heap.size := hB0
  go_wp2
  go_region_held3 (fun w' => w'.cell? ⟨w.heap.size, 0, none⟩ = some (.int .i64 l) ∧ w'.cell? ⟨w.heap.size, 1, none⟩ = some (.int .i64 r) ∧ w'.cell? ⟨w.heap.size, 2, none⟩ = some (.slice A1 R.length c1))
    (first | with_reducible exact HELD.out _ HQ0.out | with_reducible exact HELD.out _ HQ3.out)
    (first | (go_at_call 86; go_split_ands; refine (rlPart_any W.drew B _ p l r 0 l l R HVD.out hBD HF.out HM.out hn (by omega) (by omega) hl).mono ?_; rintro e w3 ⟨v3, rfl, b3, o3⟩; obtain ⟨A3, c3, rfl⟩ := OwG.len o3; have HB3 : Hid (Below W.heap.size W w3) := Lib.hid ((Below.refl _ _).drew.trans b3); have HQ3 : Hid (w3.heap[w.heap.size]? = W.heap[w.heap.size]?) := Lib.hid (HB3.out.block _ (by omega)); clear b3 o3))
  have HBE := Lib.hid (HVB.out.trans (HB3.out.mono HVB.out.size))
  go_wp2
  go_ret
  refine ⟨congrArg (fun b => Ending.returned (Value.bool b)) ?_, HBE.out⟩
  rw [Bool.eq_iff_iff]; (try rw [parts_first]); simp; try omega
set_option maxHeartbeats 1600000 in
theorem rlSingle_any (w : World) (B : Nat) (v : Value) (l : Nat) (r : Int) (R : List (List Int)) (hv : RdG w B v R) (hB : B ≤ w.heap.size) (hn : R.length ≤ 1000) (hr : ∀ j, j < R.length → (R.getD j []).length ≤ 1000000) :
    Calls Tryd.prog 49 #[.agg #[.int .i64 l, .int .i64 r, v]] w (SaysB w (singB l R)) := by
  obtain ⟨A1, c1, rfl⟩ := hv.len
  have HVB := Lib.hid (show Below w.heap.size w (w.alloc (.cells #[.int .i64 l, .int .i64 r, .slice A1 R.length c1] tRl)) from (Below.refl _ _).alloc (Nat.le_refl _) _)
  have HV := Lib.hid (hv.below HVB.out hB)
  have HX0 := Lib.hid (cellsAt_new w #[.int .i64 l, .int .i64 r, .slice A1 R.length c1] tRl)
  have HRL := Lib.hid hr
  clear hv hr
  go_enter Tryd.func49, Tryd.ntmps49
  go_upto_region 1 with fail
  generalize (w.alloc (.cells #[.int .i64 l, .int .i64 r, .slice A1 R.length c1] tRl)) = W at HVB HV HX0 ⊢
  obtain ⟨hx0, hx1, hx2, hxf0, hxf1, hxf2, hxs⟩ := HX0.out.three
  go_wp2
  go_loopw [8, 4] (fun i _ wr => ∃ k : Nat, k ≤ R.length ∧ i = .int .i64 k ∧ Hid (∃ d, wr = W.drewN d) ∧ Hid (∀ j, j < k → lead0 (R.getD j []) < l)) (fun i _ _ => R.length - (intOf i).toNat)
  case atStart => exact ⟨0, Nat.zero_le _, rfl, Lib.hid ⟨0, rfl⟩, Lib.hid fun j hj => absurd hj (Nat.not_lt_zero j)⟩
  case round =>
    obtain ⟨k, hk, rfl, HW, HS⟩ := hrel
    by_cases hlt : k < R.length
    · obtain ⟨b1, o1, A3, c3, rfl, hb1, hc1, hrd⟩ := HV.out.at hlt
      have HRD := Lib.hid (show RdS wr (fun q => q < B) (.slice A3 (R.getD k []).length c3) (R.getD k []) from by obtain ⟨d, e⟩ := HW.out; rw [e]; exact hrd)
      have hxl := HRL.out k hlt
      have hkI : (k : Int) < (R.length : Int) := by omega
      have hc2 : wr.cell? ⟨b1, o1 + k, none⟩ = some (.slice A3 (R.getD k []).length c3) := by obtain ⟨d, e⟩ := HW.out; rw [e]; exact hc1
      have hy0 : wr.cell? ⟨w.heap.size, 0, none⟩ = some (.int .i64 l) := by obtain ⟨d, e⟩ := HW.out; rw [e]; exact hx0
      have HLT := Lib.hid hlt
      clear hrd hb1 hc1
      by_cases hle : lead0 (R.getD k []) < l
      · have HNX := Lib.hid (show ∀ j, j < k + 1 → lead0 (R.getD j []) < l from fun j hj => by
          by_cases c : j = k
          · rw [c]; exact hle
          · exact HS.out j (by omega))
        have hleI : ¬ (l : Int) ≤ (lead0 (R.getD k []) : Int) := by omega
        generalize R.getD k [] = xr at hc2 HRD hxl hle hleI
        have HQ := Lib.hid (fun n => (spLead_any (wr.drewN n) B _ xr (show RdS (wr.drewN n) (fun q => q < B) (.slice A3 xr.length c3) xr from HRD.out) hxl).mono fun _ _ h => (⟨h.1, h.2.symm⟩ : _ ∧ _ = wr.drewN n))
        go_wp2
        go_quiet ((go_at_call 68; exact Calls.quiet_of_same (HQ.out _)))
        go_wp2
        go_roundw
        case rel => trace_state; exact ⟨k + 1, by omega, by go_num, Lib.hid (by obtain ⟨d, e⟩ := HW.out; rw [e]; exact ⟨_, World.drewN_drewN _ _ _⟩), HNX⟩
        case measure => simp [intOf]; omega
      · have HE := Lib.hid (singB_no (l := l) hlt (by omega))
        have hleI : (l : Int) ≤ (lead0 (R.getD k []) : Int) := by omega
        generalize R.getD k [] = xr at hc2 HRD hxl hle hleI
        have HQ := Lib.hid (fun n => (spLead_any (wr.drewN n) B _ xr (show RdS (wr.drewN n) (fun q => q < B) (.slice A3 xr.length c3) xr from HRD.out) hxl).mono fun _ _ h => (⟨h.1, h.2.symm⟩ : _ ∧ _ = wr.drewN n))
        go_wp2
        go_quiet ((go_at_call 68; exact Calls.quiet_of_same (HQ.out _)))
        go_wp2
        go_ret
        rw [HE.out]
        exact ⟨rfl, below_drewN (by obtain ⟨d, e⟩ := HW.out; rw [e]; exact below_drewN HVB.out)⟩
    · have HE := Lib.hid (singB_yes (l := l) (R := R) fun j hj => HS.out j (by omega))
      go_wp2
      go_ret
      rw [HE.out]
      exact ⟨rfl, by obtain ⟨d, e⟩ := HW.out; rw [e]; exact below_drewN HVB.out⟩
end Go.Proofs.YtiiloioobmkicaaDoor
