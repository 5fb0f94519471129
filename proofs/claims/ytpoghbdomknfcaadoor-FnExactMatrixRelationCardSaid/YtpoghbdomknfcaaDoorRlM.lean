/- The relation of a matrix: the model's helper. -/
import Derived.Test.YtpoghbdomknfcaaDoorGrF
import Derived.Test.YtpoghbdomknfcaaDoorPushG
import Derived.Test.YtpoghbdomknfcaaDoorRowCat
namespace Go.Proofs.YtpoghbdomknfcaaDoor
set_option maxRecDepth 100000
open Go Go.RowKit Go.Deep

theorem jn_take {a b : List (List Int)} {k : Nat} (h : k < a.length) : jn (a.take (k + 1)) b = jn (a.take k) b ++ [a.getD k [] ++ b.getD k []] := by
  rw [take_one h []]
  unfold jn
  rw [List.mapIdx_append]
  simp [List.length_take, Nat.min_eq_left (Nat.le_of_lt h)]
set_option maxRecDepth 100000 in
set_option maxHeartbeats 3200000 in
theorem rlMatrix_any (w : World) (B : Nat) (v : Value) (c : Int) (M : List (List Int)) (hv : RdG w B v M) (hB : B ≤ w.heap.size) (hn : M.length ≤ 1000) (hr : ∀ r, r < M.length → (M.getD r []).length ≤ 1000) :
    Calls Tryd.prog 57 #[.agg #[.int .i64 c, v]] w (MadeRl w M.length c (jn (idRows M.length) M)) := by
  obtain ⟨A, cp, rfl⟩ := hv.len
  have hmk := make_ints M.length (by omega)
  have HV := Lib.hid hv
  have HB := Lib.hid hB
  have HR := Lib.hid hr
  clear hv hB hr
  go_enter Tryd.func57, Tryd.ntmps57
  go_wp2
  go_loopw [16, 4, 5, 6] (fun i _ _ _ wr => ∃ (k : Nat) (v : Value) (vs : List Value), k ≤ M.length ∧ i = .int .i64 k ∧ Hid (Below w.heap.size w wr) ∧ Hid (CellsAt wr w.heap.size tM [.int .i64 c, .slice A M.length cp]) ∧ Hid (CellsAt wr (w.heap.size + 1) tRl [.int .i64 0, .int .i64 0, .slice none 0 0]) ∧ Hid (CellsAt wr (w.heap.size + 1 + 1) tRl [.int .i64 M.length, .int .i64 c, v]) ∧ Hid (GridB wr (w.heap.size + 3) v vs (jn ((idRows M.length).take k) M))) (fun i _ _ _ _ => M.length - (intOf i).toNat)
  case atStart => exact ⟨0, .slice none 0 0, [], Nat.zero_le _, rfl, Lib.hid (by repeat' (first | exact Below.refl _ _ | apply Below.drew | apply Below.setCell | apply Below.alloc | (simp; done) | (simp; omega))), Lib.hid (((cellsAt_new' _ _ _ _ _ (by simp) rfl).alloc _).alloc _), Lib.hid ((cellsAt_new' _ _ _ _ _ (by simp) rfl).alloc _), Lib.hid (cellsAt_new' _ _ _ _ _ (by simp) rfl), Lib.hid (by rw [List.take_zero]; exact GridB.nil _ _)⟩
  case round =>
    obtain ⟨k, v, vs, hk, rfl, HB2, HX, HY, HO, HG⟩ := hrel
    obtain ⟨hx0, hx1, hxf0, hxf1, hxs⟩ := HX.out.two
    by_cases hlt : k < M.length
    · obtain ⟨b1, o1, A3, c3, rfl, hb1, hc1, hrd⟩ := (HV.out.below HB2.out HB.out).at hlt
      have hrl := HR.out k hlt
      have HRD := Lib.hid hrd
      have HLI : Hid (k < (idRows M.length).length) := Lib.hid (by rw [idRows_len]; exact hlt)
      have HNX := Lib.hid (show jn ((idRows M.length).take (k + 1)) M = jn ((idRows M.length).take k) M ++ [unitRow M.length k ++ M.getD k []] by rw [jn_take HLI.out, idRows_get hlt])
      have hpn : (jn ((idRows M.length).take k) M).length + 1 ≤ 1000000 := by rw [jn_len, List.length_take, idRows_len]; omega
      have hkI : (k : Int) < (M.length : Int) := by omega
      have hBr : B ≤ wr.heap.size := by have := HB.out; have := HB2.out.size; omega
      have hos := HO.out.lt
      clear hrd hb1
      generalize M.getD k [] = xr at hc1 HRD HNX hrl
      generalize jn ((idRows M.length).take k) M = ps at HG HNX hpn
      have HOWN := Lib.hid (World.ownsRow_lit (base := wr.heap.size) (e := 3) (size := 1) wr (madeCells #[.int .i64 0] M.length) M.length (Nat.le_refl _) (by unfold maxLen; omega) (by rw [← Array.length_toList, toList_madeCells_one]; simp))
      have hcell : (wr.alloc (.cells (madeCells #[.int .i64 0] M.length) 3)).cell? ⟨wr.heap.size, k, none⟩ = some (.int .i64 0) := by
        rw [HOWN.out.cellAt k (by omega), toList_madeCells_one]; simp [hlt]
      have hfz := HOWN.out.frozenAt k
      have HST := Lib.hid (show RowA (wr.alloc (.cells ((madeCells #[.int .i64 0] M.length).setIfInBounds k (.int .i64 1)) 3)) wr.heap.size (.slice (some ⟨wr.heap.size, 0, none⟩) M.length M.length) (unitRow M.length k) from by
        have := World.ownsRow_lit (base := wr.heap.size) (e := 3) (size := 1) wr ((madeCells #[.int .i64 0] M.length).setIfInBounds k (.int .i64 1)) M.length (Nat.le_refl _) (by unfold maxLen; omega) (by rw [Array.size_setIfInBounds, ← Array.length_toList, toList_madeCells_one]; simp)
        rw [Array.toList_setIfInBounds, toList_madeCells_one, show List.replicate M.length (Value.int .i64 0) = icells (List.replicate M.length 0) by simp [icells], icells_set] at this
        unfold RowA
        rw [unitRow_len]
        exact this)
      have HBW : Hid (Below wr.heap.size wr (wr.alloc (.cells ((madeCells #[.int .i64 0] M.length).setIfInBounds k (.int .i64 1)) 3))) := Lib.hid ((Below.refl _ _).alloc (Nat.le_refl _) _)
      have HO0 := HO.out.three.2.2.1
      have HELD : Hid (∀ w' : World, w'.heap[w.heap.size + 1 + 1]? = wr.heap[w.heap.size + 1 + 1]? → w'.cell? ⟨w.heap.size + 1 + 1, 2, none⟩ = some v) := Lib.hid (fun w' H => (World.cell?_of_block (w := wr) H).trans HO0)
      have hsz : w.heap.size + 3 ≤ wr.heap.size := by omega
      have hln : (unitRow M.length k).length + xr.length ≤ 1000000 := by rw [unitRow_len]; omega
      go_wp2
      generalize (wr.alloc (.cells ((madeCells #[.int .i64 0] M.length).setIfInBounds k (.int .i64 1)) 3)) = V at HST HBW ⊢
      have HBD : Hid (Below wr.heap.size wr V.drew) := Lib.hid HBW.out.drew
      have hVS : wr.heap.size ≤ V.drew.heap.size := HBD.out.size
      have HSTD := Lib.hid (show RowA V.drew wr.heap.size (.slice (some ⟨wr.heap.size, 0, none⟩) M.length M.length) (unitRow M.length k) from HST.out)
      have HRDD := Lib.hid (HRD.out.below HBD.out hBr)
      have HQ0 : Hid (V.drew.heap[w.heap.size + 1 + 1]? = wr.heap[w.heap.size + 1 + 1]?) := Lib.hid (HBD.out.block _ (by omega))
      have hv0 := HELD.out _ HQ0.out
      go_region_law
        (first
          | (refine step_joinR (by rfl) _ _ (by rfl) V.drew wr.heap.size _ (unitRow M.length k) xr _ A3 xr.length c3 (by rfl) HSTD.out (by rfl) HRDD.out hVS hln ?_; intro v2 w2 hj2 hb2; have HB2' : Hid (Below wr.heap.size wr w2) := Lib.hid (HBD.out.trans hb2); have HQ2 : Hid (w2.heap[w.heap.size + 1 + 1]? = wr.heap[w.heap.size + 1 + 1]?) := Lib.hid (HB2'.out.block _ hos); obtain ⟨A2, n2, c2, rfl⟩ := rdS_sl hj2.read; have hs2 : wr.heap.size ≤ w2.heap.size := HB2'.out.size; have HA : Hid (Below w2.heap.size w2 (w2.alloc (.cells #[.slice A2 n2 c2] 37))) := Lib.hid ((Below.refl _ _).alloc (Nat.le_refl _) _); have HB3 : Hid (Below wr.heap.size wr (w2.alloc (.cells #[.slice A2 n2 c2] 37))) := Lib.hid (HB2'.out.trans (HA.out.mono hs2)); have HQ3 : Hid ((w2.alloc (.cells #[.slice A2 n2 c2] 37)).heap[w.heap.size + 1 + 1]? = wr.heap[w.heap.size + 1 + 1]?) := Lib.hid (HB3.out.block _ hos); have hv2 := HELD.out _ HQ2.out; have hv3 := HELD.out _ HQ3.out; have HG3 := Lib.hid (HG.out.below HB3.out); have HU3 := Lib.hid ((hj2.below HA.out).own.mono (T := fun q => wr.heap.size ≤ q ∧ q < (w2.alloc (.cells #[.slice A2 n2 c2] 37)).heap.size) (fun q h1 h2 => ⟨h1, h2⟩)); have HC3 := Lib.hid (show (w2.alloc (.cells #[.slice A2 n2 c2] 37)).cell? ⟨w2.heap.size, 0, none⟩ = some (.slice A2 n2 c2) from by have hc := (cellsAt_new w2 #[.slice A2 n2 c2] 37).cell (i := 0) (by simp); rw [hc]; rfl); have hs3 : wr.heap.size ≤ (w2.alloc (.cells #[.slice A2 n2 c2] 37)).heap.size := HB3.out.size; clear hj2 hb2)
          | (refine step_pushG (by rfl) _ _ (by rfl) (w2.alloc (.cells #[.slice A2 n2 c2] 37)) (w.heap.size + 3) wr.heap.size _ vs ps w2.heap.size 1 A2 n2 c2 (unitRow M.length k ++ xr) (by rfl) HG3.out (by rfl) HC3.out HU3.out hsz hs3 hpn ?_; intro v4 vs4 w4 hg4 hb4; obtain ⟨A4, c4, e4⟩ := GridA.form hg4; generalize (ps ++ [unitRow M.length k ++ xr]).length = n4 at e4; subst e4; have HB4 : Hid (Below w.heap.size w w4) := Lib.hid (HB2.out.trans ((HB3.out.mono (by omega)).trans (hb4.mono (by omega)))); have HQ4 : Hid (∀ q, q < w.heap.size + 3 → w4.heap[q]? = wr.heap[q]?) := Lib.hid (fun q hq => (hb4.block q hq).trans (HB3.out.block q (by omega))); have HG4 := Lib.hid hg4; have HO4 := Lib.hid (HO.out.of_block (HQ4.out _ (by omega))); obtain ⟨ho0, ho1, ho2, hof0, hof1, hof2, hos4⟩ := HO4.out.three; have HX4 := Lib.hid (HX.out.of_block (HQ4.out _ (by omega))); have HY4 := Lib.hid (HY.out.of_block (HQ4.out _ (by omega))); clear hg4 hb4)
          | fail)
      all_goals
        have HLT := Lib.hid hlt
        go_wp2
        go_roundw
      all_goals first
        | exact ⟨k + 1, _, vs4, by omega, by go_num, Lib.hid (HB4.out.setCell (by show w.heap.size ≤ w.heap.size + 1 + 1; omega) _), Lib.hid (HX4.out.setOther (by dsimp only; omega) _), Lib.hid (HY4.out.setOther (by dsimp only; omega) _), Lib.hid (HO4.out.set 2 _), Lib.hid (by
            rw [HNX.out]
            exact GridA.mono (GridA.blocks HG4.out (fun q hq _ => blk_setCell_other _ _ _ _ (by dsimp only; omega))) (fun q hq hl => ⟨hq.1, hl⟩))⟩
        | (simp [intOf]; have := HLT.out; omega)
    · obtain ⟨Av, cpv, rfl⟩ := GridA.form HG.out
      obtain ⟨ho0, ho1, ho2, hof0, hof1, hof2, hos⟩ := HO.out.three
      obtain ⟨hy0, hy1, hy2, hyf0, hyf1, hyf2, hys⟩ := HY.out.three
      have hk2 : k = M.length := by omega
      subst hk2
      have e : (idRows M.length).take M.length = idRows M.length := List.take_of_length_le (by rw [idRows_len]; exact Nat.le_refl _)
      rw [e] at HG ho2
      go_wp2
      refine bodyPost_ret (v := .agg #[.int .i64 M.length, .int .i64 c, .slice Av (jn (idRows M.length) M).length cpv]) (by simp [results, Tryd.results57, go_sem, hy0, hy1, hy2]) rfl ?_
      have h := GridB.own HG.out
      refine ⟨_, rfl, (by refine Below.trans HB2.out ?_; repeat' (first | exact Below.refl _ _ | apply Below.drew | apply Below.setCell | apply Below.alloc | (simp; done) | (simp; omega))), ?_⟩
      refine (h.blocks (fun q h _ => ?_)).mono (fun q h _ => by omega)
      repeat rw [blk_setCell_other _ _ _ _ (by simp; omega)]
end Go.Proofs.YtpoghbdomknfcaaDoor
