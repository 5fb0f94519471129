/- The juxtaposition of relations: the model's helper. -/
import Derived.Test.YtiiloioobmkicaaDoorTenM
import Derived.Test.YtiiloioobmkicaaDoorPushG
import Derived.Test.YtiiloioobmkicaaDoorSpanF
import Derived.Deep.RegionHeld3
namespace Go.Proofs.YtiiloioobmkicaaDoor
set_option maxRecDepth 100000
open Go Go.RowKit Go.Deep

set_option maxRecDepth 100000 in
set_option maxHeartbeats 25600000 in
theorem rlTensor_any (w : World) (B : Nat) (va vb : Value) (p : Int) (l r l2 r2 : Nat) (R S : List (List Int)) (ha : RdG w B va R) (hb : RdG w B vb S) (hB : B ≤ w.heap.size) (hf : fld p = true) (hR : Mat p R.length (l + r) R) (hS : Mat p S.length (l2 + r2) S) (hn : R.length ≤ 1000) (hm : S.length ≤ 1000) (h24 : l + l2 + (r + r2) ≤ 1000) :
    Calls Tryd.prog 43 #[.int .i64 p, .agg #[.int .i64 l, .int .i64 r, va], .agg #[.int .i64 l2, .int .i64 r2, vb]] w (MadeRl w ((l + l2 : Nat) : Int) ((r + r2 : Nat) : Int) (rref p (tens l r l2 r2 R S) (l + l2 + (r + r2)))) := by
  obtain ⟨A1, c1, rfl⟩ := ha.len
  obtain ⟨A2, c2, rfl⟩ := hb.len
  have HVB := Lib.hid (show Below w.heap.size w (((w.alloc (.cells #[.int .i64 l, .int .i64 r, .slice A1 R.length c1] tRl)).alloc (.cells #[.int .i64 l2, .int .i64 r2, .slice A2 S.length c2] tRl)).alloc (.cells #[.int .i64 0, .int .i64 0, .slice none 0 0] tRl)) by repeat' (first | exact Below.refl _ _ | apply Below.alloc | (simp; done) | (simp; omega)))
  have HA := Lib.hid (ha.below HVB.out hB)
  have HS := Lib.hid (hb.below HVB.out hB)
  have hB0 : B ≤ (((w.alloc (.cells #[.int .i64 l, .int .i64 r, .slice A1 R.length c1] tRl)).alloc (.cells #[.int .i64 l2, .int .i64 r2, .slice A2 S.length c2] tRl)).alloc (.cells #[.int .i64 0, .int .i64 0, .slice none 0 0] tRl)).heap.size := Nat.le_trans hB HVB.out.size
  have HX0 := Lib.hid (((cellsAt_new w #[.int .i64 l, .int .i64 r, .slice A1 R.length c1] tRl).alloc (.cells #[.int .i64 l2, .int .i64 r2, .slice A2 S.length c2] tRl)).alloc (.cells #[.int .i64 0, .int .i64 0, .slice none 0 0] tRl))
  have HM0 := Lib.hid ((cellsAt_new' (w.alloc (.cells #[.int .i64 l, .int .i64 r, .slice A1 R.length c1] tRl)) #[.int .i64 l2, .int .i64 r2, .slice A2 S.length c2] tRl _ (w.heap.size + 1) (by simp) rfl).alloc (.cells #[.int .i64 0, .int .i64 0, .slice none 0 0] tRl))
  have HY0 := Lib.hid (cellsAt_new' ((w.alloc (.cells #[.int .i64 l, .int .i64 r, .slice A1 R.length c1] tRl)).alloc (.cells #[.int .i64 l2, .int .i64 r2, .slice A2 S.length c2] tRl)) #[.int .i64 0, .int .i64 0, .slice none 0 0] tRl _ (w.heap.size + 1 + 1) (by simp) rfl)
  have hsz0 : (((w.alloc (.cells #[.int .i64 l, .int .i64 r, .slice A1 R.length c1] tRl)).alloc (.cells #[.int .i64 l2, .int .i64 r2, .slice A2 S.length c2] tRl)).alloc (.cells #[.int .i64 0, .int .i64 0, .slice none 0 0] tRl)).heap.size = w.heap.size + 3 := by simp
  have HF := Lib.hid hf
  have HMA := Lib.hid (tens_mat (fld_bd hf).1 hR hS)
  have HLA := Lib.hid (fun j (hj : j < R.length) => (hR.row hj).1)
  have HLB := Lib.hid (fun j (hj : j < S.length) => (hS.row hj).1)
  obtain ⟨L, HL, hL1, hL2⟩ : ∃ L : Nat, Hid (L = l + l2) ∧ L ≤ l + l2 ∧ l + l2 ≤ L := ⟨_, Lib.hid rfl, Nat.le_refl _, Nat.le_refl _⟩
  obtain ⟨G, HGG, hG1, hG2⟩ : ∃ G : Nat, Hid (G = r + r2) ∧ G ≤ r + r2 ∧ r + r2 ≤ G := ⟨_, Lib.hid rfl, Nat.le_refl _, Nat.le_refl _⟩
  obtain ⟨N, HN, hN1, hN2⟩ : ∃ N : Nat, Hid (N = l + l2 + (r + r2)) ∧ N ≤ l + l2 + (r + r2) ∧ l + l2 + (r + r2) ≤ N := ⟨_, Lib.hid rfl, Nat.le_refl _, Nat.le_refl _⟩
  rw [← HN.out, ← HL.out, ← HGG.out]
  rw [← HN.out] at HMA
  have hmk := make_ints N (by omega)
  have eN : ((N : Nat) : Int) = (L : Int) + (G : Int) := by omega
  simp only [eN] at hmk
  clear eN
  have hwL : (l : Int) + (l2 : Int) = (L : Int) := by omega
  have hwG : (r : Int) + (r2 : Int) = (G : Int) := by omega
  have hwl : IntKind.i64.wrap (L : Int) = (L : Int) := Go.IntWalk.i64_in _ ⟨by omega, by omega⟩
  have hwg : IntKind.i64.wrap (G : Int) = (G : Int) := Go.IntWalk.i64_in _ ⟨by omega, by omega⟩
  clear ha hb hf hR hS hB
  go_enter Tryd.func43, Tryd.ntmps43
  go_upto_region 1 with fail
  generalize (((w.alloc (.cells #[.int .i64 l, .int .i64 r, .slice A1 R.length c1] tRl)).alloc (.cells #[.int .i64 l2, .int .i64 r2, .slice A2 S.length c2] tRl)).alloc (.cells #[.int .i64 0, .int .i64 0, .slice none 0 0] tRl)) = W at HVB HA HS hB0 HX0 HM0 HY0 hsz0 ⊢
  have hW1 : w.heap.size + 3 ≤ W.heap.size := by omega
  clear hsz0
  obtain ⟨hx0, hx1, hx2, hxf0, hxf1, hxf2, hxs⟩ := HX0.out.three
  obtain ⟨hm0, hm1, hm2, hmf0, hmf1, hmf2, hms⟩ := HM0.out.three
  go_region_held3 (fun w' => w'.cell? ⟨w.heap.size, 0, none⟩ = some (.int .i64 l) ∧ w'.cell? ⟨w.heap.size, 1, none⟩ = some (.int .i64 r) ∧ w'.cell? ⟨w.heap.size + 1, 0, none⟩ = some (.int .i64 l2) ∧ w'.cell? ⟨w.heap.size + 1, 1, none⟩ = some (.int .i64 r2)) (exact ⟨hx0, hx1, hm0, hm1⟩) (fail)
  have hx2d : W.drew.cell? ⟨w.heap.size, 2, none⟩ = some (.slice A1 R.length c1) := hx2
  go_wp2
  clear hx0 hx1 hx2 hx2d hxf0 hxf1 hxf2 hm0 hm1 hm2 hmf0 hmf1 hmf2
  go_loopw [33, 9, 11, 12, 13, 14] (fun i o _ _ _ _ wr => ∃ (k : Nat) (vs : List Value), k ≤ R.length ∧ i = .int .i64 k ∧ Hid (Below W.heap.size W wr) ∧ Hid (GridB wr W.heap.size o vs ((R.take k).map (ten1 l l2 r2)))) (fun i _ _ _ _ _ _ => R.length - (intOf i).toNat)
  case atStart => exact ⟨0, [], Nat.zero_le _, rfl, Lib.hid (by repeat' (first | exact Below.refl _ _ | apply Below.drew | apply Below.setCell | apply Below.alloc | (simp; done) | omega | (simp; omega))), Lib.hid (GridB.nil _ _)⟩
  case round =>
    obtain ⟨k, vs, hk, rfl, HB2, HG⟩ := hrel
    by_cases hlt : k < R.length
    · obtain ⟨b1, o1, A3, c3, rfl, hb1, hc1, hrd⟩ := (HA.out.below HB2.out hB0).at hlt
      have HRD := Lib.hid hrd
      have HXL := Lib.hid (HLA.out k hlt)
      have HNX := Lib.hid (tens_take1 (l := l) (l2 := l2) (r2 := r2) hlt)
      have hpn : ((R.take k).map (ten1 l l2 r2)).length + 1 ≤ 1000000 := by simp; omega
      have hkI : (k : Int) < (R.length : Int) := by omega
      have hBr : B ≤ wr.heap.size := Nat.le_trans hB0 HB2.out.size
      have hBW : W.heap.size ≤ wr.heap.size := HB2.out.size
      clear hrd hb1
      generalize R.getD k [] = xr at hc1 HRD HNX HXL
      have hxa : xr.length ≤ l + r := by have := HXL.out; omega
      have hxb : l + r ≤ xr.length := by have := HXL.out; omega
      have hx3 : xr.length ≤ 1000 := by omega
      generalize (R.take k).map (ten1 l l2 r2) = ps at HG hpn HNX
      have HRO := Lib.hid (show RowA (wr.alloc (.cells (madeCells #[.int .i64 0] N) 3)) wr.heap.size (.slice (some ⟨wr.heap.size, 0, none⟩) N N) (plS N l 0 L 0 xr) from by
        rw [plS_start _ _ _ _ _ (by omega)]
        have h := World.ownsRow_lit (base := wr.heap.size) (e := 3) (size := 1) wr (madeCells #[.int .i64 0] N) N (Nat.le_refl _) (by unfold maxLen; omega) (by rw [← Array.length_toList, toList_madeCells_one]; simp)
        rw [toList_madeCells_one, show List.replicate N (Value.int .i64 0) = icells (List.replicate N 0) by simp [icells]] at h
        unfold RowA
        rw [List.length_replicate]
        exact h)
      have HBW := Lib.hid (show Below wr.heap.size wr (wr.alloc (.cells (madeCells #[.int .i64 0] N) 3)) from (Below.refl _ _).alloc (Nat.le_refl _) _)
      obtain ⟨wo, rfl⟩ : ∃ wo, wo = wr := ⟨wr, rfl⟩
      generalize hN9 : xr.length = n9 at hc1 HRD hxa hxb hx3
      have HN9 := Lib.hid hN9
      clear hN9
      go_wp2
      go_loopw [43, 13, 14] (fun j _ _ ws => ∃ q : Nat, q ≤ n9 ∧ j = .int .i64 q ∧ Hid (Below wo.heap.size wo ws) ∧ Hid (RowA ws wo.heap.size (.slice (some ⟨wo.heap.size, 0, none⟩) N N) (plS N l 0 L q xr))) (fun j _ _ _ => n9 - (intOf j).toNat)
      case atStart => exact ⟨0, Nat.zero_le _, rfl, HBW, HRO⟩
      case round =>
        obtain ⟨q, hq, rfl, HB4, HO4⟩ := hrel
        by_cases hqn : q < n9
        · have hql : q < xr.length := by have := HN9.out; omega
          have hqI : (q : Int) < (n9 : Int) := by omega
          obtain ⟨bx, ox, rfl, hbx, hcx⟩ := (HRD.out.below HB4.out hBr).at hql
          have HLN := Lib.hid (show N = (plS N l 0 L q xr).length by rw [plS_len])
          have hsz4 : wo.heap.size ≤ wr.heap.size := HB4.out.size
          have HXW := Lib.hid ((HX0.out.below HB2.out HX0.out.lt).below HB4.out (by have := HX0.out.lt; have := HB2.out.size; omega))
          have HMW := Lib.hid ((HM0.out.below HB2.out HM0.out.lt).below HB4.out (by have := HM0.out.lt; have := HB2.out.size; omega))
          obtain ⟨hx0, hx1, -, -, -, -, -⟩ := HXW.out.three
          obtain ⟨hm0, hm1, -, -, -, -, -⟩ := HMW.out.three
          by_cases hjm : q < l
          · have hjI : (q : Int) < (l : Int) := by omega
            have huN : q < N := by omega
            have huI : (q : Int) < (N : Int) := by omega
            have HSN := Lib.hid (show (plS N l 0 L q xr).set q (xr.getD q 0) = plS N l 0 L (q + 1) xr from by have h := plS_one (n := N) (m := l) (o1 := 0) (o2 := L) (j := q) (x := xr) (by omega) hjm (by omega); rw [Nat.zero_add] at h; exact h)
            have hcc := OwI.cell HO4.out HLN.out q huN
            have HST := Lib.hid (OwI.store HO4.out HLN.out q (xr.getD q 0))
            rw [HSN.out] at HST
            obtain ⟨hcc0, hcc1⟩ := hcc
            have HB5 := Lib.hid (HB4.out.setCell (p := ⟨wo.heap.size, q, none⟩) (Nat.le_refl _) (.int .i64 (xr.getD q 0)))
            clear HSN HO4 hql
            generalize xr.getD q 0 = y at hcx HST HB5
            go_wp2
            go_roundw
            case rel => exact ⟨q + 1, by omega, by go_num, HB5, HST⟩
            case measure => simp [intOf]; omega
          · have hjI : ¬ (q : Int) < (l : Int) := by omega
            obtain ⟨u, HU, hu1, hu2, hix⟩ : ∃ u : Nat, Hid (u = L + (q - l)) ∧ u ≤ L + (q - l) ∧ L + (q - l) ≤ u ∧ (L : Int) + (q : Int) - (l : Int) = (u : Int) := ⟨L + (q - l), Lib.hid rfl, Nat.le_refl _, Nat.le_refl _, by omega⟩
            have huN : u < N := by omega
            have huI : (u : Int) < (N : Int) := by omega
            have HSN := Lib.hid (plS_two (n := N) (m := l) (o1 := 0) (o2 := L) (j := q) (x := xr) (by omega) (by omega) (by omega))
            have hcc := OwI.cell HO4.out HLN.out u huN
            have HST := Lib.hid (OwI.store HO4.out HLN.out u (xr.getD q 0))
            rw [HU.out, HSN.out, ← HU.out] at HST
            obtain ⟨hcc0, hcc1⟩ := hcc
            have HB5 := Lib.hid (HB4.out.setCell (p := ⟨wo.heap.size, u, none⟩) (Nat.le_refl _) (.int .i64 (xr.getD q 0)))
            clear HSN HO4 hql HU
            generalize xr.getD q 0 = y at hcx HST HB5
            go_wp2
            go_roundw
            case rel => exact ⟨q + 1, by omega, by go_num, HB5, HST⟩
            case measure => simp [intOf]; omega
        · have hq2 : q = n9 := by omega
          subst hq2
          have HE := Lib.hid (show plS N l 0 L q xr = ten1 l l2 r2 xr by have h := plS_end1 (l := l) (r := r) (l2 := l2) (r2 := r2) (x := xr) HXL.out; rw [HN9.out, ← HN.out, ← HL.out] at h; exact h)
          rw [HE.out] at HO4
          have HA4 : Hid (Below wr.heap.size wr (wr.alloc (.cells #[.slice (some ⟨wo.heap.size, 0, none⟩) N N] 42))) := Lib.hid ((Below.refl _ _).alloc (Nat.le_refl _) _)
          have hs4 : wo.heap.size ≤ wr.heap.size := HB4.out.size
          have HB5 := Lib.hid (HB4.out.trans (HA4.out.mono hs4))
          have HG5 := Lib.hid (HG.out.below HB5.out)
          have HU5 := Lib.hid ((RowA.below HO4.out HA4.out).own.mono (T := fun q => wo.heap.size ≤ q ∧ q < (wr.alloc (.cells #[.slice (some ⟨wo.heap.size, 0, none⟩) N N] 42)).heap.size) (fun q h1 h2 => ⟨h1, h2⟩))
          have HC5 := Lib.hid (show (wr.alloc (.cells #[.slice (some ⟨wo.heap.size, 0, none⟩) N N] 42)).cell? ⟨wr.heap.size, 0, none⟩ = some (.slice (some ⟨wo.heap.size, 0, none⟩) N N) from by have hc := (cellsAt_new wr #[.slice (some ⟨wo.heap.size, 0, none⟩) N N] 42).cell (i := 0) (by simp); rw [hc]; rfl)
          have hs5 : wo.heap.size ≤ (wr.alloc (.cells #[.slice (some ⟨wo.heap.size, 0, none⟩) N N] 42)).heap.size := HB5.out.size
          have hqI2 : ¬ (q : Int) < (q : Int) := by omega
          go_wp2_with (at_builtin; refine wpList_pushG (by rfl) (.tmp 66) (.tmp 68) (by rfl) _ W.heap.size wo.heap.size _ vs ps wr.heap.size 1 (some ⟨wo.heap.size, 0, none⟩) N N (ten1 l l2 r2 xr) (by rfl) HG5.out (by rfl) HC5.out HU5.out hBW hs5 hpn ?_; intro v6 vs6 w6 hg6 hb6; have HB6 := Lib.hid (HB2.out.trans ((HB5.out.mono hBW).trans hb6)); have HG6 := Lib.hid hg6; clear hg6 hb6)
          go_wp2
          go_roundw
          case rel => exact ⟨k + 1, vs6, by omega, by go_num, HB6, Lib.hid (by rw [HNX.out]; exact HG6.out)⟩
          case measure => simp [intOf]; omega
    · have HK := Lib.hid (show R.take k = R from List.take_of_length_le (by omega))
      rw [HK.out] at HG
      obtain ⟨vs1, hvs1⟩ : ∃ vs1, vs1 = vs := ⟨vs, rfl⟩
      have HG1 := Lib.hid (show GridB wr W.heap.size _ vs1 (R.map (ten1 l l2 r2)) from by rw [hvs1]; exact HG.out)
      have HB1 := HB2
      have HMM := Lib.hid (HM0.out.below HB2.out HM0.out.lt)
      obtain ⟨hm0, hm1, hm2, hmf0, hmf1, hmf2, hms2⟩ := HMM.out.three
      have hkn : ¬ (k : Int) < (R.length : Int) := by omega
      clear hlt hk HB2 HG HK hvs1
      go_wp2
      clear hm0 hm1 hm2 hmf0 hmf1 hmf2
      go_loopw [74, 9, 16, 17, 18, 19] (fun i o _ _ _ _ wr => ∃ (k : Nat) (vs : List Value), k ≤ S.length ∧ i = .int .i64 k ∧ Hid (Below W.heap.size W wr) ∧ Hid (GridB wr W.heap.size o vs (R.map (ten1 l l2 r2) ++ (S.take k).map (ten2 l r l2)))) (fun i _ _ _ _ _ _ => S.length - (intOf i).toNat)
      case atStart => exact ⟨0, vs1, Nat.zero_le _, rfl, HB1, (by rw [List.take_zero, List.map_nil, List.append_nil]; exact HG1)⟩
      case round =>
        obtain ⟨k, vs, hk, rfl, HB2, HG⟩ := hrel
        by_cases hlt : k < S.length
        · obtain ⟨b1, o1, A3, c3, rfl, hb1, hc1, hrd⟩ := (HS.out.below HB2.out hB0).at hlt
          have HRD := Lib.hid hrd
          have HXL := Lib.hid (HLB.out k hlt)
          have HNX := Lib.hid (show R.map (ten1 l l2 r2) ++ (S.take (k + 1)).map (ten2 l r l2) = (R.map (ten1 l l2 r2) ++ (S.take k).map (ten2 l r l2)) ++ [ten2 l r l2 (S.getD k [])] from by rw [tens_take2 hlt, List.append_assoc])
          have hpn : (R.map (ten1 l l2 r2) ++ (S.take k).map (ten2 l r l2)).length + 1 ≤ 1000000 := by simp; omega
          have hkI : (k : Int) < (S.length : Int) := by omega
          have hBr : B ≤ wr.heap.size := Nat.le_trans hB0 HB2.out.size
          have hBW : W.heap.size ≤ wr.heap.size := HB2.out.size
          clear hrd hb1
          generalize S.getD k [] = xr at hc1 HRD HNX HXL
          have hxa : xr.length ≤ l2 + r2 := by have := HXL.out; omega
          have hxb : l2 + r2 ≤ xr.length := by have := HXL.out; omega
          have hx3 : xr.length ≤ 1000 := by omega
          generalize R.map (ten1 l l2 r2) ++ (S.take k).map (ten2 l r l2) = ps at HG hpn HNX
          have HRO := Lib.hid (show RowA (wr.alloc (.cells (madeCells #[.int .i64 0] N) 3)) wr.heap.size (.slice (some ⟨wr.heap.size, 0, none⟩) N N) (plS N l2 l (L + r) 0 xr) from by
            rw [plS_start _ _ _ _ _ (by omega)]
            have h := World.ownsRow_lit (base := wr.heap.size) (e := 3) (size := 1) wr (madeCells #[.int .i64 0] N) N (Nat.le_refl _) (by unfold maxLen; omega) (by rw [← Array.length_toList, toList_madeCells_one]; simp)
            rw [toList_madeCells_one, show List.replicate N (Value.int .i64 0) = icells (List.replicate N 0) by simp [icells]] at h
            unfold RowA
            rw [List.length_replicate]
            exact h)
          have HBW := Lib.hid (show Below wr.heap.size wr (wr.alloc (.cells (madeCells #[.int .i64 0] N) 3)) from (Below.refl _ _).alloc (Nat.le_refl _) _)
          obtain ⟨wo, rfl⟩ : ∃ wo, wo = wr := ⟨wr, rfl⟩
          generalize hN9 : xr.length = n9 at hc1 HRD hxa hxb hx3
          have HN9 := Lib.hid hN9
          clear hN9
          go_wp2
          go_loopw [84, 18, 19] (fun j _ _ ws => ∃ q : Nat, q ≤ n9 ∧ j = .int .i64 q ∧ Hid (Below wo.heap.size wo ws) ∧ Hid (RowA ws wo.heap.size (.slice (some ⟨wo.heap.size, 0, none⟩) N N) (plS N l2 l (L + r) q xr))) (fun j _ _ _ => n9 - (intOf j).toNat)
          case atStart => exact ⟨0, Nat.zero_le _, rfl, HBW, HRO⟩
          case round =>
            obtain ⟨q, hq, rfl, HB4, HO4⟩ := hrel
            by_cases hqn : q < n9
            · have hql : q < xr.length := by have := HN9.out; omega
              have hqI : (q : Int) < (n9 : Int) := by omega
              obtain ⟨bx, ox, rfl, hbx, hcx⟩ := (HRD.out.below HB4.out hBr).at hql
              have HLN := Lib.hid (show N = (plS N l2 l (L + r) q xr).length by rw [plS_len])
              have hsz4 : wo.heap.size ≤ wr.heap.size := HB4.out.size
              have HXW := Lib.hid ((HX0.out.below HB2.out HX0.out.lt).below HB4.out (by have := HX0.out.lt; have := HB2.out.size; omega))
              have HMW := Lib.hid ((HM0.out.below HB2.out HM0.out.lt).below HB4.out (by have := HM0.out.lt; have := HB2.out.size; omega))
              obtain ⟨hx0, hx1, -, -, -, -, -⟩ := HXW.out.three
              obtain ⟨hm0, hm1, -, -, -, -, -⟩ := HMW.out.three
              by_cases hjm : q < l2
              · have hjI : (q : Int) < (l2 : Int) := by omega
                obtain ⟨u, HU, hu1, hu2, hix⟩ : ∃ u : Nat, Hid (u = l + q) ∧ u ≤ l + q ∧ l + q ≤ u ∧ (l : Int) + (q : Int) = (u : Int) := ⟨l + q, Lib.hid rfl, Nat.le_refl _, Nat.le_refl _, by omega⟩
                have huN : u < N := by omega
                have huI : (u : Int) < (N : Int) := by omega
                have HSN := Lib.hid (plS_one (n := N) (m := l2) (o1 := l) (o2 := (L + r)) (j := q) (x := xr) (by omega) hjm (by omega))
                have hcc := OwI.cell HO4.out HLN.out u huN
                have HST := Lib.hid (OwI.store HO4.out HLN.out u (xr.getD q 0))
                rw [HU.out, HSN.out, ← HU.out] at HST
                obtain ⟨hcc0, hcc1⟩ := hcc
                have HB5 := Lib.hid (HB4.out.setCell (p := ⟨wo.heap.size, u, none⟩) (Nat.le_refl _) (.int .i64 (xr.getD q 0)))
                clear HSN HO4 hql HU
                generalize xr.getD q 0 = y at hcx HST HB5
                go_wp2
                go_roundw
                case rel => exact ⟨q + 1, by omega, by go_num, HB5, HST⟩
                case measure => simp [intOf]; omega
              · have hjI : ¬ (q : Int) < (l2 : Int) := by omega
                obtain ⟨u, HU, hu1, hu2, hix⟩ : ∃ u : Nat, Hid (u = (L + r) + (q - l2)) ∧ u ≤ (L + r) + (q - l2) ∧ (L + r) + (q - l2) ≤ u ∧ (L : Int) + (r : Int) + (q : Int) - (l2 : Int) = (u : Int) := ⟨(L + r) + (q - l2), Lib.hid rfl, Nat.le_refl _, Nat.le_refl _, by omega⟩
                have huN : u < N := by omega
                have huI : (u : Int) < (N : Int) := by omega
                have HSN := Lib.hid (plS_two (n := N) (m := l2) (o1 := l) (o2 := (L + r)) (j := q) (x := xr) (by omega) (by omega) (by omega))
                have hcc := OwI.cell HO4.out HLN.out u huN
                have HST := Lib.hid (OwI.store HO4.out HLN.out u (xr.getD q 0))
                rw [HU.out, HSN.out, ← HU.out] at HST
                obtain ⟨hcc0, hcc1⟩ := hcc
                have HB5 := Lib.hid (HB4.out.setCell (p := ⟨wo.heap.size, u, none⟩) (Nat.le_refl _) (.int .i64 (xr.getD q 0)))
                clear HSN HO4 hql HU
                generalize xr.getD q 0 = y at hcx HST HB5
                go_wp2
                go_roundw
                case rel => exact ⟨q + 1, by omega, by go_num, HB5, HST⟩
                case measure => simp [intOf]; omega
            · have hq2 : q = n9 := by omega
              subst hq2
              have HE := Lib.hid (show plS N l2 l (L + r) q xr = ten2 l r l2 xr by have h := plS_end2 (l := l) (r := r) (l2 := l2) (r2 := r2) (x := xr) HXL.out; rw [HN9.out, ← HN.out, ← HL.out] at h; exact h)
              rw [HE.out] at HO4
              have HA4 : Hid (Below wr.heap.size wr (wr.alloc (.cells #[.slice (some ⟨wo.heap.size, 0, none⟩) N N] 42))) := Lib.hid ((Below.refl _ _).alloc (Nat.le_refl _) _)
              have hs4 : wo.heap.size ≤ wr.heap.size := HB4.out.size
              have HB5 := Lib.hid (HB4.out.trans (HA4.out.mono hs4))
              have HG5 := Lib.hid (HG.out.below HB5.out)
              have HU5 := Lib.hid ((RowA.below HO4.out HA4.out).own.mono (T := fun q => wo.heap.size ≤ q ∧ q < (wr.alloc (.cells #[.slice (some ⟨wo.heap.size, 0, none⟩) N N] 42)).heap.size) (fun q h1 h2 => ⟨h1, h2⟩))
              have HC5 := Lib.hid (show (wr.alloc (.cells #[.slice (some ⟨wo.heap.size, 0, none⟩) N N] 42)).cell? ⟨wr.heap.size, 0, none⟩ = some (.slice (some ⟨wo.heap.size, 0, none⟩) N N) from by have hc := (cellsAt_new wr #[.slice (some ⟨wo.heap.size, 0, none⟩) N N] 42).cell (i := 0) (by simp); rw [hc]; rfl)
              have hs5 : wo.heap.size ≤ (wr.alloc (.cells #[.slice (some ⟨wo.heap.size, 0, none⟩) N N] 42)).heap.size := HB5.out.size
              have hqI2 : ¬ (q : Int) < (q : Int) := by omega
              go_wp2_with (at_builtin; refine wpList_pushG (by rfl) (.tmp 113) (.tmp 115) (by rfl) _ W.heap.size wo.heap.size _ vs ps wr.heap.size 1 (some ⟨wo.heap.size, 0, none⟩) N N (ten2 l r l2 xr) (by rfl) HG5.out (by rfl) HC5.out HU5.out hBW hs5 hpn ?_; intro v6 vs6 w6 hg6 hb6; have HB6 := Lib.hid (HB2.out.trans ((HB5.out.mono hBW).trans hb6)); have HG6 := Lib.hid hg6; clear hg6 hb6)
              go_wp2
              go_roundw
              case rel => exact ⟨k + 1, vs6, by omega, by go_num, HB6, Lib.hid (by rw [HNX.out]; exact HG6.out)⟩
              case measure => simp [intOf]; omega
        · have HK := Lib.hid (show S.take k = S from List.take_of_length_le (by omega))
          rw [HK.out] at HG
          have HRG := Lib.hid (OwG.readB HG.out.own)
          have hB2 : W.heap.size ≤ wr.heap.size := HB2.out.size
          go_wp2_with fail
          have hro := rlOf_any wr wr.heap.size _ p (R.length + S.length) (l + l2) (r + r2) (tens l r l2 r2 R S) HRG.out (Nat.le_refl _) HF.out (by rw [← HN.out]; exact HMA.out) (by omega) (by omega)
          rw [← HN.out, ← HL.out, ← HGG.out] at hro
          refine hro.mono ?_
          rintro e w4 ⟨v4, rfl, b4, o4⟩
          obtain ⟨A4, c4, rfl⟩ := OwG.len o4
          have HB4 := Lib.hid (HB2.out.trans (b4.mono hB2))
          have HO4 := Lib.hid (OwG.mono (T := fun q => W.heap.size ≤ q) o4 (fun q hq _ => Nat.le_trans hB2 hq))
          have HY4 := Lib.hid (HY0.out.below HB4.out (by omega))
          clear b4 o4
          obtain ⟨hy0, hy1, hy2, hyf0, hyf1, hyf2, hys⟩ := HY4.out.three
          have HBE := Lib.hid (HVB.out.trans (HB4.out.mono HVB.out.size))
          go_wp2
          refine bodyPost_ret (v := .agg #[.int .i64 L, .int .i64 G, .slice A4 (rref p (tens l r l2 r2 R S) N).length c4]) (by simp [results, Tryd.results43, go_sem, hy0, hy1, hy2]) rfl ?_
          refine ⟨_, rfl, (by refine Below.trans HBE.out ?_; repeat' (first | exact Below.refl _ _ | apply Below.drew | apply Below.setCell | apply Below.alloc | (simp; done) | omega | (simp; omega))), (HO4.out.blocks (fun q hq _ => ?_)).mono (fun q hq _ => by omega)⟩
          repeat rw [blk_setCell_other _ _ _ _ (by dsimp only; omega)]
end Go.Proofs.YtiiloioobmkicaaDoor
