/- The composition of relations: the model's helper. -/
import Derived.Test.YtdjgkcnhmfkjoaaDoorGrO
import Derived.Test.YtdjgkcnhmfkjoaaDoorCmpM
import Derived.Test.YtdjgkcnhmfkjoaaDoorSpNull
import Derived.Test.YtdjgkcnhmfkjoaaDoorVecF
import Derived.Test.YtdjgkcnhmfkjoaaDoorNullB
import Derived.Test.YtdjgkcnhmfkjoaaDoorStp
import Derived.Test.YtdjgkcnhmfkjoaaDoorPartR
import Derived.Test.YtdjgkcnhmfkjoaaDoorSpanF
import Derived.Deep.RegionLaw
import Derived.Deep.RegionHeld3
namespace Go.Proofs.YtdjgkcnhmfkjoaaDoor
set_option maxRecDepth 100000
open Go Go.RowKit Go.Deep

theorem set_same {α : Type} {xs : List α} {j : Nat} {x d : α} (h : j < xs.length) (e : xs.getD j d = x) : xs.set j x = xs := by
  refine List.ext_getElem? fun i => ?_
  rw [List.getElem?_set]
  by_cases c : j = i
  · subst c
    rw [if_pos rfl, if_pos h, ← e]
    exact (getD_some h d).symm
  · rw [if_neg c]
theorem rdS_cut {w : World} {S : Nat → Prop} {A : Option Addr} {n c m : Nat} {xs : List Int} (h : RdS w S (.slice A n c) xs) (hm : m ≤ n) : RdS w S (.slice (if c = m then A else Option.map (fun x => x.add m) A) (n - m) (c - m)) (xs.drop m) := by
  obtain ⟨A', c', e, kc, h'⟩ := h
  obtain ⟨rfl, rfl, rfl⟩ := sliceEq e
  by_cases hc : c = m
  · have hx : xs.drop m = [] := List.drop_eq_nil_of_le (by omega)
    rw [if_pos hc, show xs.length - m = 0 by omega]
    exact rdS_none hx
  · rw [if_neg hc]
    exact rdS_drop ⟨A, c, rfl, kc, h'⟩ hm
theorem cmpN_upd {p : Int} {l r : Nat} {R S : List (List Int)} : upd (fun i _ => cmpC p l R S i) r (List.replicate r ([] : List Int)) = cmpN p l r R S := by
  rw [upd_all _ (by simp)]
  unfold cmpN
  refine List.ext_getElem (by simp) fun i h1 h2 => ?_
  simp
set_option maxRecDepth 100000 in
set_option maxHeartbeats 6400000 in
theorem rlCompose_any (w : World) (B : Nat) (va vb : Value) (p : Int) (l r r2 : Nat) (R S : List (List Int)) (ha : RdG w B va R) (hb : RdG w B vb S) (hB : B ≤ w.heap.size) (hf : fld p = true) (hR : Mat p R.length (l + r) R) (hS : Mat p S.length (r + r2) S) (hn : R.length ≤ 1000) (hm : S.length ≤ 1000) (h24 : l + r + r2 ≤ 1000) :
    Calls Tryd.prog 13 #[.int .i64 p, .agg #[.int .i64 l, .int .i64 r, va], .agg #[.int .i64 r, .int .i64 r2, vb]] w (MadeRl w l r2 (rref p (cmpO p l r r2 R S) (l + r2))) := by
  obtain ⟨A1, c1, rfl⟩ := ha.len
  obtain ⟨A2, c2, rfl⟩ := hb.len
  have hp1 := (fld_bd hf).1
  have hp2 := (fld_bd hf).2
  have HVB := Lib.hid (show Below w.heap.size w (((w.alloc (.cells #[.int .i64 l, .int .i64 r, .slice A1 R.length c1] tRl)).alloc (.cells #[.int .i64 r, .int .i64 r2, .slice A2 S.length c2] tRl)).alloc (.cells #[.int .i64 0, .int .i64 0, .slice none 0 0] tRl)) by repeat' (first | exact Below.refl _ _ | apply Below.alloc | (simp; done) | (simp; omega)))
  have HA := Lib.hid (ha.below HVB.out hB)
  have HS := Lib.hid (hb.below HVB.out hB)
  have hB0 : B ≤ (((w.alloc (.cells #[.int .i64 l, .int .i64 r, .slice A1 R.length c1] tRl)).alloc (.cells #[.int .i64 r, .int .i64 r2, .slice A2 S.length c2] tRl)).alloc (.cells #[.int .i64 0, .int .i64 0, .slice none 0 0] tRl)).heap.size := Nat.le_trans hB HVB.out.size
  have HX0 := Lib.hid (((cellsAt_new w #[.int .i64 l, .int .i64 r, .slice A1 R.length c1] tRl).alloc (.cells #[.int .i64 r, .int .i64 r2, .slice A2 S.length c2] tRl)).alloc (.cells #[.int .i64 0, .int .i64 0, .slice none 0 0] tRl))
  have HM0 := Lib.hid ((cellsAt_new' (w.alloc (.cells #[.int .i64 l, .int .i64 r, .slice A1 R.length c1] tRl)) #[.int .i64 r, .int .i64 r2, .slice A2 S.length c2] tRl _ (w.heap.size + 1) (by simp) rfl).alloc (.cells #[.int .i64 0, .int .i64 0, .slice none 0 0] tRl))
  have HY0 := Lib.hid (cellsAt_new' ((w.alloc (.cells #[.int .i64 l, .int .i64 r, .slice A1 R.length c1] tRl)).alloc (.cells #[.int .i64 r, .int .i64 r2, .slice A2 S.length c2] tRl)) #[.int .i64 0, .int .i64 0, .slice none 0 0] tRl _ (w.heap.size + 1 + 1) (by simp) rfl)
  have hsz0 : (((w.alloc (.cells #[.int .i64 l, .int .i64 r, .slice A1 R.length c1] tRl)).alloc (.cells #[.int .i64 r, .int .i64 r2, .slice A2 S.length c2] tRl)).alloc (.cells #[.int .i64 0, .int .i64 0, .slice none 0 0] tRl)).heap.size = w.heap.size + 3 := by simp
  have HF := Lib.hid hf
  have HRM := Lib.hid hR
  have HSM := Lib.hid hS
  have hmk := make_rows r (by omega)
  have hq1 : (l : Int) + r ≤ 1000 := by omega
  have hq2 : (r : Int) + r2 ≤ 1000 := by omega
  have hw1 : IntKind.i64.wrap ((l : Int) + (r : Int)) = (l : Int) + (r : Int) := Go.IntWalk.i64_in _ ⟨by omega, by omega⟩
  have hw2 : IntKind.i64.wrap ((r : Int) + (r2 : Int)) = (r : Int) + (r2 : Int) := Go.IntWalk.i64_in _ ⟨by omega, by omega⟩
  have hw3 : IntKind.i64.wrap ((R.length : Int) + (S.length : Int)) = (R.length : Int) + (S.length : Int) := Go.IntWalk.i64_in _ ⟨by omega, by omega⟩
  clear ha hb hf hR hS hB
  go_enter Tryd.func13, Tryd.ntmps13
  go_upto_region 1 with fail
  generalize (((w.alloc (.cells #[.int .i64 l, .int .i64 r, .slice A1 R.length c1] tRl)).alloc (.cells #[.int .i64 r, .int .i64 r2, .slice A2 S.length c2] tRl)).alloc (.cells #[.int .i64 0, .int .i64 0, .slice none 0 0] tRl)) = W at HVB HA HS hB0 HX0 HM0 HY0 hsz0 ⊢
  have hW1 : w.heap.size + 3 ≤ W.heap.size := by omega
  clear hsz0
  obtain ⟨hx0, hx1, hx2, hxf0, hxf1, hxf2, hxs⟩ := HX0.out.three
  obtain ⟨hm0, hm1, hm2, hmf0, hmf1, hmf2, hms⟩ := HM0.out.three
  go_wp2
  have HMW := Lib.hid (show Below W.heap.size W (W.alloc (.cells (madeCells #[.slice none 0 0] r) 40)) from (Below.refl _ _).alloc (Nat.le_refl _) _)
  clear hx0 hx1 hx2 hxf0 hxf1 hxf2 hxs hm0 hm1 hm2 hmf0 hmf1 hmf2 hms hmk
  go_loopw [25, 9, 11, 13, 31, 55] (fun ti _ _ _ _ _ wr => ∃ (j : Nat) (vs : List Value), j ≤ r ∧ ti = .int .i64 j ∧ Hid (Below W.heap.size W wr) ∧ Hid (GrO wr W.heap.size W.heap.size vs (upd (fun i _ => cmpC p l R S i) j (List.replicate r [])))) (fun ti _ _ _ _ _ _ => r - (intOf ti).toNat)
  case atStart => exact ⟨0, _, Nat.zero_le _, rfl, HMW, Lib.hid (by rw [upd_zero]; exact GrO.made W r)⟩
  case round =>
    obtain ⟨j, vs0, hj, rfl, HBW, HG⟩ := hrel
    by_cases hlt : j < r
    · have HUS := Lib.hid (upd_step (fun i _ => cmpC p l R S i) (k := j) (xs := List.replicate r ([] : List Int)) (by rw [List.length_replicate]; exact hlt) [])
      have HUL := Lib.hid (upd_len (fun i _ => cmpC p l R S i) j (List.replicate r ([] : List Int)))
      have HUG := Lib.hid (show (upd (fun i _ => cmpC p l R S i) j (List.replicate r [])).getD j [] = [] from by rw [upd_getD _ (Nat.le_refl j), getD_repl _ _ _ _ hlt])
      generalize upd (fun i _ => cmpC p l R S i) j (List.replicate r []) = G at HG HUS HUL HUG
      have HGL := Lib.hid (show j < G.length by rw [HUL.out, List.length_replicate]; exact hlt)
      obtain ⟨u, HU, hul, hug⟩ : ∃ u : Nat, Hid (u = l + j) ∧ u ≤ l + j ∧ l + j ≤ u := ⟨_, Lib.hid rfl, Nat.le_refl _, Nat.le_refl _⟩
      have hu : (l : Int) + (j : Int) = (u : Int) := by omega
      have hwu : IntKind.i64.wrap (u : Int) = (u : Int) := Go.IntWalk.i64_in _ ⟨by omega, by omega⟩
      have HXr := Lib.hid (HX0.out.below HBW.out HX0.out.lt)
      obtain ⟨hx0, hx1, hx2, hxf0, hxf1, hxf2, hxs⟩ := HXr.out.three
      go_wp2
      clear hx0 hx1 hx2 hxf0 hxf1 hxf2 hxs
      go_loopw [31, 11] (fun ti _ w1 => ∃ (k : Nat) (vs : List Value), k ≤ R.length ∧ ti = .int .i64 k ∧ Hid (Below W.heap.size W w1) ∧ Hid (GrO w1 W.heap.size W.heap.size vs (G.set j ((R.take k).map (fun x : List Int => x.getD (l + j) 0))))) (fun ti _ _ => R.length - (intOf ti).toNat)
      case atStart => exact ⟨0, vs0, Nat.zero_le _, rfl, HBW, Lib.hid (by rw [List.take_zero, List.map_nil, set_same HGL.out HUG.out]; exact HG.out)⟩
      case round =>
        obtain ⟨k, vs, hk, rfl, HB1, HG1⟩ := hrel
        by_cases hlt2 : k < R.length
        · have hskip := True.intro
          have hBr : B ≤ wr.heap.size := Nat.le_trans hB0 HB1.out.size
          obtain ⟨b1, o1, A3, c3, rfl, hb1, hc1, hrd⟩ := (HA.out.below HB1.out hB0).at hlt2
          have hrl := (HRM.out.row hlt2).1
          have hrv := (HRM.out.row hlt2).2
          have HNX := Lib.hid (show (R.take (k + 1)).map (fun x : List Int => x.getD (l + j) 0) = (R.take k).map (fun x : List Int => x.getD (l + j) 0) ++ [(fun x : List Int => x.getD (l + j) 0) (R.getD k [])] from by rw [take_one hlt2 [], List.map_append]; rfl)
          have HXr := Lib.hid (HX0.out.below HB1.out HX0.out.lt)
          obtain ⟨hx0, hx1, hx2, hxf0, hxf1, hxf2, hxs⟩ := HXr.out.three
          have hxd0 : wr.drew.cell? ⟨w.heap.size, 0, none⟩ = some (.int .i64 l) := hx0
          have hxa0 : ∀ o, (wr.alloc o).drew.cell? ⟨w.heap.size, 0, none⟩ = some (.int .i64 l) := fun o => ((HXr.out.alloc o).drew.cell (i := 0) (by simp)).trans (by simp)
          generalize R.getD k [] = xr at hc1 hrd hrl hrv HNX
          obtain ⟨b2, o2, e2, hb2, hc2⟩ := RdS.at hrd (k := u) (by omega)
          subst e2
          have hlt9 : u < xr.length := by omega
          have HYB := Lib.hid (hrv (xr.getD u 0) (getD_mem' hlt9 0))
          have HYE := Lib.hid (show (fun x : List Int => x.getD (l + j) 0) xr = xr.getD u 0 from by rw [HU.out])
          have hrlI : (u : Int) < (xr.length : Int) := by omega
          have hjI : (j : Int) < (r : Int) := by omega
          generalize hy : xr.getD u 0 = y at hc2 HYB HYE
          clear hy
          
          generalize hxn : xr.length = nx at hrd hc1 hrl hrlI
          clear hrd hrl hrv hxn
          have hy0 := HYB.out.1
          have hy1 := HYB.out.2
          have hbr2 : b2 < wr.heap.size := by omega
          have hc2d : wr.drew.cell? ⟨b2, o2 + u, none⟩ = some (.int .i64 y) := hc2
          have hc2a : ∀ o, (wr.alloc o).drew.cell? ⟨b2, o2 + u, none⟩ = some (.int .i64 y) := fun o => (World.cell?_of_block (w := wr) (blk_alloc_lt wr o _ hbr2)).trans hc2
          have HGS := Lib.hid (show j < (G.set j ((R.take k).map (fun x : List Int => x.getD (l + j) 0))).length by rw [List.length_set]; exact HGL.out)
          have HGE := Lib.hid (show (G.set j ((R.take k).map (fun x : List Int => x.getD (l + j) 0))).getD j [] = (R.take k).map (fun x : List Int => x.getD (l + j) 0) by rw [set_getD _ _ _ _ _ HGL.out, if_pos rfl])
          have HXL := Lib.hid (show ((R.take k).map (fun x : List Int => x.getD (l + j) 0)).length ≤ 2000 by simp; omega)
          have HSS := Lib.hid (fun zs => (show (G.set j ((R.take k).map (fun x : List Int => x.getD (l + j) 0))).set j zs = G.set j zs from List.set_set ..))
          have HNY := Lib.hid (show (R.take (k + 1)).map (fun x : List Int => x.getD (l + j) 0) = ((R.take k).map (fun x : List Int => x.getD (l + j) 0)) ++ [y] from by rw [HNX.out, HYE.out])
          have hg0 := HG1.out.cell HGS.out
          have HROW := Lib.hid (HG1.out.row j HGS.out)
          rw [HGE.out] at HROW
          generalize hu0 : vs.getD j Value.nilFunc = u0 at hg0 HROW
          have HU0 := Lib.hid hu0
          clear hu0
          generalize (R.take k).map (fun x : List Int => x.getD (l + j) 0) = xs at HG1 HGS HROW HXL HSS HNY
          have hxl := HXL.out
          have hgd0 : wr.drew.cell? ⟨W.heap.size, j, none⟩ = some u0 := hg0
          have hga0 : ∀ o, (wr.alloc o).drew.cell? ⟨W.heap.size, j, none⟩ = some u0 := fun o => (World.cell?_of_block (w := wr) (blk_alloc_lt wr o _ HG1.out.outer.lt)).trans hg0
          have HGA := Lib.hid (show GrO (wr.alloc (.cells #[.int .i64 y] 3)).drew W.heap.size W.heap.size vs (G.set j xs) from (HG1.out.alloc _).drew)
          have HRA := Lib.hid (show RowA (wr.alloc (.cells #[.int .i64 y] 3)).drew W.heap.size u0 xs from RowA.below HROW.out ((Below.refl _ _).alloc (Nat.le_refl _) _).drew)
          have HCY := Lib.hid (show (wr.alloc (.cells #[.int .i64 y] 3)).drew.cell? ⟨wr.heap.size, 0, none⟩ = some (.int .i64 y) from ((cellsAt_new wr #[.int .i64 y] 3).drew.cell (i := 0) (by simp)).trans (by simp))
          have HBA := Lib.hid (show Below W.heap.size W (wr.alloc (.cells #[.int .i64 y] 3)).drew from HB1.out.trans ((Below.refl wr.heap.size wr).alloc (Nat.le_refl _) _ |>.drew |>.mono HB1.out.size))
          clear hx1 hx2 hxf0 hxf1 hxf2 hxs
          go_wp2
          go_region_law
            (first
              | (refine step_pushRow (by rfl) _ _ (by rfl) (wr.alloc (.cells #[.int .i64 y] 3)).drew W.heap.size u0 xs y wr.heap.size 1 (by rfl) HRA.out (by rfl) HCY.out HBA.out.size (by omega) ?_; intro g9 cap9 w9 ho9 hgr9 hat9; have HO9 := Lib.hid ho9; have HAT := Lib.hid hat9; have HBG := Lib.hid (Below.grown HBA.out hgr9 HBA.out.size (fun q hq => (World.ownsRow.lt HRA.out q hq).1)); have HC9 := Lib.hid (HGA.out.outer.of_block (hgr9.block _ HGA.out.outer.lt (fun e => HGA.out.off j HGS.out (by rw [HU0.out]; exact e.symm)))); have hc9 : w9.cell? ⟨W.heap.size, j, none⟩ = some u0 := ((HC9.out.cell (by rw [HGA.out.len]; exact HGS.out)).trans (getD_some (by rw [HGA.out.len]; exact HGS.out) .nilFunc)).trans (by rw [HU0.out]); have hf9 := HC9.out.frozen j; have HGR := Lib.hid hgr9; clear ho9 hgr9 hat9)
              | fail)
          all_goals (try go_wp2)
          all_goals go_roundw
          all_goals first
            | exact ⟨k + 1, _, by omega, by go_num, Lib.hid (HBG.out.setCell (by dsimp only; omega) _), Lib.hid (by
                have h := HGA.out.push HGS.out HO9.out (by rw [HU0.out]; exact HGR.out) (by rw [HU0.out]; exact HAT.out)
                rw [HSS.out, ← HNY.out] at h
                exact h)⟩
            | (simp [intOf]; omega)
        · have HEND := Lib.hid (show R.take k = R from List.take_of_length_le (by omega))
          rw [HEND.out] at HG1
          clear HEND HG HBW HXr
          have HXr := Lib.hid (HM0.out.below HB1.out HM0.out.lt)
          obtain ⟨hx0, hx1, hx2, hxf0, hxf1, hxf2, hxs⟩ := HXr.out.three
          clear hu hwu
          go_wp2
          clear hx0 hx1 hx2 hxf0 hxf1 hxf2 hxs
          go_loopw [55, 13] (fun ti _ w1 => ∃ (k : Nat) (vs : List Value), k ≤ S.length ∧ ti = .int .i64 k ∧ Hid (Below W.heap.size W w1) ∧ Hid (GrO w1 W.heap.size W.heap.size vs (G.set j (R.map (fun x : List Int => x.getD (l + j) 0) ++ (S.take k).map (fun x : List Int => (p - x.getD j 0) % p))))) (fun ti _ _ => S.length - (intOf ti).toNat)
          case atStart => exact ⟨0, vs, Nat.zero_le _, rfl, HB1, Lib.hid (by rw [List.take_zero, List.map_nil, List.append_nil]; exact HG1.out)⟩
          case round =>
            clear HB1 HG1 hlt2 hk
            obtain ⟨k, vs, hk, rfl, HB1, HG1⟩ := hrel
            by_cases hlt2 : k < S.length
            · have hskip := True.intro
              have hBr : B ≤ wr.heap.size := Nat.le_trans hB0 HB1.out.size
              obtain ⟨b1, o1, A3, c3, rfl, hb1, hc1, hrd⟩ := (HS.out.below HB1.out hB0).at hlt2
              have hrl := (HSM.out.row hlt2).1
              have hrv := (HSM.out.row hlt2).2
              have HNX := Lib.hid (show (S.take (k + 1)).map (fun x : List Int => (p - x.getD j 0) % p) = (S.take k).map (fun x : List Int => (p - x.getD j 0) % p) ++ [(fun x : List Int => (p - x.getD j 0) % p) (S.getD k [])] from by rw [take_one hlt2 [], List.map_append]; rfl)
              have HXr := Lib.hid (HX0.out.below HB1.out HX0.out.lt)
              obtain ⟨hx0, hx1, hx2, hxf0, hxf1, hxf2, hxs⟩ := HXr.out.three
              have hxd0 : wr.drew.cell? ⟨w.heap.size, 0, none⟩ = some (.int .i64 l) := hx0
              have hxa0 : ∀ o, (wr.alloc o).drew.cell? ⟨w.heap.size, 0, none⟩ = some (.int .i64 l) := fun o => ((HXr.out.alloc o).drew.cell (i := 0) (by simp)).trans (by simp)
              generalize S.getD k [] = xr at hc1 hrd hrl hrv HNX
              obtain ⟨b2, o2, e2, hb2, hc2⟩ := RdS.at hrd (k := j) (by omega)
              subst e2
              have hlt9 : j < xr.length := by omega
              have HYB := Lib.hid (hrv (xr.getD j 0) (getD_mem' hlt9 0))
              have HYE := Lib.hid (show (fun x : List Int => (p - x.getD j 0) % p) xr = (p - xr.getD j 0) % p from by rfl)
              have hrlI : (j : Int) < (xr.length : Int) := by omega
              have hjI : (j : Int) < (r : Int) := by omega
              generalize hy : xr.getD j 0 = y at hc2 HYB HYE
              clear hy
              obtain ⟨z, HZ⟩ : ∃ z : Int, Hid (z = (p - y) % p) := ⟨_, Lib.hid rfl⟩
              generalize hxn : xr.length = nx at hrd hc1 hrl hrlI
              clear hrd hrl hrv hxn
              have hy0 := HYB.out.1
              have hy1 := HYB.out.2
              have hbr2 : b2 < wr.heap.size := by omega
              have hc2d : wr.drew.cell? ⟨b2, o2 + j, none⟩ = some (.int .i64 y) := hc2
              have hc2a : ∀ o, (wr.alloc o).drew.cell? ⟨b2, o2 + j, none⟩ = some (.int .i64 y) := fun o => (World.cell?_of_block (w := wr) (blk_alloc_lt wr o _ hbr2)).trans hc2
              have HGS := Lib.hid (show j < (G.set j (R.map (fun x : List Int => x.getD (l + j) 0) ++ (S.take k).map (fun x : List Int => (p - x.getD j 0) % p))).length by rw [List.length_set]; exact HGL.out)
              have HGE := Lib.hid (show (G.set j (R.map (fun x : List Int => x.getD (l + j) 0) ++ (S.take k).map (fun x : List Int => (p - x.getD j 0) % p))).getD j [] = R.map (fun x : List Int => x.getD (l + j) 0) ++ (S.take k).map (fun x : List Int => (p - x.getD j 0) % p) by rw [set_getD _ _ _ _ _ HGL.out, if_pos rfl])
              have HXL := Lib.hid (show (R.map (fun x : List Int => x.getD (l + j) 0) ++ (S.take k).map (fun x : List Int => (p - x.getD j 0) % p)).length ≤ 2000 by simp; omega)
              have HSS := Lib.hid (fun zs => (show (G.set j (R.map (fun x : List Int => x.getD (l + j) 0) ++ (S.take k).map (fun x : List Int => (p - x.getD j 0) % p))).set j zs = G.set j zs from List.set_set ..))
              have HNY := Lib.hid (show R.map (fun x : List Int => x.getD (l + j) 0) ++ (S.take (k + 1)).map (fun x : List Int => (p - x.getD j 0) % p) = (R.map (fun x : List Int => x.getD (l + j) 0) ++ (S.take k).map (fun x : List Int => (p - x.getD j 0) % p)) ++ [z] from by rw [HNX.out, HYE.out, HZ.out, List.append_assoc])
              have hg0 := HG1.out.cell HGS.out
              have HROW := Lib.hid (HG1.out.row j HGS.out)
              rw [HGE.out] at HROW
              generalize hu0 : vs.getD j Value.nilFunc = u0 at hg0 HROW
              have HU0 := Lib.hid hu0
              clear hu0
              generalize R.map (fun x : List Int => x.getD (l + j) 0) ++ (S.take k).map (fun x : List Int => (p - x.getD j 0) % p) = xs at HG1 HGS HROW HXL HSS HNY
              have hxl := HXL.out
              have hgd0 : wr.drew.cell? ⟨W.heap.size, j, none⟩ = some u0 := hg0
              have hga0 : ∀ o, (wr.alloc o).drew.cell? ⟨W.heap.size, j, none⟩ = some u0 := fun o => (World.cell?_of_block (w := wr) (blk_alloc_lt wr o _ HG1.out.outer.lt)).trans hg0
              have HGA := Lib.hid (show GrO (wr.alloc (.cells #[.int .i64 z] 3)).drew W.heap.size W.heap.size vs (G.set j xs) from (HG1.out.alloc _).drew)
              have HRA := Lib.hid (show RowA (wr.alloc (.cells #[.int .i64 z] 3)).drew W.heap.size u0 xs from RowA.below HROW.out ((Below.refl _ _).alloc (Nat.le_refl _) _).drew)
              have HCY := Lib.hid (show (wr.alloc (.cells #[.int .i64 z] 3)).drew.cell? ⟨wr.heap.size, 0, none⟩ = some (.int .i64 z) from ((cellsAt_new wr #[.int .i64 z] 3).drew.cell (i := 0) (by simp)).trans (by simp))
              have HBA := Lib.hid (show Below W.heap.size W (wr.alloc (.cells #[.int .i64 z] 3)).drew from HB1.out.trans ((Below.refl wr.heap.size wr).alloc (Nat.le_refl _) _ |>.drew |>.mono HB1.out.size))
              clear hx1 hx2 hxf0 hxf1 hxf2 hxs
              go_wp2
              go_region_law
                (first
                  | (go_simp; go_at_call 24; refine (fdNeg_any p y _ hp1 hp2 hy0 hy1).mono ?_; rintro e w' ⟨he, rfl⟩; rw [← HZ.out] at he; subst he)
                  | (refine step_pushRow (by rfl) _ _ (by rfl) (wr.alloc (.cells #[.int .i64 z] 3)).drew W.heap.size u0 xs z wr.heap.size 1 (by rfl) HRA.out (by rfl) HCY.out HBA.out.size (by omega) ?_; intro g9 cap9 w9 ho9 hgr9 hat9; have HO9 := Lib.hid ho9; have HAT := Lib.hid hat9; have HBG := Lib.hid (Below.grown HBA.out hgr9 HBA.out.size (fun q hq => (World.ownsRow.lt HRA.out q hq).1)); have HC9 := Lib.hid (HGA.out.outer.of_block (hgr9.block _ HGA.out.outer.lt (fun e => HGA.out.off j HGS.out (by rw [HU0.out]; exact e.symm)))); have hc9 : w9.cell? ⟨W.heap.size, j, none⟩ = some u0 := ((HC9.out.cell (by rw [HGA.out.len]; exact HGS.out)).trans (getD_some (by rw [HGA.out.len]; exact HGS.out) .nilFunc)).trans (by rw [HU0.out]); have hf9 := HC9.out.frozen j; have HGR := Lib.hid hgr9; clear ho9 hgr9 hat9)
                  | fail)
              all_goals (try go_wp2)
              all_goals go_roundw
              all_goals first
                | exact ⟨k + 1, _, by omega, by go_num, Lib.hid (HBG.out.setCell (by dsimp only; omega) _), Lib.hid (by
                    have h := HGA.out.push HGS.out HO9.out (by rw [HU0.out]; exact HGR.out) (by rw [HU0.out]; exact HAT.out)
                    rw [HSS.out, ← HNY.out] at h
                    exact h)⟩
                | (simp [intOf]; omega)
            · have HEND := Lib.hid (show S.take k = S from List.take_of_length_le (by omega))
              rw [HEND.out] at HG1
              go_wp2
              go_roundw
              case rel => exact ⟨j + 1, vs, by omega, by go_num, HB1, Lib.hid (by rw [← HUS.out]; exact HG1.out)⟩
              case measure => simp [intOf]; omega
    · have HEJ := Lib.hid (show upd (fun i _ => cmpC p l R S i) j (List.replicate r []) = cmpN p l r R S from by rw [show j = r by omega]; exact cmpN_upd)
      rw [HEJ.out] at HG
      have HXr := Lib.hid (HX0.out.below HBW.out HX0.out.lt)
      have HMr := Lib.hid (HM0.out.below HBW.out HM0.out.lt)
      have HYr := Lib.hid (HY0.out.below HBW.out HY0.out.lt)
      obtain ⟨hx0, hx1, hx2, hxf0, hxf1, hxf2, hxs⟩ := HXr.out.three
      obtain ⟨hm0, hm1, hm2, hmf0, hmf1, hmf2, hms⟩ := HMr.out.three
      have HSV := Lib.hid (show RdG wr wr.heap.size (.slice (some ⟨W.heap.size, 0, none⟩) r r) (cmpN p l r R S) from by
        have h := HG.out.read r (by simp [cmpN])
        rwa [show (cmpN p l r R S).length = r by simp [cmpN]] at h)
      have HNM := Lib.hid (show Mat p r (R.length + S.length) (cmpN p l r R S) from cmpN_mat hp1 HRM.out HSM.out)
      have HNC := Lib.hid (show ((R.length : Int) + (S.length : Int)) = ((R.length + S.length : Nat) : Int) by omega)
      clear hx0 hx1 hx2 hxf0 hxf1 hxf2 hxs hm0 hm1 hm2 hmf0 hmf1 hmf2 hms
      obtain ⟨hx0, hx1, hx2, hxf0, hxf1, hxf2, hxs⟩ := HXr.out.three
      obtain ⟨hm0, hm1, hm2, hmf0, hmf1, hmf2, hms⟩ := HMr.out.three
      go_wp2_with fail
      rw [HNC.out]
      refine (spNull_any wr wr.heap.size _ p r (R.length + S.length) (cmpN p l r R S) HSV.out (Nat.le_refl _) HF.out HNM.out (by omega) (by omega)).mono ?_
      rintro e w2 ⟨v2, rfl, b2, o2⟩
      obtain ⟨A3, c3, rfl⟩ := OwG.len o2
      have HX2 := Lib.hid (HXr.out.below b2 HXr.out.lt)
      have HM2 := Lib.hid (HMr.out.below b2 HMr.out.lt)
      have HY2 := Lib.hid (HYr.out.below b2 HYr.out.lt)
      have HW2 := Lib.hid (HBW.out.trans (b2.mono HBW.out.size))
      have HK2 := Lib.hid (OwG.readB o2)
      have HKV := Lib.hid (fun k (hk : k < (nullB p (cmpN p l r R S) (R.length + S.length)).length) => (show Vec p (R.length + S.length) ((nullB p (cmpN p l r R S) (R.length + S.length)).getD k []) from nullB_vec' HF.out (getD_mem' hk [])))
      have HKL := Lib.hid (show (nullB p (cmpN p l r R S) (R.length + S.length)).length ≤ 2000 from by have h := nullB_le (c := R.length + S.length) HF.out (cmpN p l r R S); omega)
      have hsW2 : W.heap.size ≤ w2.heap.size := HW2.out.size
      clear b2 o2 hx0 hx1 hx2 hxf0 hxf1 hxf2 hxs hm0 hm1 hm2 hmf0 hmf1 hmf2 hms HXr HMr HYr HG HBW HSV
      generalize hKe : (nullB p (cmpN p l r R S) (R.length + S.length)) = Ks at HK2 HKV HKL ⊢
      have HKE := Lib.hid hKe
      clear hKe
      have hkn := HKL.out
      obtain ⟨hx0, hx1, hx2, hxf0, hxf1, hxf2, hxs⟩ := HX2.out.three
      obtain ⟨hm0, hm1, hm2, hmf0, hmf1, hmf2, hms⟩ := HM2.out.three
      go_wp2
      clear hx0 hx1 hx2 hxf0 hxf1 hxf2 hxs hm0 hm1 hm2 hmf0 hmf1 hmf2 hms
      go_loopw [87, 14, 16, 17, 18] (fun ti o _ _ _ wr => ∃ (i : Nat) (vs : List Value), i ≤ Ks.length ∧ ti = .int .i64 i ∧ Hid (Below w2.heap.size w2 wr) ∧ Hid (GridB wr w2.heap.size o vs ((Ks.take i).map (cmpF p l r r2 R S)))) (fun ti _ _ _ _ _ => Ks.length - (intOf ti).toNat)
      case atStart => exact ⟨0, [], Nat.zero_le _, rfl, Lib.hid (Below.refl _ _), Lib.hid (by rw [List.take_zero, List.map_nil]; exact GridB.nil _ _)⟩
      case round =>
        obtain ⟨i, vs, hi, rfl, HB5, HG5⟩ := hrel
        by_cases hlt3 : i < Ks.length
        · obtain ⟨b1, o1, A4, c4, rfl, hb1, hc1, hrd⟩ := (HK2.out.below HB5.out (Nat.le_refl _)).at hlt3
          have hkv := HKV.out i hlt3
          have HNX := Lib.hid (show (Ks.take (i + 1)).map (cmpF p l r r2 R S) = (Ks.take i).map (cmpF p l r r2 R S) ++ [cmpF p l r r2 R S (Ks.getD i [])] from by rw [take_one hlt3 [], List.map_append]; rfl)
          have hcap : (Ks.getD i []).length ≤ c4 := by
            obtain ⟨A', c', e, kc, _⟩ := hrd
            obtain ⟨-, -, rfl⟩ := sliceEq e
            exact kc
          have HX5 := Lib.hid (HX2.out.below HB5.out HX2.out.lt)
          have HM5 := Lib.hid (HM2.out.below HB5.out HM2.out.lt)
          generalize Ks.getD i [] = kr at hc1 hrd hkv HNX hcap
          have hkl : kr.length = R.length + S.length := hkv.1
          have HRD := Lib.hid hrd
          have hnaI : (R.length : Int) ≤ (kr.length : Int) := by omega
          have hncI : (kr.length : Int) ≤ (c4 : Int) := by omega
          have hnacI : (R.length : Int) ≤ (c4 : Int) := by omega
          have hkl2 : R.length ≤ kr.length := by omega
          have hkn2 : kr.length ≤ 2000 := by omega
          have HT := Lib.hid (show Vec p R.length (kr.take R.length) from ⟨by rw [List.length_take]; omega, fun x hx => hkv.2 x (List.mem_of_mem_take hx)⟩)
          have HD := Lib.hid (show Vec p S.length (kr.drop R.length) from ⟨by rw [List.length_drop]; omega, fun x hx => hkv.2 x (List.mem_of_mem_drop hx)⟩)
          have hs2 : w2.heap.size ≤ wr.heap.size := HB5.out.size
          have HKT := Lib.hid (show RdS wr (fun q => q < wr.heap.size) (.slice A4 R.length c4) (kr.take R.length) from (rdS_take HRD.out hkl2).mono fun q hq => by omega)
          have HAr := Lib.hid (show RdG wr wr.heap.size (.slice A1 R.length c1) R from ((HA.out.below (HW2.out.trans (HB5.out.mono HW2.out.size)) hB0).mono (by omega)))
          have HSr := Lib.hid (show RdG wr wr.heap.size (.slice A2 S.length c2) S from ((HS.out.below (HW2.out.trans (HB5.out.mono HW2.out.size)) hB0).mono (by omega)))
          obtain ⟨hx0, hx1, hx2, hxf0, hxf1, hxf2, hxs⟩ := HX5.out.three
          obtain ⟨hm0, hm1, hm2, hmf0, hmf1, hmf2, hms⟩ := HM5.out.three
          have HELD : Hid (∀ w' : World, Hid (Stp wr w') → w'.cell? ⟨w.heap.size, 0, none⟩ = some (.int .i64 l) ∧ w'.cell? ⟨w.heap.size, 2, none⟩ = some (.slice A1 R.length c1) ∧ w'.cell? ⟨w.heap.size + 1, 1, none⟩ = some (.int .i64 r2) ∧ w'.cell? ⟨w.heap.size + 1, 2, none⟩ = some (.slice A2 S.length c2) ∧ Hid (Stp wr w')) := Lib.hid (fun w' H => ⟨(H.out.cell (p := ⟨w.heap.size, 0, none⟩) hxs).trans hx0, (H.out.cell (p := ⟨w.heap.size, 2, none⟩) hxs).trans hx2, (H.out.cell (p := ⟨w.heap.size + 1, 1, none⟩) hms).trans hm1, (H.out.cell (p := ⟨w.heap.size + 1, 2, none⟩) hms).trans hm2, H⟩)
          have HLR := Lib.hid (show ((l : Int) + (r : Int)) = ((l + r : Nat) : Int) by omega)
          have HRR := Lib.hid (show ((r : Int) + (r2 : Int)) = ((r + r2 : Nat) : Int) by omega)
          clear hrd hkv hb1 hx0 hx1 hx2 hxf0 hxf1 hxf2 hxs hm0 hm1 hm2 hmf0 hmf1 hmf2 hms
          have HKLN := Lib.hid hkl
          clear hkl
          generalize hnk : kr.length = nk at hc1 HRD hnaI hncI hkl2 hkn2 hcap HKLN
          have HNK := Lib.hid hnk
          clear hnk
          go_wp2
          go_region_held3 (fun w' => w'.cell? ⟨w.heap.size, 0, none⟩ = some (.int .i64 l) ∧ w'.cell? ⟨w.heap.size, 2, none⟩ = some (.slice A1 R.length c1) ∧ w'.cell? ⟨w.heap.size + 1, 1, none⟩ = some (.int .i64 r2) ∧ w'.cell? ⟨w.heap.size + 1, 2, none⟩ = some (.slice A2 S.length c2) ∧ Hid (Stp wr w'))
            (exact HELD.out _ (by first | assumption | (refine Lib.hid ?_; repeat' (first | exact Stp.refl _ | exact Hid.out (by assumption) | apply Stp.drew | apply Stp.alloc))))
            (first
              | (go_at_call 26; go_split_ands; rw [HLR.out]; refine (spSum_any _ wr.heap.size _ _ p (l + r) (kr.take R.length) R (HKT.out.below (Below.refl _ _).drew (Nat.le_refl _)) (HAr.out.below (Below.refl _ _).drew (Nat.le_refl _)) (Nat.le_refl _) hp1 hp2 (by omega) (by omega) HT.out.1 HT.out.2 HRM.out.2).mono ?_; rintro e w5 ⟨v5, rfl, b5, o5⟩; obtain ⟨A5, c5, rfl⟩ := OwR.len o5; have HS5 : Hid (Stp wr w5) := Lib.hid ((Below.refl _ _).drew.trans b5); have HO5 := Lib.hid (OwR.mono (T := fun q => wr.heap.size ≤ q ∧ q < w5.heap.size) o5 (fun q hq hl => ⟨hq, hl⟩)); clear b5 o5))
          obtain ⟨hx0, hx2, hm1, hm2, -⟩ := HELD.out w5 HS5
          have HKD := Lib.hid (show RdS w5 (fun q => q < w5.heap.size) (.slice A4 nk c4) kr from RdS.stpB (HRD.out.mono (fun q hq => (by omega : q < wr.heap.size))) (Nat.le_refl _) HS5.out)
          have HA5 := Lib.hid (HSr.out.below HS5.out (Nat.le_refl _))
          have hsr5 : wr.heap.size ≤ w5.heap.size := HS5.out.size
          have hxl5 := vmul_len (p := p) (l + r) (kr.take R.length) R
          have hxc5 : (vmul p (l + r) (kr.take R.length) R).length ≤ c5 := by
            obtain ⟨A', c', e, kc, _⟩ := HO5.out
            obtain ⟨-, -, rfl⟩ := sliceEq e
            exact kc
          generalize hX : vmul p (l + r) (kr.take R.length) R = X at HO5 hxl5 hxc5
          have HX := Lib.hid hX
          clear hX
          have hlX : l ≤ X.length := by omega
          have hlXI : (l : Int) ≤ (X.length : Int) := by omega
          have hXcI : (X.length : Int) ≤ (c5 : Int) := by omega
          have HXL := Lib.hid hxl5
          clear hxl5
          generalize hnX : X.length = nX at hlX hlXI hXcI hxc5 HXL
          have HNX5 := Lib.hid hnX
          clear hnX
          obtain ⟨A4d, hA4d⟩ : ∃ A', (if c4 = R.length then A4 else Option.map (fun x => x.add R.length) A4) = A' := ⟨_, rfl⟩
          have HKC := Lib.hid (rdS_cut (m := R.length) HKD.out hkl2)
          rw [hA4d] at HKC
          go_wp2
          go_region_held3 (fun w' => w'.cell? ⟨w.heap.size, 0, none⟩ = some (.int .i64 l) ∧ w'.cell? ⟨w.heap.size, 2, none⟩ = some (.slice A1 R.length c1) ∧ w'.cell? ⟨w.heap.size + 1, 1, none⟩ = some (.int .i64 r2) ∧ w'.cell? ⟨w.heap.size + 1, 2, none⟩ = some (.slice A2 S.length c2) ∧ Hid (Stp wr w'))
            (exact HELD.out _ (by first | assumption | (refine Lib.hid ?_; repeat' (first | exact Stp.refl _ | exact Hid.out (by assumption) | apply Stp.drew | apply Stp.alloc))))
            (first
              | (go_at_call 26; go_split_ands; rw [HRR.out]; refine (spSum_any _ w5.heap.size _ _ p (r + r2) (kr.drop R.length) S (HKC.out.below (Below.refl _ _).drew (Nat.le_refl _)) ((HA5.out.mono hsr5).below (Below.refl _ _).drew (Nat.le_refl _)) (Nat.le_refl _) hp1 hp2 (by omega) (by omega) HD.out.1 HD.out.2 HSM.out.2).mono ?_; rintro e w6 ⟨v6, rfl, b6, o6⟩; obtain ⟨A6, c6, rfl⟩ := OwR.len o6; have HB56 : Hid (Below w5.heap.size w5 w6) := Lib.hid ((Below.refl _ _).drew.trans b6); have HS6 : Hid (Stp wr w6) := Lib.hid (HS5.out.trans HB56.out); have HO6 := Lib.hid (OwR.mono (T := fun q => wr.heap.size ≤ q ∧ q < w6.heap.size) o6 (fun q hq hl => ⟨Nat.le_trans hsr5 hq, hl⟩)); clear b6 o6))
          obtain ⟨hx0, hx2, hm1, hm2, -⟩ := HELD.out w6 HS6
          have hsr6 : wr.heap.size ≤ w6.heap.size := HS6.out.size
          have hs56 : w5.heap.size ≤ w6.heap.size := HB56.out.size
          have hxl6 := vmul_len (p := p) (r + r2) (kr.drop R.length) S
          have hxc6 : (vmul p (r + r2) (kr.drop R.length) S).length ≤ c6 := by
            obtain ⟨A', c', e, kc, _⟩ := HO6.out
            obtain ⟨-, -, rfl⟩ := sliceEq e
            exact kc
          generalize hZ : vmul p (r + r2) (kr.drop R.length) S = Z at HO6 hxl6 hxc6
          have HZ := Lib.hid hZ
          clear hZ
          have hlZ : r ≤ Z.length := by omega
          have hlZI : (r : Int) ≤ (Z.length : Int) := by omega
          have hZcI : (Z.length : Int) ≤ (c6 : Int) := by omega
          have hZn : Z.length ≤ 1000 := by omega
          have HX5r := Lib.hid (show RdS w6 (fun q => q < w6.heap.size) (.slice A5 nX c5) X from by have h := RdS.stpB HO5.out.readB (Nat.le_refl _) HB56.out; rwa [HNX5.out] at h)
          have HTX := Lib.hid (show RdS w6 (fun q => q < w6.heap.size) (.slice A5 l c5) (X.take l) from rdS_take HX5r.out (by rw [HNX5.out]; exact hlX))
          clear hA4d
          obtain ⟨A6d, hA6d⟩ : ∃ A', (if c6 = r then A6 else Option.map (fun x => x.add r) A6) = A' := ⟨_, rfl⟩
          have HTZ := Lib.hid (rdS_cut (m := r) HO6.out.readB hlZ)
          rw [hA6d] at HTZ
          have hlen1 : (X.take l).length ≤ 1000000 := by rw [List.length_take]; omega
          have hlen2 : (X.take l).length + (Z.drop r).length ≤ 1000000 := by rw [List.length_take, List.length_drop]; omega
          have HCF := Lib.hid (show cmpF p l r r2 R S kr = X.take l ++ Z.drop r from by unfold cmpF; rw [HX.out, HZ.out])
          rw [HCF.out] at HNX
          have hpn : ((Ks.take i).map (cmpF p l r r2 R S)).length + 1 ≤ 1000000 := by rw [List.length_map, List.length_take]; omega
          generalize (Ks.take i).map (cmpF p l r r2 R S) = ps at HG5 HNX hpn
          generalize hnZ : Z.length = nZ at hlZ hlZI hZcI hxc6 hxl6 HO6 HTZ hZn
          have hxw : w.heap.size < wr.heap.size := by omega
          have hxw6 : w.heap.size < w6.heap.size := by omega
          have hlc5 : (l : Int) ≤ (c5 : Int) := by omega
          have HELD2 : Hid (∀ w' : World, w'.heap[w.heap.size]? = w6.heap[w.heap.size]? → w'.cell? ⟨w.heap.size, 0, none⟩ = some (.int .i64 l)) := Lib.hid (fun w' H => (World.cell?_of_block (w := w6) H).trans hx0)
          have HQ0 : Hid (w6.drew.heap[w.heap.size]? = w6.heap[w.heap.size]?) := Lib.hid rfl
          clear hx0 hx2 hm1 hm2 hxl6 HELD hnZ
          go_wp2
          go_region_held3 (fun w' => w'.cell? ⟨w.heap.size, 0, none⟩ = some (.int .i64 l))
            (first | with_reducible exact HELD2.out _ HQ0.out | with_reducible exact HELD2.out _ HQ1.out | with_reducible exact HELD2.out _ HQ2.out | with_reducible exact HELD2.out _ HQ3.out | with_reducible exact HELD2.out _ HQ4.out)
            (first
              | (go_at_call 27; go_split_ands; refine (l1Own_app w6.drew w6.heap.size _ (X.take l) (HTX.out.below (Below.refl _ _).drew (Nat.le_refl _)) (Nat.le_refl _) hlen1).mono ?_; rintro e w7 ⟨v7, rfl, b7, o7⟩; have HB7 : Hid (Below w6.heap.size w6 w7) := Lib.hid ((Below.refl _ _).drew.trans b7); have HQ1 : Hid (w7.heap[w.heap.size]? = w6.heap[w.heap.size]?) := Lib.hid (HB7.out.block _ hxw6); have HO7 := Lib.hid (show RowA w7 w6.heap.size v7 (X.take l) from o7); have HT7 := Lib.hid (HTZ.out.below HB7.out (Nat.le_refl _)); have hs7 : w6.heap.size ≤ w7.heap.size := HB7.out.size; clear b7 o7)
              | (refine step_joinR (by rfl) _ _ (by rfl) w7 w6.heap.size v7 (X.take l) (Z.drop r) _ _ _ _ (by rfl) HO7.out (by rfl) HT7.out hs7 hlen2 ?_; intro v8 w8 hj8 hb8; have HB8 : Hid (Below w6.heap.size w6 w8) := Lib.hid (HB7.out.trans hb8); have HQ2 : Hid (w8.heap[w.heap.size]? = w6.heap[w.heap.size]?) := Lib.hid (HB8.out.block _ hxw6); obtain ⟨A8, n8, c8, rfl⟩ := rdS_sl hj8.read; have hs8 : w6.heap.size ≤ w8.heap.size := HB8.out.size; have HAl : Hid (Below w8.heap.size w8 (w8.alloc (.cells #[.slice A8 n8 c8] 40))) := Lib.hid ((Below.refl _ _).alloc (Nat.le_refl _) _); have HB9 : Hid (Below w6.heap.size w6 (w8.alloc (.cells #[.slice A8 n8 c8] 40))) := Lib.hid (HB8.out.trans (HAl.out.mono hs8)); have HQ3 : Hid ((w8.alloc (.cells #[.slice A8 n8 c8] 40)).heap[w.heap.size]? = w6.heap[w.heap.size]?) := Lib.hid (HB9.out.block _ hxw6); have HB9r : Hid (Below wr.heap.size wr (w8.alloc (.cells #[.slice A8 n8 c8] 40))) := Lib.hid (Below.trans HS6.out (HB9.out.mono hsr6)); have HG9 := Lib.hid (HG5.out.below HB9r.out); have HU9 := Lib.hid ((hj8.below HAl.out).own.mono (T := fun q => wr.heap.size ≤ q ∧ q < (w8.alloc (.cells #[.slice A8 n8 c8] 40)).heap.size) (fun q h1 h2 => ⟨Nat.le_trans hsr6 h1, h2⟩)); have HC9 := Lib.hid (show (w8.alloc (.cells #[.slice A8 n8 c8] 40)).cell? ⟨w8.heap.size, 0, none⟩ = some (.slice A8 n8 c8) from by have hc := (cellsAt_new w8 #[.slice A8 n8 c8] 40).cell (i := 0) (by simp); rw [hc]; rfl); have hs9 : wr.heap.size ≤ (w8.alloc (.cells #[.slice A8 n8 c8] 40)).heap.size := HB9r.out.size; clear hj8 hb8)
              | (refine step_pushG (by rfl) _ _ (by rfl) (w8.alloc (.cells #[.slice A8 n8 c8] 40)) w2.heap.size wr.heap.size _ vs ps w8.heap.size 1 A8 n8 c8 (X.take l ++ Z.drop r) (by rfl) HG9.out (by rfl) HC9.out HU9.out hs2 hs9 hpn ?_; intro v4 vs4 w4 hg4 hb4; have HB4 : Hid (Below w2.heap.size w2 w4) := Lib.hid (HB5.out.trans ((HB9r.out.mono hs2).trans hb4)); have HQ4 : Hid (w4.heap[w.heap.size]? = w6.heap[w.heap.size]?) := Lib.hid ((hb4.block _ (by omega)).trans HQ3.out); have HG4 := Lib.hid hg4; clear hg4 hb4))
          go_wp2
          go_roundw
          case rel => exact ⟨i + 1, vs4, by omega, by go_num, HB4, Lib.hid (by rw [HNX.out]; exact HG4.out)⟩
          case measure => simp [intOf]; omega
        · have HKK := Lib.hid (show Ks.take i = Ks from List.take_of_length_le (by omega))
          rw [HKK.out] at HG5
          have HRG := Lib.hid (OwG.readB HG5.out.own)
          have hsB : w2.heap.size ≤ wr.heap.size := HB5.out.size
          have HX5 := Lib.hid (HX2.out.below HB5.out HX2.out.lt)
          have HM5 := Lib.hid (HM2.out.below HB5.out HM2.out.lt)
          have HY5 := Lib.hid (HY2.out.below HB5.out HY2.out.lt)
          have HOE := Lib.hid (show Ks.map (cmpF p l r r2 R S) = cmpO p l r r2 R S from by unfold cmpO; rw [HKE.out])
          rw [HOE.out] at HRG
          have HMT := Lib.hid (cmpO_mat (la := l) (m := r) (rb := r2) HF.out HRM.out HSM.out)
          have hol : (cmpO p l r r2 R S).length ≤ 1000000 := by rw [← HOE.out, List.length_map]; omega
          obtain ⟨hx0, hx1, hx2, hxf0, hxf1, hxf2, hxs⟩ := HX5.out.three
          obtain ⟨hm0, hm1, hm2, hmf0, hmf1, hmf2, hms⟩ := HM5.out.three
          go_wp2_with fail
          refine (rlOf_any wr wr.heap.size _ p (cmpO p l r r2 R S).length l r2 (cmpO p l r r2 R S) HRG.out (Nat.le_refl _) HF.out HMT.out hol (by omega)).mono ?_
          rintro e w4 ⟨v4, rfl, b4, o4⟩
          obtain ⟨A4, c4, rfl⟩ := OwG.len o4
          have HB4 := Lib.hid (HB5.out.trans (b4.mono hsB))
          have HO4 := Lib.hid (OwG.mono (T := fun q => w2.heap.size ≤ q) o4 (fun q hq _ => Nat.le_trans hsB hq))
          have HY4 := Lib.hid (HY5.out.below b4 HY5.out.lt)
          clear b4 o4 hx0 hx1 hx2 hxf0 hxf1 hxf2 hxs hm0 hm1 hm2 hmf0 hmf1 hmf2 hms
          obtain ⟨hy0, hy1, hy2, hyf0, hyf1, hyf2, hys⟩ := HY4.out.three
          have HBE := Lib.hid (HVB.out.trans ((HW2.out.trans (HB4.out.mono hsW2)).mono HVB.out.size))
          go_wp2
          refine bodyPost_ret (v := .agg #[.int .i64 l, .int .i64 r2, .slice A4 (rref p (cmpO p l r r2 R S) (l + r2)).length c4]) (by simp [results, Tryd.results13, go_sem, hy0, hy1, hy2]) rfl ?_
          refine ⟨_, rfl, (by refine Below.trans HBE.out ?_; repeat' (first | exact Below.refl _ _ | apply Below.drew | apply Below.setCell | apply Below.alloc | (simp; done) | omega | (simp; omega))), (HO4.out.blocks (fun q hq _ => ?_)).mono (fun q hq _ => by omega)⟩
          repeat rw [blk_setCell_other _ _ _ _ (by dsimp only; omega)]
end Go.Proofs.YtdjgkcnhmfkjoaaDoor
