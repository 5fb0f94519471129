/- Pairs exchanged: the model's helper. -/
import Derived.Test.YtpoghbdomknfcaaDoorCnvI
import Derived.Test.YtpoghbdomknfcaaDoorPushG
namespace Go.Proofs.YtpoghbdomknfcaaDoor
set_option maxRecDepth 100000
open Go Go.RowKit Go.Deep

theorem pexs_take {l k : Nat} {R : List (List Int)} (h : k < R.length) : pexs l (R.take (k + 1)) = pexs l (R.take k) ++ [pex l (R.getD k [])] := by
  rw [take_one h []]
  unfold pexs
  rw [List.map_append]
  rfl
set_option maxRecDepth 100000 in
set_option maxHeartbeats 3200000 in
theorem rlConverse_any (w : World) (B : Nat) (v : Value) (p : Int) (l r : Nat) (R : List (List Int)) (hv : RdG w B v R) (hB : B ≤ w.heap.size) (hf : fld p = true) (hR : Mat p R.length (l + r) R) (hn : R.length ≤ 1000) (hlr : l + r ≤ 1000) :
    Calls Tryd.prog 94 #[.int .i64 p, .agg #[.int .i64 l, .int .i64 r, v]] w (MadeRl w r l (rref p (pexs l R) (r + l))) := by
  obtain ⟨A, cp, rfl⟩ := hv.len
  have HVB := Lib.hid (show Below w.heap.size w ((w.alloc (.cells #[.int .i64 l, .int .i64 r, .slice A R.length cp] tRl)).alloc (.cells #[.int .i64 0, .int .i64 0, .slice none 0 0] tRl)) by repeat' (first | exact Below.refl _ _ | apply Below.alloc | (simp; done) | (simp; omega)))
  have HV := Lib.hid (hv.below HVB.out hB)
  have hB0 : B ≤ ((w.alloc (.cells #[.int .i64 l, .int .i64 r, .slice A R.length cp] tRl)).alloc (.cells #[.int .i64 0, .int .i64 0, .slice none 0 0] tRl)).heap.size := Nat.le_trans hB HVB.out.size
  have HX0 := Lib.hid ((cellsAt_new w #[.int .i64 l, .int .i64 r, .slice A R.length cp] tRl).alloc (.cells #[.int .i64 0, .int .i64 0, .slice none 0 0] tRl))
  have HY0 := Lib.hid (cellsAt_new' (w.alloc (.cells #[.int .i64 l, .int .i64 r, .slice A R.length cp] tRl)) #[.int .i64 0, .int .i64 0, .slice none 0 0] tRl _ (w.heap.size + 1) (by simp) rfl)
  have hsz0 : ((w.alloc (.cells #[.int .i64 l, .int .i64 r, .slice A R.length cp] tRl)).alloc (.cells #[.int .i64 0, .int .i64 0, .slice none 0 0] tRl)).heap.size = w.heap.size + 2 := by simp
  have HF := Lib.hid hf
  have HRL := Lib.hid (fun j (hj : j < R.length) => (hR.row hj).1)
  have HM := Lib.hid (pexs_mat hR)
  clear hv hB hf hR
  go_enter Tryd.func94, Tryd.ntmps94
  go_upto_region 1 with fail
  generalize ((w.alloc (.cells #[.int .i64 l, .int .i64 r, .slice A R.length cp] tRl)).alloc (.cells #[.int .i64 0, .int .i64 0, .slice none 0 0] tRl)) = W at HVB HV hB0 HX0 HY0 hsz0 ⊢
  have hW1 : w.heap.size + 2 ≤ W.heap.size := by omega
  clear hsz0
  obtain ⟨hx0, hx1, hx2, hxf0, hxf1, hxf2, hxs⟩ := HX0.out.three
  go_wp2
  clear hx0 hx1 hx2 hxf0 hxf1 hxf2 hxs
  go_loopw [11, 5, 7] (fun i o _ wr => ∃ (k : Nat) (vs : List Value), k ≤ R.length ∧ i = .int .i64 k ∧ Hid (Below W.heap.size W wr) ∧ Hid (GridB wr W.heap.size o vs (pexs l (R.take k)))) (fun i _ _ _ => R.length - (intOf i).toNat)
  case atStart => exact ⟨0, [], Nat.zero_le _, rfl, Lib.hid (Below.refl _ _), Lib.hid (GridB.nil _ _)⟩
  case round =>
    obtain ⟨k, vs, hk, rfl, HB2, HG⟩ := hrel
    by_cases hlt : k < R.length
    · obtain ⟨b1, o1, A3, c3, rfl, hb1, hc1, hrd⟩ := (HV.out.below HB2.out hB0).at hlt
      have hrl := HRL.out k hlt
      have hcap : (R.getD k []).length ≤ c3 := by
        obtain ⟨A', c', e, kc, _⟩ := hrd
        obtain ⟨-, -, rfl⟩ := sliceEq e
        exact kc
      have HRD := Lib.hid hrd
      have HNX := Lib.hid (pexs_take (l := l) hlt)
      have hpn : (pexs l (R.take k)).length + 1 ≤ 1000000 := by rw [pexs_len, List.length_take]; omega
      have hkI : (k : Int) < (R.length : Int) := by omega
      have hx0 := (HX0.out.below HB2.out (by have := HX0.out.lt; omega)).three.1
      have HELD : Hid (∀ w' : World, w'.heap[w.heap.size]? = wr.heap[w.heap.size]? → w'.cell? ⟨w.heap.size, 0, none⟩ = some (.int .i64 l)) := Lib.hid (fun w' H => (World.cell?_of_block (w := wr) H).trans hx0)
      have HQ0 : Hid (wr.drew.heap[w.heap.size]? = wr.heap[w.heap.size]?) := Lib.hid rfl
      have hBr : B ≤ wr.heap.size := Nat.le_trans hB0 HB2.out.size
      have hBD : B ≤ wr.drew.heap.size := hBr
      have hBW : W.heap.size ≤ wr.heap.size := HB2.out.size
      have hxW : w.heap.size < W.heap.size := by omega
      clear hrd hb1 hx0
      generalize R.getD k [] = xr at hc1 HRD HNX hrl hcap
      have hle : l ≤ xr.length := by omega
      have hxn : xr.length ≤ 1000 := by omega
      have hleI : (l : Int) ≤ (xr.length : Int) := by omega
      have hlcI : (l : Int) ≤ (c3 : Int) := by omega
      have hncI : (xr.length : Int) ≤ (c3 : Int) := by omega
      have HTK := Lib.hid (show RdS wr (fun b => b < B) (.slice A3 l c3) (xr.take l) from rdS_take HRD.out hle)
      have hlen1 : (xr.drop l).length ≤ 1000000 := by rw [List.length_drop]; omega
      have hlen2 : (xr.drop l).length + (xr.take l).length ≤ 1000000 := by rw [List.length_drop, List.length_take]; omega
      have hwr : w.heap.size < wr.heap.size := by omega
      generalize pexs l (R.take k) = ps at HG HNX hpn
      unfold pex at HNX
      by_cases hcf : c3 = l
      · clear hrl
        have hcf2 := hcf.symm
        clear hcf
        subst hcf2
        have HX0E := Lib.hid (show xr.drop l = [] from List.drop_eq_nil_of_le (by omega))
        have HD := Lib.hid (fun (nz cz : Nat) (h : nz = 0) => show RdS wr.drew (fun b => b < B) (.slice A3 nz cz) (xr.drop l) from by subst h; exact rdS_none HX0E.out)
        go_wp2
        go_region_held3 (fun w' => w'.cell? ⟨w.heap.size, 0, none⟩ = some (.int .i64 l))
          (first | with_reducible exact HELD.out _ HQ0.out | with_reducible exact HELD.out _ HQ1.out | with_reducible exact HELD.out _ HQ2.out | with_reducible exact HELD.out _ HQ3.out | with_reducible exact HELD.out _ HQ4.out)
          (first
            | (go_at_call 90; go_split_ands; refine (l1Own_app wr.drew B _ (xr.drop l) (HD.out _ _ (by first | rfl | omega)) hBD hlen1).mono ?_; rintro e w1 ⟨v1, rfl, b1, o1⟩; have HB1 : Hid (Below wr.heap.size wr w1) := Lib.hid ((Below.refl _ _).drew.trans b1); have HQ1 : Hid (w1.heap[w.heap.size]? = wr.heap[w.heap.size]?) := Lib.hid (HB1.out.block _ hwr); have HO1 := Lib.hid (show RowA w1 wr.heap.size v1 (xr.drop l) from o1); have HT1 := Lib.hid (HTK.out.below HB1.out hBr); have hs1 : wr.heap.size ≤ w1.heap.size := HB1.out.size; clear b1 o1)
            | (refine step_joinR (by rfl) _ _ (by rfl) w1 wr.heap.size v1 (xr.drop l) (xr.take l) _ A3 l l (by rfl) HO1.out (by rfl) HT1.out hs1 hlen2 ?_; intro v2 w2 hj2 hb2; have HB2' : Hid (Below wr.heap.size wr w2) := Lib.hid (HB1.out.trans hb2); have HQ2 : Hid (w2.heap[w.heap.size]? = wr.heap[w.heap.size]?) := Lib.hid (HB2'.out.block _ hwr); obtain ⟨A2, n2, c2, rfl⟩ := rdS_sl hj2.read; have hs2 : wr.heap.size ≤ w2.heap.size := HB2'.out.size; have HA : Hid (Below w2.heap.size w2 (w2.alloc (.cells #[.slice A2 n2 c2] 37))) := Lib.hid ((Below.refl _ _).alloc (Nat.le_refl _) _); have HB3 : Hid (Below wr.heap.size wr (w2.alloc (.cells #[.slice A2 n2 c2] 37))) := Lib.hid (HB2'.out.trans (HA.out.mono hs2)); have HQ3 : Hid ((w2.alloc (.cells #[.slice A2 n2 c2] 37)).heap[w.heap.size]? = wr.heap[w.heap.size]?) := Lib.hid (HB3.out.block _ hwr); have HG3 := Lib.hid (HG.out.below HB3.out); have HU3 := Lib.hid ((hj2.below HA.out).own.mono (T := fun q => wr.heap.size ≤ q ∧ q < (w2.alloc (.cells #[.slice A2 n2 c2] 37)).heap.size) (fun q h1 h2 => ⟨h1, h2⟩)); have HC3 := Lib.hid (show (w2.alloc (.cells #[.slice A2 n2 c2] 37)).cell? ⟨w2.heap.size, 0, none⟩ = some (.slice A2 n2 c2) from by have hc := (cellsAt_new w2 #[.slice A2 n2 c2] 37).cell (i := 0) (by simp); rw [hc]; rfl); have hs3 : wr.heap.size ≤ (w2.alloc (.cells #[.slice A2 n2 c2] 37)).heap.size := HB3.out.size; clear hj2 hb2)
            | (refine step_pushG (by rfl) _ _ (by rfl) (w2.alloc (.cells #[.slice A2 n2 c2] 37)) W.heap.size wr.heap.size _ vs ps w2.heap.size 1 A2 n2 c2 (xr.drop l ++ xr.take l) (by rfl) HG3.out (by rfl) HC3.out HU3.out hBW hs3 hpn ?_; intro v4 vs4 w4 hg4 hb4; have HB4 : Hid (Below W.heap.size W w4) := Lib.hid (HB2.out.trans ((HB3.out.mono hBW).trans hb4)); have HQ4 : Hid (w4.heap[w.heap.size]? = wr.heap[w.heap.size]?) := Lib.hid ((hb4.block _ hxW).trans HQ3.out); have HG4 := Lib.hid hg4; clear hg4 hb4))
        go_wp2
        go_roundw
        case rel => exact ⟨k + 1, vs4, by omega, by go_num, HB4, Lib.hid (by rw [HNX.out]; exact HG4.out)⟩
        case measure => simp [intOf]; omega
      · clear hrl
        have HD := Lib.hid (show RdS wr.drew (fun b => b < B) (.slice (A3.map (·.add l)) (xr.length - l) (c3 - l)) (xr.drop l) from rdS_drop HRD.out hle)
        go_wp2
        go_region_held3 (fun w' => w'.cell? ⟨w.heap.size, 0, none⟩ = some (.int .i64 l))
          (first | with_reducible exact HELD.out _ HQ0.out | with_reducible exact HELD.out _ HQ1.out | with_reducible exact HELD.out _ HQ2.out | with_reducible exact HELD.out _ HQ3.out | with_reducible exact HELD.out _ HQ4.out)
          (first
            | (go_at_call 90; go_split_ands; refine (l1Own_app wr.drew B _ (xr.drop l) HD.out hBD hlen1).mono ?_; rintro e w1 ⟨v1, rfl, b1, o1⟩; have HB1 : Hid (Below wr.heap.size wr w1) := Lib.hid ((Below.refl _ _).drew.trans b1); have HQ1 : Hid (w1.heap[w.heap.size]? = wr.heap[w.heap.size]?) := Lib.hid (HB1.out.block _ hwr); have HO1 := Lib.hid (show RowA w1 wr.heap.size v1 (xr.drop l) from o1); have HT1 := Lib.hid (HTK.out.below HB1.out hBr); have hs1 : wr.heap.size ≤ w1.heap.size := HB1.out.size; clear b1 o1)
            | (refine step_joinR (by rfl) _ _ (by rfl) w1 wr.heap.size v1 (xr.drop l) (xr.take l) _ A3 l c3 (by rfl) HO1.out (by rfl) HT1.out hs1 hlen2 ?_; intro v2 w2 hj2 hb2; have HB2' : Hid (Below wr.heap.size wr w2) := Lib.hid (HB1.out.trans hb2); have HQ2 : Hid (w2.heap[w.heap.size]? = wr.heap[w.heap.size]?) := Lib.hid (HB2'.out.block _ hwr); obtain ⟨A2, n2, c2, rfl⟩ := rdS_sl hj2.read; have hs2 : wr.heap.size ≤ w2.heap.size := HB2'.out.size; have HA : Hid (Below w2.heap.size w2 (w2.alloc (.cells #[.slice A2 n2 c2] 37))) := Lib.hid ((Below.refl _ _).alloc (Nat.le_refl _) _); have HB3 : Hid (Below wr.heap.size wr (w2.alloc (.cells #[.slice A2 n2 c2] 37))) := Lib.hid (HB2'.out.trans (HA.out.mono hs2)); have HQ3 : Hid ((w2.alloc (.cells #[.slice A2 n2 c2] 37)).heap[w.heap.size]? = wr.heap[w.heap.size]?) := Lib.hid (HB3.out.block _ hwr); have HG3 := Lib.hid (HG.out.below HB3.out); have HU3 := Lib.hid ((hj2.below HA.out).own.mono (T := fun q => wr.heap.size ≤ q ∧ q < (w2.alloc (.cells #[.slice A2 n2 c2] 37)).heap.size) (fun q h1 h2 => ⟨h1, h2⟩)); have HC3 := Lib.hid (show (w2.alloc (.cells #[.slice A2 n2 c2] 37)).cell? ⟨w2.heap.size, 0, none⟩ = some (.slice A2 n2 c2) from by have hc := (cellsAt_new w2 #[.slice A2 n2 c2] 37).cell (i := 0) (by simp); rw [hc]; rfl); have hs3 : wr.heap.size ≤ (w2.alloc (.cells #[.slice A2 n2 c2] 37)).heap.size := HB3.out.size; clear hj2 hb2)
            | (refine step_pushG (by rfl) _ _ (by rfl) (w2.alloc (.cells #[.slice A2 n2 c2] 37)) W.heap.size wr.heap.size _ vs ps w2.heap.size 1 A2 n2 c2 (xr.drop l ++ xr.take l) (by rfl) HG3.out (by rfl) HC3.out HU3.out hBW hs3 hpn ?_; intro v4 vs4 w4 hg4 hb4; have HB4 : Hid (Below W.heap.size W w4) := Lib.hid (HB2.out.trans ((HB3.out.mono hBW).trans hb4)); have HQ4 : Hid (w4.heap[w.heap.size]? = wr.heap[w.heap.size]?) := Lib.hid ((hb4.block _ hxW).trans HQ3.out); have HG4 := Lib.hid hg4; clear hg4 hb4))
        go_wp2
        go_roundw
        case rel => exact ⟨k + 1, vs4, by omega, by go_num, HB4, Lib.hid (by rw [HNX.out]; exact HG4.out)⟩
        case measure => simp [intOf]; omega
    · have HK := Lib.hid (show R.take k = R from List.take_of_length_le (by omega))
      rw [HK.out] at HG
      have HRG := Lib.hid (OwG.readB HG.out.own)
      have hB2 : W.heap.size ≤ wr.heap.size := HB2.out.size
      have hx := (HX0.out.below HB2.out (by have := HX0.out.lt; omega)).three
      obtain ⟨hx0, hx1, hx2, hxf0, hxf1, hxf2, hxs⟩ := hx
      go_wp2_with fail
      refine (rlOf_any wr wr.heap.size _ p R.length r l (pexs l R) HRG.out (Nat.le_refl _) HF.out HM.out (by omega) (by omega)).mono ?_
      rintro e w4 ⟨v4, rfl, b4, o4⟩
      obtain ⟨A4, c4, rfl⟩ := OwG.len o4
      have HB4 := Lib.hid (HB2.out.trans (b4.mono hB2))
      have HO4 := Lib.hid (OwG.mono (T := fun q => W.heap.size ≤ q) o4 (fun q hq _ => Nat.le_trans hB2 hq))
      have HY4 := Lib.hid (HY0.out.below HB4.out (by omega))
      clear b4 o4 hx0 hx1 hx2 hxf0 hxf1 hxf2 hxs
      obtain ⟨hy0, hy1, hy2, hyf0, hyf1, hyf2, hys⟩ := HY4.out.three
      have HBE := Lib.hid (HVB.out.trans (HB4.out.mono HVB.out.size))
      go_wp2
      refine bodyPost_ret (v := .agg #[.int .i64 r, .int .i64 l, .slice A4 (rref p (pexs l R) (r + l)).length c4]) (by simp [results, Tryd.results94, go_sem, hy0, hy1, hy2]) rfl ?_
      refine ⟨_, rfl, (by refine Below.trans HBE.out ?_; repeat' (first | exact Below.refl _ _ | apply Below.drew | apply Below.setCell | apply Below.alloc | (simp; done) | omega | (simp; omega))), (HO4.out.blocks (fun q hq _ => ?_)).mono (fun q hq _ => by omega)⟩
      repeat rw [blk_setCell_other _ _ _ _ (by dsimp only; omega)]
end Go.Proofs.YtpoghbdomknfcaaDoor
