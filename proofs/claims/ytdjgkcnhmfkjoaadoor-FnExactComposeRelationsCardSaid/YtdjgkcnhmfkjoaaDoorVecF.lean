/- Linear combinations, coordinates, and whether a space has a vector: the model's side. -/
import Derived.Test.YtdjgkcnhmfkjoaaDoorMath
import Derived.Test.YtdjgkcnhmfkjoaaDoorSpNull
import Derived.Test.YtdjgkcnhmfkjoaaDoorSpG
import Derived.StillTailTactics
namespace Go.Proofs.YtdjgkcnhmfkjoaaDoor
set_option maxRecDepth 100000
open Go Go.RowKit Go.Deep

set_option maxHeartbeats 1600000 in
set_option maxRecDepth 100000 in
theorem spSum_any (w : World) (B : Nat) (v u : Value) (p : Int) (c : Nat) (fs : List Int) (rows : List (List Int)) (hv : RdS w (fun b => b < B) v fs) (hu : RdG w B u rows) (hB : B ≤ w.heap.size) (h1 : 2 ≤ p) (h2 : p ≤ 97) (hc : c ≤ 1000000) (hn : rows.length ≤ 1000000)
    (hl : fs.length = rows.length) (hf : ∀ x, x ∈ fs → 0 ≤ x ∧ x < p) (hm : ∀ r, r ∈ rows → r.length = c ∧ ∀ x, x ∈ r → 0 ≤ x ∧ x < p) :
    Calls Tryd.prog 26 #[.int .i64 p, .int .i64 c, u, v] w (MadeR w (vmul p c fs rows)) := by
  have hmk := make_ints c (by omega)
  obtain ⟨A, cv, rfl, kc_cv, hv'⟩ := hv
  obtain ⟨Au, cu, rfl⟩ := hu.len
  have HV := Lib.hid (show RdS w (fun b => b < B) (.slice A fs.length cv) fs from ⟨A, cv, rfl, kc_cv, hv'⟩)
  have HU := Lib.hid hu
  have HB := Lib.hid hB
  have HL := Lib.hid hl
  have HF := Lib.hid hf
  have HM := Lib.hid hm
  clear hv' hu hB hl hf hm
  go_enter Tryd.func26, Tryd.ntmps26
  go_wp2
  go_loopw [18, 10, 11, 12, 13, 23, 24, 25] (fun i _ _ _ _ _ _ _ wr => ∃ (k : Nat) (acc : List Int), k ≤ rows.length ∧ i = .int .i64 k ∧ Hid (Below w.heap.size w wr) ∧ Hid (acc.length = c) ∧ Hid (∀ x, x ∈ acc → 0 ≤ x ∧ x < p) ∧ Hid (comb p acc (fs.drop k) (rows.drop k) = vmul p c fs rows) ∧ Hid (OwR wr tI (fun b => b = w.heap.size) (.slice (some ⟨w.heap.size, 0, none⟩) c c) acc)) (fun i _ _ _ _ _ _ _ _ => rows.length - (intOf i).toNat)
  case atStart => exact ⟨0, List.replicate c 0, Nat.zero_le _, rfl, Lib.hid ((Below.refl _ _).alloc (Nat.le_refl _) _), Lib.hid (by simp), Lib.hid (zeros_bd h1 c), Lib.hid (by rw [List.drop_zero, List.drop_zero]; rfl), Lib.hid (owR_at (S := fun b => b = w.heap.size) rfl (made_ints w c) (by rw [List.length_replicate]))⟩
  case round =>
    obtain ⟨k, acc, hk, rfl, HB2, HA, HE, HC, HO⟩ := hrel
    by_cases hlt : k < rows.length
    · have HK := Lib.hid (show k < fs.length by have := HL.out; omega)
      obtain ⟨b, o, rfl, hb, hc1⟩ := (HV.out.below HB2.out HB.out).at HK.out
      obtain ⟨b2, o2, A3, c3, rfl, hb2, hc2, hrd⟩ := (HU.out.below HB2.out HB.out).at hlt
      have HBV := Lib.hid hb
      have hkf : (k : Int) < (fs.length : Int) := by have := HK.out; omega
      have HRD := Lib.hid hrd
      have hz := HF.out _ (getD_mem' HK.out 0)
      have HZ := Lib.hid (show comb p (axpy p acc (fs.getD k 0) (rows.getD k [])) (fs.drop (k + 1)) (rows.drop (k + 1)) = vmul p c fs rows by rw [← comb_step HK.out hlt]; exact HC.out)
      have HMK := Lib.hid (HM.out _ (getD_mem' hlt []))
      clear hrd hb hb2
      generalize fs.getD k 0 = z at hc1 hz HZ
      generalize rows.getD k [] = xr at hc2 HRD HZ HMK
      obtain ⟨hz0, hz1⟩ := hz
      generalize wr = W at *
      go_wp2
      go_loopw [25, 12, 13] (fun i _ _ w4 => ∃ j : Nat, j ≤ xr.length ∧ i = .int .i64 j ∧ Hid (Below w.heap.size w w4) ∧ w4.cell? ⟨b, o + k, none⟩ = some (.int .i64 z) ∧ Hid (RdS w4 (fun b => b < B) (.slice A3 xr.length c3) xr) ∧ Hid (OwR w4 tI (fun b => b = w.heap.size) (.slice (some ⟨w.heap.size, 0, none⟩) c c) (upd (fun j x => (x + z * xr.getD j 0) % p) j acc))) (fun i _ _ _ => xr.length - (intOf i).toNat)
      case atStart => exact ⟨0, Nat.zero_le _, rfl, HB2, hc1, HRD, Lib.hid (by rw [upd_zero]; exact HO.out)⟩
      case round =>
        obtain ⟨j, hj, rfl, HB4, hc4, HRD4, HO4⟩ := hrel
        by_cases hlt2 : j < xr.length
        · have HJC := Lib.hid (show j < c by rw [← HMK.out.1]; exact hlt2)
          obtain ⟨b5, o5, rfl, hb5, hc5⟩ := HRD4.out.at (k := j) hlt2
          obtain ⟨b6, c6, e6, hb6, hs6, hc6, hf6, hset⟩ := HO4.out.at (j := j) (by rw [upd_len, HA.out]; exact HJC.out)
          rw [upd_len, HA.out] at e6
          obtain ⟨e7, -, -⟩ := sliceEq e6
          obtain rfl : w.heap.size = b6 := by injection e7 with e7; injection e7
          have HXV := Lib.hid (upd_getD (fun j x => (x + z * xr.getD j 0) % p) (Nat.le_refl j) acc 0)
          rw [HXV.out] at hc6
          have hy := HE.out _ (getD_mem' (show j < acc.length by rw [HA.out]; exact HJC.out) 0)
          have hx := HMK.out.2 _ (getD_mem' hlt2 0)
          have HSET := Lib.hid hset
          have HB5 := Lib.hid hb5
          have HG := Lib.hid (show ((acc.getD j 0) + z * xr.getD j 0) % p = (fun j x => (x + z * xr.getD j 0) % p) j (acc.getD j 0) from rfl)
          have hjc : (j : Int) < (c : Int) := by have := HJC.out; omega
          clear hset e6 e7 hb6 hb5
          generalize xr.getD j 0 = x at hc5 hx HG
          generalize acc.getD j 0 = y at hc6 hy HG HXV
          obtain ⟨hy0, hy1⟩ := hy
          obtain ⟨hx0, hx1⟩ := hx
          have hm0 : 0 ≤ z * x := Int.mul_nonneg hz0 hx0
          have hm1 : z * x ≤ 97 * 97 := Int.mul_le_mul (by omega) (by omega) hx0 (by omega)
          have hp0 : ¬ p = 0 := by omega
          have hw1 : IntKind.i64.wrap (z * x) = z * x := Go.IntWalk.i64_in _ ⟨by omega, by omega⟩
          have hw2 : IntKind.i64.wrap (y + z * x) = y + z * x := Go.IntWalk.i64_in _ ⟨by omega, by omega⟩
          have htm : (y + z * x).tmod p = (y + z * x) % p := Int.tmod_eq_emod_of_nonneg (by omega)
          go_wp2
          go_still_tail 16, (by kernel_rfl)
          clear hw1 hw2 htm
          change wpList _ _ _ _ _ wr.drew
          go_wp2
          go_roundw
          case rel => exact ⟨j + 1, by omega, by go_num, Lib.hid ((HB4.out.setCell (Nat.le_refl _) _).drew), ((World.cell?_of_block (w := wr) (blk_setCell_other _ _ _ _ (by have := HB.out; have := HBV.out; simp; omega))).trans hc4), Lib.hid (HRD4.out.blocks (fun q hq => blk_setCell_other _ _ _ _ (by have := HB.out; simp; omega))), Lib.hid (by
            have h := HSET.out ((y + z * x) % p)
            rw [← upd_put _ (by rw [HA.out]; exact HJC.out) 0, HXV.out, ← HG.out]
            exact h.drew)⟩
          case measure => simp [intOf]; omega
        · go_wp2
          go_roundw
          case rel => exact ⟨k + 1, _, by omega, by go_num, HB4, Lib.hid (by rw [axpy_len]; exact HA.out), Lib.hid (axpy_bd h1), HZ, Lib.hid (by
            have := HO4.out
            rw [upd_all _ (by rw [HA.out, ← HMK.out.1]; omega)] at this
            exact this)⟩
          case measure => simp [intOf]; omega
    · have HZ := Lib.hid (show acc = vmul p c fs rows by rw [← HC.out, comb_end (by have := HL.out; omega)])
      go_wp2
      go_ret
      refine ⟨_, rfl, HB2.out, ?_⟩
      rw [← HZ.out]
      exact HO.out.mono (fun q hq _ => by omega)
/-! ### Coordinates -/
theorem coords_take {R : List (List Int)} {v : List Int} {k : Nat} (h : k < R.length) : coords (R.take (k + 1)) v = coords (R.take k) v ++ [v.getD (lead0 (R.getD k [])) 0] := by
  have e : R.take (k + 1) = R.take k ++ [R.getD k []] := by
    rw [List.take_add_one, List.getElem?_eq_getElem h, List.getD_eq_getElem?_getD, List.getElem?_eq_getElem h]
    rfl
  rw [e]
  unfold coords
  rw [List.map_append]
  rfl
theorem icells_snoc (xs : List Int) (x : Int) : icells (xs ++ [x]) = icells xs ++ [.int .i64 x] := by simp [icells]
/-- A row of ints that grew by append. -/
def RowA (w : World) (B : Nat) (v : Value) (xs : List Int) : Prop := w.ownsRow B tI 1 v xs.length (icells xs)
theorem RowA.own {w : World} {B : Nat} {v : Value} {xs : List Int} (h : RowA w B v xs) : OwR w tI (fun b => B ≤ b) v xs := owR_of_owns h (fun k hk => (World.ownsRow.lt h k hk).1)
end Go.Proofs.YtdjgkcnhmfkjoaaDoor
