/- The model's operations on rows, and its copy of a matrix. -/
import Derived.Test.YtgncgihneemmcaaDoorSlc
import Derived.Test.YtgncgihneemmcaaDoorRed
import Derived.Test.YtgncgihneemmcaaDoorMxMul2
import Derived.StillTailTactics
namespace Go.Proofs.YtgncgihneemmcaaDoor
set_option maxRecDepth 100000
open Go Go.RowKit Go.Deep

set_option maxHeartbeats 800000 in
theorem mxScale_any (w : World) (T : Nat → Prop) (v : Value) (p k : Int) (xs : List Int) (h1 : 2 ≤ p) (h2 : p ≤ 97) (ho : OwR w tI T v xs) (hn : xs.length ≤ 1000000) (hb : ∀ x, x ∈ xs → 0 ≤ x ∧ x < p) (hk0 : 0 ≤ k) (hk1 : k < p) :
    Calls Tryd.prog 93 #[.int .i64 p, v, .int .i64 k] w (Wrote w T v (scale p k xs)) := by
  obtain ⟨A, c, rfl⟩ := ho.len
  have HO := Lib.hid ho
  have HB := Lib.hid hb
  clear ho hb
  go_enter Tryd.func93, Tryd.ntmps93
  go_wp2
  go_loopw [9, 6] (fun i _ wr => ∃ j : Nat, j ≤ xs.length ∧ i = .int .i64 j ∧ Hid (Touch T w wr) ∧ Hid (OwR wr tI T (.slice A xs.length c) (upd (fun _ x => k * x % p) j xs))) (fun i _ _ => xs.length - (intOf i).toNat)
  case atStart => exact ⟨0, Nat.zero_le _, rfl, Lib.hid (Touch.refl _ _), Lib.hid (by rw [upd_zero]; exact HO.out)⟩
  case round =>
    obtain ⟨j, hj, rfl, HT, HR⟩ := hrel
    by_cases hlt : j < xs.length
    · obtain ⟨b1, c1, e1, hb1, hs1, hc1, hf1, hset⟩ := HR.out.at (j := j) (by rw [upd_len]; exact hlt)
      rw [upd_len] at e1
      obtain ⟨rfl, rfl⟩ : A = some ⟨b1, 0, none⟩ ∧ c = c1 := by simpa using e1
      have HSET := Lib.hid hset
      have HT1 := Lib.hid hb1
      have HXV := Lib.hid (upd_getD (fun _ x => k * x % p) (Nat.le_refl j) xs 0)
      rw [HXV.out] at hc1
      have hy := HB.out _ (getD_mem' hlt 0)
      clear hset hb1 e1
      generalize xs.getD j 0 = y at hc1 hy HXV
      obtain ⟨hy0, hy1⟩ := hy
      have hjI : (j : Int) < (xs.length : Int) := by omega
      go_wp2_with fail
      refine (fdMul_any p y k _ h1 h2 hy0 hy1 hk0 hk1).mono ?_
      rintro e w2 ⟨rfl, rfl⟩
      go_wp2
      go_roundw
      case rel => exact ⟨j + 1, by omega, by go_num, Lib.hid (HT.out.setCell (Or.inl HT1.out) _), Lib.hid (by
        rw [← upd_put _ hlt 0, HXV.out, Int.mul_comm k y]
        exact HSET.out (y * k % p))⟩
      case measure => simp [intOf]; omega
    · go_wp2
      go_end0
      refine ⟨rfl, HT.out, ?_⟩
      have := HR.out
      rw [upd_all _ (by omega)] at this
      exact this
theorem fdSub_any (p a b : Int) (w : World) (h1 : 2 ≤ p) (h2 : p ≤ 97) (a1 : 0 ≤ a) (a2 : a < p) (b1 : 0 ≤ b) (b2 : b < p) : Calls Tryd.prog 112 #[.int .i64 p, .int .i64 a, .int .i64 b] w fun e w' => e = .returned (.int .i64 ((a + p - b) % p)) ∧ w = w' := by
  have HE := Lib.hid (show (a - b) % p = (a + p - b) % p by rw [show a + p - b = a - b + p by omega, Int.add_emod_right])
  go_enter Tryd.func112, Tryd.ntmps112
  go_wp2
  go_ret
  exact ⟨by first | rfl | rw [HE.out], rfl⟩
theorem fdNeg_any (p a : Int) (w : World) (h1 : 2 ≤ p) (h2 : p ≤ 97) (a1 : 0 ≤ a) (a2 : a < p) : Calls Tryd.prog 91 #[.int .i64 p, .int .i64 a] w fun e w' => e = .returned (.int .i64 ((p - a) % p)) ∧ w = w' := by
  have HE := Lib.hid (show -a % p = (p - a) % p by rw [show p - a = -a + p by omega, Int.add_emod_right])
  go_enter Tryd.func91, Tryd.ntmps91
  go_wp2
  go_ret
  exact ⟨by first | rfl | rw [HE.out], rfl⟩
theorem less_eq {p k x y : Int} (hk0 : 0 < k) (hk1 : k < p) : (x + p - k * y % p) % p = (x + (p - k) % p * y) % p := by
  obtain ⟨q, hq⟩ := div_mod p (k * y)
  rw [Int.emod_eq_of_lt (a := p - k) (by omega) (by omega), hq]
  rw [show x + p - (k * y + p * q) = (x + (p - k) * y) + p * (1 - q - y) by grind, Int.add_mul_emod_self_left]
theorem less_eq2 {p k x y : Int} (hk0 : 0 < k) (hk1 : k < p) : (x + p - k * y) % p = (x + (p - k) % p * y) % p := by
  rw [Int.emod_eq_of_lt (a := p - k) (by omega) (by omega)]
  rw [show x + p - k * y = (x + (p - k) * y) + p * (1 - y) by grind, Int.add_mul_emod_self_left]
set_option maxHeartbeats 1600000 in
set_option maxRecDepth 100000 in
theorem mxLess_any (w : World) (T : Nat → Prop) (v u : Value) (p k : Int) (xs ys : List Int) (h1 : 2 ≤ p) (h2 : p ≤ 97) (ho : OwR w tI T v xs) (hs : RdS w (fun b => ¬ T b) u ys) (hl : ys.length = xs.length) (hn : xs.length ≤ 1000000) (hb : ∀ x, x ∈ xs → 0 ≤ x ∧ x < p) (hb2 : ∀ x, x ∈ ys → 0 ≤ x ∧ x < p) (hk0 : 0 < k) (hk1 : k < p) :
    Calls Tryd.prog 95 #[.int .i64 p, v, u, .int .i64 k] w (Wrote w T v (axpy p xs ((p - k) % p) ys)) := by
  obtain ⟨A, c, rfl⟩ := ho.len
  obtain ⟨A2, c2, rfl, hsc⟩ := hs
  have HS := Lib.hid (show RdS w (fun b => ¬ T b) (.slice A2 ys.length c2) ys from ⟨A2, c2, rfl, hsc⟩)
  have HO := Lib.hid ho
  have HB := Lib.hid hb
  have HB2 := Lib.hid hb2
  have HL := Lib.hid hl
  clear ho hb hb2 hsc hl
  go_enter Tryd.func95, Tryd.ntmps95
  go_wp2
  go_loopw [11, 8] (fun i _ wr => ∃ j : Nat, j ≤ xs.length ∧ i = .int .i64 j ∧ Hid (Touch T w wr) ∧ Hid (OwR wr tI T (.slice A xs.length c) (upd (fun j x => (x + (p - k) % p * ys.getD j 0) % p) j xs))) (fun i _ _ => xs.length - (intOf i).toNat)
  case atStart => exact ⟨0, Nat.zero_le _, rfl, Lib.hid (Touch.refl _ _), Lib.hid (by rw [upd_zero]; exact HO.out)⟩
  case round =>
    obtain ⟨j, hj, rfl, HT, HR⟩ := hrel
    by_cases hlt : j < xs.length
    · have HLT2 := Lib.hid (show j < ys.length by rw [HL.out]; exact hlt)
      obtain ⟨b0, o0, rfl, hb0, hc0⟩ := (HS.out.touch HT.out (fun _ h => h)).at HLT2.out
      obtain ⟨b1, c1, e1, hb1, hs1, hc1, hf1, hset⟩ := HR.out.at (j := j) (by rw [upd_len]; exact hlt)
      rw [upd_len] at e1
      obtain ⟨rfl, rfl⟩ : A = some ⟨b1, 0, none⟩ ∧ c = c1 := by simpa using e1
      have HSET := Lib.hid hset
      have HT1 := Lib.hid hb1
      have HXV := Lib.hid (upd_getD (fun j x => (x + (p - k) % p * ys.getD j 0) % p) (Nat.le_refl j) xs 0)
      rw [HXV.out] at hc1
      have hx := HB.out _ (getD_mem' hlt 0)
      have hy := HB2.out _ (getD_mem' HLT2.out 0)
      have HNX := Lib.hid (upd_put (fun j x => (x + (p - k) % p * ys.getD j 0) % p) hlt 0)
      rw [HXV.out] at HNX
      clear hset hb1 hb0 e1
      generalize ys.getD j 0 = y at hc0 hy HNX
      generalize xs.getD j 0 = x at hc1 hx HXV HNX
      obtain ⟨hx0, hx1⟩ := hx
      obtain ⟨hy0, hy1⟩ := hy
      have hjI : (j : Int) < (xs.length : Int) := by omega
      have hjI2 : (j : Int) < (ys.length : Int) := by have := HLT2.out; omega
      have hmb := emod_bd h1 (k * y)
      go_wp2
      go_still_tail 16, (by kernel_rfl)
      still_call ((fdMul_any p k y _ h1 h2 (by omega) hk1 hy0 hy1).mono fun _ _ h => ⟨h.1, h.2.symm⟩)
      still_call ((fdSub_any p x (k * y % p) _ h1 h2 hx0 hx1 hmb.1 hmb.2).mono fun _ _ h => ⟨h.1, h.2.symm⟩)
      repeat still_step
      refine wpStill_nil ?_
      change wpList _ _ _ _ _ wr.drew
      go_wp2
      go_roundw
      case rel => exact ⟨j + 1, by omega, by go_num, Lib.hid ((HT.out.setCell (Or.inl HT1.out) _).drew), Lib.hid (by
        rw [← HNX.out]
        have h := HSET.out ((x + p - k * y % p) % p)
        rw [less_eq hk0 hk1] at h
        rw [less_eq2 hk0 hk1]
        exact OwR.blocks h (fun _ _ _ _ _ => rfl))⟩
      case measure => simp [intOf]; omega
    · go_wp2
      go_end0
      refine ⟨rfl, HT.out, ?_⟩
      have := HR.out
      rw [upd_all _ (by omega)] at this
      exact this
set_option maxHeartbeats 1600000 in
set_option maxRecDepth 100000 in
theorem mxCopy_any (w : World) (B : Nat) (va : Value) (c : Int) (a : List (List Int)) (hva : RdG w B va a) (hB : B ≤ w.heap.size) (hn : a.length ≤ 1000000) (hr : ∀ r, r < a.length → (a.getD r []).length ≤ 1000000) :
    Calls Tryd.prog 89 #[.agg #[.int .i64 c, va]] w (MadeM w c a) := by
  obtain ⟨i0, hi0, hz0, hz1, hz2⟩ := info_parts infoR
  obtain ⟨Aa, cca, rfl⟩ := hva.len
  have HVA := Lib.hid hva
  have HB := Lib.hid hB
  have HMA := Lib.hid hr
  clear hva hB hr
  go_enter Tryd.func89, Tryd.ntmps89
  go_wp2
  go_loopw [12, 5] (fun i _ wr => ∃ (k : Nat) (v : Value) (vs : List Value), k ≤ a.length ∧ i = .int .i64 k ∧ Hid (Below w.heap.size w wr) ∧ Hid (CellsAt wr (w.heap.size + 1) tM [.int .i64 0, .slice none 0 0]) ∧ Hid (CellsAt wr (w.heap.size + 1 + 1) tM [.int .i64 c, v]) ∧ Hid (GridA wr tI tR (fun q => w.heap.size + 3 ≤ q) v vs (a.take k))) (fun i _ _ => a.length - (intOf i).toNat)
  case atStart => exact ⟨0, .slice none 0 0, [], Nat.zero_le _, rfl, Lib.hid (by repeat' (first | exact Below.refl _ _ | apply Below.drew | apply Below.setCell | apply Below.alloc | (simp; done) | (simp; omega))), Lib.hid ((cellsAt_new' _ _ _ _ _ (by simp) rfl).alloc _), Lib.hid (cellsAt_new' _ _ _ _ _ (by simp) rfl), Lib.hid (by rw [List.take_zero]; exact GridA.nil _ _ _ _)⟩
  case round =>
    obtain ⟨k, v, vs, hk, rfl, HB2, HR, HO, HG⟩ := hrel
    obtain ⟨ho0, ho1, hof0, hof1, hos⟩ := HO.out.two
    by_cases hlt : k < a.length
    · obtain ⟨b1, o1, A3, c3, rfl, hb1, hc1, hrd⟩ := (HVA.out.below HB2.out HB.out).at hlt
      have HRD := Lib.hid hrd
      have HMK := Lib.hid (HMA.out _ hlt)
      have HNX := Lib.hid (show a.take (k + 1) = a.take k ++ [a.getD k []] by rw [List.take_add_one, List.getElem?_eq_getElem hlt, List.getD_eq_getElem?_getD, List.getElem?_eq_getElem hlt]; rfl)
      have HLV := Lib.hid (show vs.length = k by have := HG.out.len; rw [List.length_take] at this; omega)
      have HOB := Lib.hid (show v.ownBlock ≠ some (w.heap.size + 1 + 1) from fun e => by have := HG.out.inS _ e; omega)
      clear hrd hb1
      generalize hx : a.getD k [] = xr at hc1 HRD HMK HNX
      clear hx
      have hBr : B ≤ wr.heap.size := by have := HB.out; have := HB2.out.size; omega
      have HCALL : Hid (Calls Tryd.prog 102 #[.slice A3 xr.length c3] wr.drew (MadeR wr.drew xr)) :=
        Lib.hid (l1Own_any wr.drew B _ xr (show RdS wr.drew (fun b => b < B) (.slice A3 xr.length c3) xr from HRD.out) hBr HMK.out)
      go_wp2
      go_region_law
        (first
          | (refine step_append_lies _ (by rfl) _ _ _ (by rfl) 0 37 i0 _ 1 24 Tryd.underlying22 hi0 hz0 hz1 hz2 rfl (by omega) v vs.length vs (by rfl) ((HG2.out.blocks (w' := w2.alloc _) (fun k hk hl => blk_alloc_lt _ _ _ hl)).outer) ⟨w2.heap.size, 0, none⟩ 1 1 [.slice A2 xr.length c2] (by rfl) (by rfl) (World.news_of_block (cs := #[.slice A2 xr.length c2]) (t := 37) (fr := (0, 0)) (heap_alloc_new w2 _)) (by simp [Value.oneCell']) (by omega) (by rw [HLV.out]; unfold maxLen; omega) (by rw [HLV.out]; omega) (Nat.zero_le _) (w2.heap.size + 1) (by simp) ?_; intro gg cap w3 hown1 hgrow hat hlt3; have HQ3 : Hid (∀ q, q < w.heap.size + 3 → w3.heap[q]? = wr.heap[q]?) := Lib.hid (fun q hq => (hgrow.block q (show q < (w2.alloc _).heap.size by rw [nblk_alloc]; omega) (fun e => by have := HG.out.inS q e.symm; omega)).trans ((blk_alloc_lt _ _ _ (by omega)).trans (HQ2.out q hq))); have HO3 : Hid (CellsAt w3 (w.heap.size + 1 + 1) tM [.int .i64 c, v]) := Lib.hid (HO.out.of_block (HQ3.out _ (by omega))); have ho1c := HO3.out.two.2.1; have hof3 := HO3.out.frozen 1; have hos3 := HO3.out.lt)
          | (go_simp; go_at_call 102; refine HCALL.out.mono ?_; rintro e w2 ⟨v2, rfl, b2, o2⟩; obtain ⟨A2, c2, rfl⟩ := o2.len; have hs2 : wr.heap.size ≤ w2.heap.size := b2.size; have HQ2 : Hid (∀ q, q < w.heap.size + 3 → w2.heap[q]? = wr.heap[q]?) := Lib.hid (fun q hq => b2.block q (show q < wr.heap.size by omega)); have HO2 : Hid (CellsAt w2 (w.heap.size + 1 + 1) tM [.int .i64 c, v]) := Lib.hid (HO.out.of_block (HQ2.out _ (by omega))); have ho1b := HO2.out.two.2.1; have hos2 := HO2.out.lt; have HG2 := Lib.hid ((HG.out.mono (T := fun q => w.heap.size + 3 ≤ q ∧ q < wr.heap.size) (fun q h1 h2 => ⟨h1, h2⟩)).blocks (w' := w2) (fun q hq _ => b2.block q hq.2))))
      all_goals
        have HLT := Lib.hid hlt
        clear HCALL
        have hbl : Below w.heap.size w (w2.alloc (.cells #[.slice A2 xr.length c2] 37)) := ((HB2.out.drew).trans (b2.mono HB2.out.size)).alloc (by have := HB2.out.size; omega) _
        have HB3 := Lib.hid (hbl.grown hgrow (by simp; have := HB2.out.size; omega) (fun q hq => by have := HG.out.inS q hq; omega))
        have HP := Lib.hid (((HG2.out.blocks (w' := w2.alloc (.cells #[.slice A2 xr.length c2] 37)) (fun q hq hl => blk_alloc_lt _ _ _ hl))).push ((o2.blocks (w' := w2.alloc (.cells #[.slice A2 xr.length c2] 37)) (fun q hq hl _ _ => blk_alloc_lt _ _ _ hl)).mono (T := fun q => wr.heap.size ≤ q ∧ q < w2.heap.size + 1) (fun q hq hl => ⟨hq, by simpa using hl⟩)) (fun q h1 h2 => by omega) hown1 hgrow (by simpa using hat))
        have HZ3 := Lib.hid (show w.heap.size + 3 ≤ w3.heap.size by have := HO3.out.lt; omega)
        clear hown1 hgrow b2 o2 hat hbl
        go_wp2
        go_roundw
      all_goals first
        | exact ⟨k + 1, _, _, by omega, by go_num, Lib.hid (HB3.out.setCell (by show w.heap.size ≤ w.heap.size + 1 + 1; omega) _), Lib.hid ((HR.out.of_block (HQ3.out _ (by omega))).setOther (by dsimp only; omega) _), Lib.hid (HO3.out.set 1 _), Lib.hid (by
            rw [HNX.out]
            refine (HP.out.mono (T := fun q => w.heap.size + 3 ≤ q) (fun q hq _ => ?_)).blocks (fun q hq _ => blk_setCell_other _ _ _ _ (by dsimp only; omega))
            simp at hq
            omega)⟩
        | (simp [intOf]; have := HLT.out; omega)
    · obtain ⟨Av, cpv, rfl⟩ := HG.out.form
      obtain ⟨hr0, hr1, hrf0, hrf1, hrs⟩ := HR.out.two
      go_wp2
      refine bodyPost_ret (v := .agg #[.int .i64 c, .slice Av (a.take k).length cpv]) (by simp [results, Tryd.results89, go_sem, hr0, hr1, Nat.min_eq_left hk]) rfl ?_
      have h := HG.out.toOwG
      have e : a.take k = a := List.take_of_length_le (by omega)
      rw [e] at h ⊢
      refine ⟨_, rfl, (by refine Below.trans HB2.out ?_; repeat' (first | exact Below.refl _ _ | apply Below.drew | apply Below.setCell | apply Below.alloc | (simp; done) | (simp; omega))), ?_⟩
      refine (h.blocks (fun q h _ => ?_)).mono (fun q h _ => by omega)
      rw [blk_setCell_other _ _ _ _ (by simp; omega), blk_setCell_other _ _ _ _ (by simp; omega)]
end Go.Proofs.YtgncgihneemmcaaDoor
