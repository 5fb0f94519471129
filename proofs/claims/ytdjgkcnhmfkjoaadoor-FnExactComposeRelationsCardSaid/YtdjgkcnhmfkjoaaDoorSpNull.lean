/- The reduced list of a null space: the model's side. -/
import Derived.Test.YtdjgkcnhmfkjoaaDoorSpA
import Derived.Test.YtdjgkcnhmfkjoaaDoorMath
import Derived.Test.YtdjgkcnhmfkjoaaDoorMxB
import Derived.StillTailTactics
namespace Go.Proofs.YtdjgkcnhmfkjoaaDoor
set_option maxRecDepth 100000
open Go Go.RowKit Go.Deep

/-- Which row leads at each index, after the first k rows. -/
def leadL (c : Nat) (R : List (List Int)) : Nat → List Int
  | 0 => List.replicate c (-1)
  | k + 1 => (leadL c R k).set (lead0 (R.getD k [])) (k : Int)
theorem leadL_len (c : Nat) (R : List (List Int)) : ∀ k, (leadL c R k).length = c
  | 0 => by simp [leadL]
  | k + 1 => by unfold leadL; rw [List.length_set, leadL_len c R k]
theorem leadL_no {c : Nat} {R : List (List Int)} {j : Nat} (hj : j < c) : ∀ {k : Nat}, (∀ i, i < k → lead0 (R.getD i []) < c) → isLead R j k = false → (leadL c R k).getD j 0 = -1
  | 0, _, _ => by unfold leadL; rw [List.getD_eq_getElem?_getD]; simp [hj]
  | k + 1, hl, h => by
    simp only [isLead, Bool.or_eq_false_iff, decide_eq_false_iff_not] at h
    unfold leadL
    rw [set_getD _ _ _ _ _ (by rw [leadL_len]; exact hl k (by omega)), if_neg h.2]
    exact leadL_no hj (fun i hi => hl i (by omega)) h.1
theorem leadL_yes {c : Nat} {R : List (List Int)} {j : Nat} : ∀ {k : Nat}, (∀ i, i < k → lead0 (R.getD i []) < c) → isLead R j k = true → 0 ≤ (leadL c R k).getD j 0
  | 0, _, h => by cases h
  | k + 1, hl, h => by
    unfold leadL
    rw [set_getD _ _ _ _ _ (by rw [leadL_len]; exact hl k (by omega))]
    split
    · omega
    · rename_i hne
      simp only [isLead, Bool.or_eq_true, decide_eq_true_eq] at h
      exact leadL_yes (fun i hi => hl i (by omega)) (h.resolve_right hne)
set_option maxHeartbeats 400000 in
theorem spLead_any (w : World) (B : Nat) (v : Value) (xs : List Int) (hv : RdS w (fun b => b < B) v xs) (hl : xs.length ≤ 1000000) :
    Calls Tryd.prog 49 #[v] w fun e w' => e = .returned (.int .i64 (lead0 xs)) ∧ w = w' := by
  obtain ⟨A, c, rfl, kc_c, hv⟩ := hv
  have HV := Lib.hid hv
  clear hv
  go_enter Tryd.func49, Tryd.ntmps49
  go_wp2
  go_loop [3] (fun i => ∃ k : Nat, k ≤ xs.length ∧ i = .int .i64 k ∧ Hid (∀ j, j < k → xs.getD j 0 = 0)) (fun i => xs.length - (intOf i).toNat)
  case atStart => exact ⟨0, Nat.zero_le _, rfl, Lib.hid (fun j hj => absurd hj (Nat.not_lt_zero j))⟩
  case round =>
    obtain ⟨k, hk, rfl, HZ⟩ := hrel
    by_cases hlt : k < xs.length
    · obtain ⟨b, o, rfl, hbB, hc⟩ := HV.out k hlt
      generalize hx : xs.getD k 0 = x at hc
      have HX := Lib.hid hx
      clear hx
      have i1 : (k : Int) < xs.length := by omega
      by_cases hz : x = 0
      · have HZ0 := Lib.hid hz
        have hq : (x == 0) = true := by simp [hz]
        clear hz
        go_wp2
        go_round
        case rel => exact ⟨k + 1, by omega, by go_num, Lib.hid (fun j hj => by
          by_cases cj : j = k
          · rw [cj, HX.out]; exact HZ0.out
          · exact HZ.out j (by omega))⟩
        case measure => simp [intOf]; omega
      · have hq : (x == 0) = false := by simp [hz]
        have HL := Lib.hid (show lead0 xs = k from lead0_eq (by omega) (fun i hi => HZ.out i hi) (fun _ => by rw [HX.out]; exact hz))
        clear hz
        go_wp2
        go_ret
        rw [HL.out]
        exact ⟨rfl, rfl⟩
    · have HL := Lib.hid (show lead0 xs = k from lead0_eq hk (fun i hi => HZ.out i hi) (fun h => absurd h hlt))
      have hq : decide ((k : Int) < xs.length) = false := by simp; omega
      have hq2 : decide (k < xs.length) = false := by simp; omega
      go_wp2
      go_ret
      rw [HL.out]
      exact ⟨rfl, rfl⟩
set_option maxHeartbeats 3200000 in
set_option maxRecDepth 100000 in
theorem spNull_any (w : World) (B : Nat) (va : Value) (p : Int) (n c : Nat) (a : List (List Int)) (hva : RdG w B va a) (hB : B ≤ w.heap.size) (hf : fld p = true) (hM : Mat p n c a) (hn : n ≤ 1000000) (hc : c ≤ 1000000) :
    Calls Tryd.prog 25 #[.int .i64 p, .int .i64 c, va] w (MadeG w (nullB p a c)) := by
  obtain ⟨i0, hi0, hz0, hz1, hz2⟩ := info_parts infoR
  obtain ⟨h1, h2⟩ := fld_bd hf
  have hmk := make_ints c (by omega)
  obtain ⟨Aa, cca, rfl⟩ := hva.len
  have hred := rref_red hf hM
  rw [← rref_len hf hM] at hred
  have HRE := Lib.hid hred
  have hRc : (rref p a c).length ≤ c := rref_le hf hM
  have HNB := Lib.hid (show nullB p a c = rref p (nullRows p c (rref p a c) c) c from rfl)
  have HMM := Lib.hid (null_mid_mat hf (c := c) a)
  have HVA := Lib.hid hva
  have HB := Lib.hid hB
  have HM := Lib.hid hM
  have HF := Lib.hid hf
  clear hva hB hM hf hred
  go_enter Tryd.func25, Tryd.ntmps25
  go_wp2_with fail
  refine (spReduce_any w B _ p n c a HVA.out HB.out HF.out HM.out hn hc).mono ?_
  rintro e w1 ⟨v1, rfl, b1, o1⟩
  obtain ⟨A1, c1, rfl⟩ := OwG.len o1
  generalize rref p a c = R at o1 HRE hRc HMM HNB
  have HR := Lib.hid (OwG.readB o1)
  have HB1 := Lib.hid b1
  have hs1 : w.heap.size ≤ w1.heap.size := b1.size
  clear b1 o1
  go_wp2
  go_loopw [25, 9] (fun i _ wr => ∃ j : Nat, j ≤ c ∧ i = .int .i64 j ∧ Hid (Below w1.heap.size w1 wr) ∧ Hid (OwR wr tI (fun b => b = w1.heap.size) (.slice (some ⟨w1.heap.size, 0, none⟩) c c) (upd (fun _ _ => -1) j (List.replicate c 0)))) (fun i _ _ => c - (intOf i).toNat)
  case atStart => exact ⟨0, Nat.zero_le _, rfl, Lib.hid ((Below.refl _ _).alloc (Nat.le_refl _) _), Lib.hid (by rw [upd_zero]; exact owR_at (S := fun b => b = w1.heap.size) rfl (made_ints w1 c) (by rw [List.length_replicate]))⟩
  case round =>
    obtain ⟨j, hj, rfl, HB2, HO⟩ := hrel
    by_cases hlt : j < c
    · obtain ⟨b6, c6, e6, hb6, hs6, hc6, hf6, hset⟩ := HO.out.at (j := j) (by rw [upd_len, List.length_replicate]; exact hlt)
      rw [upd_len, List.length_replicate] at e6
      obtain ⟨e7, -, -⟩ := sliceEq e6
      obtain rfl : w1.heap.size = b6 := by injection e7 with e7; injection e7
      have HSET := Lib.hid (hset (-1))
      have hjI : (j : Int) < (c : Int) := by omega
      clear e6 e7 hb6 hset
      generalize (upd (fun _ _ => -1) j (List.replicate c (0 : Int))).getD j 0 = u6 at hc6
      go_wp2
      go_roundw
      case rel => exact ⟨j + 1, by omega, by go_num, Lib.hid (HB2.out.setCell (Nat.le_refl _) _), Lib.hid (by
        have := HSET.out
        rw [upd_step (fun _ _ => (-1 : Int)) (by rw [List.length_replicate]; exact hlt) 0] at this
        exact this)⟩
      case measure => simp [intOf]; omega
    · have HO2 := Lib.hid (show OwR wr tI (fun b => b = w1.heap.size) (.slice (some ⟨w1.heap.size, 0, none⟩) c c) (leadL c R 0) by
        have := HO.out
        rw [upd_all _ (by rw [List.length_replicate]; omega), upd_repl] at this
        exact this)
      clear HO
      go_wp2
      go_loopw [34, 10, 11] (fun i _ _ wr => ∃ k : Nat, k ≤ R.length ∧ i = .int .i64 k ∧ Hid (Below w1.heap.size w1 wr) ∧ Hid (OwR wr tI (fun b => b = w1.heap.size) (.slice (some ⟨w1.heap.size, 0, none⟩) c c) (leadL c R k))) (fun i _ _ _ => R.length - (intOf i).toNat)
      case atStart => exact ⟨0, Nat.zero_le _, rfl, HB2, HO2⟩
      case round =>
        obtain ⟨k, hk, rfl, HB3, HO3⟩ := hrel
        by_cases hltk : k < R.length
        · obtain ⟨b1, o1, A3, c3, rfl, hb1, hc1, hrd⟩ := (HR.out.below HB3.out (Nat.le_refl _)).at hltk
          have HRD := Lib.hid hrd
          have hle := HRE.out.lt k hltk
          have hxl := (HRE.out.mat.row hltk).1
          have HLS := Lib.hid (show leadL c R (k + 1) = (leadL c R k).set (lead0 (R.getD k [])) (k : Int) from rfl)
          clear hrd hb1
          generalize R.getD k [] = xr at hc1 HRD hle hxl HLS
          have HXL := Lib.hid hxl
          obtain ⟨b6, c6, e6, hb6, hs6, hc6, hf6, hset⟩ := HO3.out.at (j := lead0 xr) (by rw [leadL_len]; exact hle)
          rw [leadL_len] at e6
          obtain ⟨e7, -, -⟩ := sliceEq e6
          obtain rfl : w1.heap.size = b6 := by injection e7 with e7; injection e7
          have HSET := Lib.hid (hset (k : Int))
          have hleI : (lead0 xr : Int) < (c : Int) := by omega
          have hkI : (k : Int) < (R.length : Int) := by omega
          clear e6 e7 hb6 hset hxl
          generalize (leadL c R k).getD (lead0 xr) 0 = u6 at hc6
          go_wp2_with fail
          refine (spLead_any _ w1.heap.size _ xr HRD.out (by rw [HXL.out]; exact hc)).mono ?_
          rintro e w' ⟨rfl, rfl⟩
          generalize lead0 xr = q at HLS hle hc6 hf6 HSET hleI
          go_wp2
          go_roundw
          case rel => exact ⟨k + 1, by omega, by go_num, Lib.hid (HB3.out.setCell (Nat.le_refl _) _), Lib.hid (by rw [HLS.out]; exact HSET.out)⟩
          case measure => simp [intOf]; omega
        · obtain rfl : k = R.length := by omega
          have HB4 := HB3
          have HO4 := HO3
          clear HB3 HO3 HB2 HO2
          have hs2 : w1.heap.size ≤ wr.heap.size := HB4.out.size
          have hlw : Hid (c = 0 ∨ w1.heap.size < wr.heap.size) := Lib.hid (by
            rcases Nat.eq_zero_or_pos c with h0 | h0
            · exact Or.inl h0
            · obtain ⟨b6, c6, e6, hb6, hs6, -⟩ := HO4.out.at (j := 0) (by rw [leadL_len]; exact h0)
              exact Or.inr (by rw [← hb6]; exact hs6))
          have HBW := Lib.hid (HB1.out.trans (HB4.out.mono hs1))
          have HR4 := Lib.hid (HR.out.below HB4.out (Nat.le_refl _))
          have HLD : Hid (∀ w' : World, Below wr.heap.size wr w' → ∀ j, j < c → w'.cell? ⟨w1.heap.size, j, none⟩ = some (.int .i64 ((leadL c R R.length).getD j 0))) := Lib.hid (fun w' hb j hj => by
            obtain ⟨b6, c6, e6, hb6, hs6, hc6, -⟩ := HO4.out.at (j := j) (by rw [leadL_len]; exact hj)
            obtain ⟨e7, -, -⟩ := sliceEq e6
            obtain rfl : w1.heap.size = b6 := by injection e7 with e7; injection e7
            exact (hb.cell (p := ⟨w1.heap.size, j, none⟩) hs6).trans hc6)
          have HRR := Lib.hid (show ∀ w' : World, Below wr.heap.size wr w' → RdG w' w1.heap.size (.slice A1 R.length c1) R from fun w' hb => HR4.out.below hb hs2)
          clear HR HR4 HB4 HO4 HB1
          generalize wr = W at *
          go_wp2
          go_loopw [13, 12, 14, 15, 16, 60, 61, 62] (fun j o _ _ _ _ _ _ wr => ∃ (jj : Nat) (vs : List Value), jj ≤ c ∧ j = .int .i64 jj ∧ Hid (Below W.heap.size W wr) ∧ Hid (GridA wr tI tR (fun q => W.heap.size ≤ q) o vs (nullRows p c R jj))) (fun j _ _ _ _ _ _ _ _ => c - (intOf j).toNat)
          case atStart => exact ⟨0, [], Nat.zero_le _, rfl, Lib.hid (Below.refl _ _), Lib.hid (GridA.nil _ _ _ _)⟩
          case round =>
            obtain ⟨jj, vs, hjj, rfl, HB5, HG⟩ := hrel
            by_cases hltj : jj < c
            · have hjI : (jj : Int) < (c : Int) := by omega
              have hcl := HLD.out _ HB5.out jj hltj
              have HNR := Lib.hid (show nullRows p c R (jj + 1) = nullRows p c R jj ++ if isLead R jj R.length then [] else [nullK p c R jj R.length] from rfl)
              cases hl : isLead R jj R.length with
              | true =>
                have hge := leadL_yes (j := jj) HRE.out.lt hl
                rw [hl] at HNR
                have HN2 := Lib.hid (show nullRows p c R (jj + 1) = nullRows p c R jj by rw [HNR.out]; simp)
                clear HNR
                generalize (leadL c R R.length).getD jj 0 = x at hcl hge
                go_wp2
                go_roundw
                case rel => exact ⟨jj + 1, vs, by omega, by go_num, HB5, Lib.hid (by rw [HN2.out]; exact HG.out)⟩
                case measure => simp [intOf]; omega
              | false =>
                have hno := leadL_no hltj HRE.out.lt hl
                generalize wr = W5 at *
                rw [hno] at hcl
                rw [hl] at HNR
                have HN2 := Lib.hid (show nullRows p c R (jj + 1) = nullRows p c R jj ++ [nullK p c R jj R.length] by rw [HNR.out]; simp)
                have HL := Lib.hid hl
                clear HNR hno hl
                have hs5 : W.heap.size ≤ W5.heap.size := HB5.out.size
                have HV0 := Lib.hid (owR_at (S := fun b => b = W5.heap.size) rfl (made_ints W5 c) (n := c) (c := c) (by rw [List.length_replicate]))
                obtain ⟨b6, c6, e6, hb6, hs6, hc6, hf6, hset⟩ := HV0.out.at (j := jj) (by rw [List.length_replicate]; exact hltj)
                rw [List.length_replicate] at e6
                obtain ⟨e7, -, -⟩ := sliceEq e6
                obtain rfl : W5.heap.size = b6 := by injection e7 with e7; injection e7
                have HSET := Lib.hid (hset 1)
                clear e6 e7 hb6 hset
                generalize (List.replicate c (0 : Int)).getD jj 0 = u6 at hc6
                go_wp2
                go_loopw [62, 15, 16] (fun i _ _ w4 => ∃ k : Nat, k ≤ R.length ∧ i = .int .i64 k ∧ Hid (Below W5.heap.size W5 w4) ∧ Hid (OwR w4 tI (fun b => b = W5.heap.size) (.slice (some ⟨W5.heap.size, 0, none⟩) c c) (nullK p c R jj k))) (fun i _ _ _ => R.length - (intOf i).toNat)
                case atStart => exact ⟨0, Nat.zero_le _, rfl, Lib.hid (by repeat' (first | exact Below.refl _ _ | apply Below.setCell | apply Below.alloc | (simp; done) | (simp; omega))), Lib.hid (by show OwR _ _ _ _ (unitRow c jj); unfold unitRow; have := HSET.out; simp only [go_sem] at this; exact this)⟩
                case round =>
                  obtain ⟨k, hk, rfl, HB6, HO6⟩ := hrel
                  by_cases hltk : k < R.length
                  · obtain ⟨b1, o1, A3, c3, rfl, hb1, hc1, hrd⟩ := (HRR.out wr (HB5.out.trans (HB6.out.mono hs5))).at hltk
                    have HRD := Lib.hid hrd
                    have hle := HRE.out.lt k hltk
                    have hxl := (HRE.out.mat.row hltk).1
                    have hel := HRE.out.mat.el hltk hltj
                    have HNK := Lib.hid (show nullK p c R jj (k + 1) = (nullK p c R jj k).set (lead0 (R.getD k [])) ((p - (R.getD k []).getD jj 0) % p) from rfl)
                    clear hb1
                    generalize R.getD k [] = xr at hc1 hrd HRD hle hxl hel HNK
                    obtain ⟨b5, o5, rfl, hb5, hc5⟩ := hrd.at (k := jj) (by rw [hxl]; exact hltj)
                    have hjx : (jj : Int) < (xr.length : Int) := by omega
                    have HXL := Lib.hid hxl
                    obtain ⟨b6, c6, e6, hb6, hs6, hc6, hf6, hset⟩ := HO6.out.at (j := lead0 xr) (by rw [nullK_len]; exact hle)
                    rw [nullK_len] at e6
                    obtain ⟨e7, -, -⟩ := sliceEq e6
                    obtain rfl : W5.heap.size = b6 := by injection e7 with e7; injection e7
                    have HSET := Lib.hid (hset ((p - xr.getD jj 0) % p))
                    have HNG := Lib.hid (show -(xr.getD jj 0) % p = (p - xr.getD jj 0) % p by rw [show p - xr.getD jj 0 = -(xr.getD jj 0) + p by omega, Int.add_emod_right])
                    have hleI : (lead0 xr : Int) < (c : Int) := by omega
                    have hkI : (k : Int) < (R.length : Int) := by omega
                    clear e6 e7 hb6 hset hxl hb5 hrd
                    generalize (nullK p c R jj k).getD (lead0 xr) 0 = u6 at hc6
                    generalize xr.getD jj 0 = y at hc5 hel HNK HSET HNG
                    obtain ⟨hy0, hy1⟩ := hel
                    have HLQ := Lib.hid (spLead_any wr w1.heap.size _ xr HRD.out (by rw [HXL.out]; exact hc))
                    have HSL : Hid (∀ n, Calls Tryd.prog 49 #[.slice (some ⟨b5, o5, none⟩) xr.length c3] (wr.drewN n) fun e w' => e = .returned (.int .i64 (lead0 xr)) ∧ w' = wr.drewN n) := Lib.hid (fun n => (spLead_any (wr.drewN n) w1.heap.size _ xr HRD.out (by rw [HXL.out]; exact hc)).mono fun _ _ h => ⟨h.1, h.2.symm⟩)
                    generalize lead0 xr = q at HNK hle hc6 hf6 HSET hleI HSL
                    go_wp2
                    go_still_tail 13, (by kernel_rfl)
                    still_call ((HSL.out _).mono fun _ _ h => ⟨h.1, h.2⟩)
                    repeat still_step
                    still_call ((fdNeg_any p y _ h1 h2 hy0 hy1).mono fun _ _ h => ⟨h.1, h.2.symm⟩)
                    repeat still_step
                    refine wpStill_nil ?_
                    change wpList _ _ _ _ _ wr.drew
                    go_wp2
                    go_roundw
                    case rel => exact ⟨k + 1, by omega, by go_num, Lib.hid ((HB6.out.setCell (Nat.le_refl _) _).drew), Lib.hid (by
                      rw [HNK.out, HNG.out]
                      exact HSET.out.drew)⟩
                    case measure => simp [intOf]; omega
                  · obtain rfl : k = R.length := by omega
                    have hs6 : W5.heap.size ≤ wr.heap.size := HB6.out.size
                    have HG2 := Lib.hid ((HG.out.mono (T := fun q => W.heap.size ≤ q ∧ q < W5.heap.size) (fun q h1 h2 => ⟨h1, h2⟩)).blocks (w' := wr) (fun q hq _ => HB6.out.block q hq.2))
                    have HLV := Lib.hid (show vs.length ≤ 1000000 by have h3 := HG.out.len; have h4 := nullRows_len p c R jj; omega)
                    go_wp2_with (at_builtin; refine wpList_append_lies _ (by rfl) (.tmp 81) (.tmp 83) 22 (by rfl) 0 40 i0 _ 1 24 Tryd.underlying22 hi0 hz0 hz1 hz2 rfl (by omega) u12 vs.length vs (by rfl) ((HG2.out.blocks (w' := wr.alloc _) (fun k hk hl => blk_alloc_lt _ _ _ hl)).outer) ⟨wr.heap.size, 0, none⟩ 1 1 [.slice (some ⟨W5.heap.size, 0, none⟩) c c] (by rfl) (by rfl) (World.news_of_block (cs := #[.slice (some ⟨W5.heap.size, 0, none⟩) c c]) (t := 40) (fr := (0, 0)) (heap_alloc_new wr _)) (by simp [Value.oneCell']) (by omega) (by have := HLV.out; unfold maxLen; omega) (by have := HLV.out; omega) (Nat.zero_le _) (wr.heap.size + 1) (by simp) ?_; intro gg cap w3 hown1 hgrow hat hlt3)
                    have HBL := Lib.hid ((((HB5.out).trans (HB6.out.mono hs5)).alloc (Nat.le_trans hs5 hs6) (.cells #[.slice (some ⟨W5.heap.size, 0, none⟩) c c] 40)).grown hgrow (by simp; omega) (fun q hq => HG.out.inS q hq))
                    have HP := Lib.hid (((HG2.out.blocks (w' := wr.alloc (.cells #[.slice (some ⟨W5.heap.size, 0, none⟩) c c] 40)) (fun q hq hl => blk_alloc_lt _ _ _ hl))).push (xs := nullK p c R jj R.length) ((HO6.out.blocks (w' := wr.alloc (.cells #[.slice (some ⟨W5.heap.size, 0, none⟩) c c] 40)) (fun q hq hl _ _ => blk_alloc_lt _ _ _ hl)).mono (T := fun q => W5.heap.size ≤ q ∧ q < wr.heap.size + 1) (fun q hq hl => ⟨by omega, by simpa using hl⟩)) (fun q h1 h2 => by omega) hown1 hgrow (by simpa using hat))
                    clear hown1 hgrow hat hlt3
                    go_wp2
                    go_roundw
                    case rel => exact ⟨jj + 1, _, by omega, by go_num, HBL, Lib.hid (by
                      rw [HN2.out]
                      refine HP.out.mono (T := fun q => W.heap.size ≤ q) (fun q hq _ => ?_)
                      simp at hq
                      omega)⟩
                    case measure => simp [intOf]; omega
            · obtain rfl : jj = c := by omega
              obtain ⟨Av, cpv, rfl, -, -⟩ := HG.out.room
              have HRG := Lib.hid (OwG.readB HG.out.toOwG)
              have hs5 : W.heap.size ≤ wr.heap.size := HB5.out.size
              have hln : (nullRows p jj R jj).length ≤ 1000000 := by have h4 := nullRows_len p jj R jj; omega
              generalize nullRows p jj R jj = N at HRG hln HMM HNB
              clear HG
              go_wp2_with fail
              refine (spReduce_any wr wr.heap.size _ p N.length jj N HRG.out (Nat.le_refl _) HF.out HMM.out hln hc).mono ?_
              rintro e w2 ⟨v2, rfl, b2, o2⟩
              have HB7 := Lib.hid b2
              have HO7 := Lib.hid o2
              obtain ⟨A2, c2, rfl⟩ := OwG.len o2
              clear b2 o2
              have hsW : w.heap.size ≤ W.heap.size := HBW.out.size
              go_wp2
              go_ret
              rw [HNB.out]
              exact ⟨_, rfl, HBW.out.trans ((HB5.out.trans (HB7.out.mono hs5)).mono hsW), HO7.out.mono (fun q hq _ => by omega)⟩
end Go.Proofs.YtdjgkcnhmfkjoaaDoor
