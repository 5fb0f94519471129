/- The orthogonal space: the program's side. -/
import Derived.Test.YtiiloioobmkicaaDoorSpI
import Derived.Test.YtiiloioobmkicaaDoorSpNull
namespace Go.Proofs.YtiiloioobmkicaaDoor
set_option maxRecDepth 100000
open Go Go.RowKit Go.Deep

/-! ### Whether a list has an element -/
set_option maxHeartbeats 400000 in
theorem index_any (w : World) (B : Nat) (v : Value) (xs : List Int) (x : Int) (hv : RdS w (fun b => b < B) v xs) (hl : xs.length ≤ 1000000) :
    Calls Tryd.prog 120 #[v, .int .i64 x] w fun e w' => (∃ r : Int, e = .returned (.int .i64 r) ∧ ((x ∈ xs ∧ 0 ≤ r) ∨ (x ∉ xs ∧ r = -1))) ∧ w = w' := by
  obtain ⟨A, c, rfl, kc_c, hv⟩ := hv
  have HV := Lib.hid hv
  clear hv
  go_enter Tryd.func120, Tryd.ntmps120
  go_wp2
  go_loop [8, 5] (fun i _ => ∃ k : Nat, k ≤ xs.length ∧ i = .int .i64 k ∧ Hid (∀ j, j < k → xs.getD j 0 ≠ x)) (fun i _ => xs.length - (intOf i).toNat)
  case atStart => exact ⟨0, Nat.zero_le _, rfl, Lib.hid (fun j hj => absurd hj (Nat.not_lt_zero j))⟩
  case round =>
    obtain ⟨k, hk, rfl, HZ⟩ := hrel
    by_cases hlt : k < xs.length
    · obtain ⟨b, o, rfl, hbB, hc⟩ := HV.out k hlt
      have HMEM := Lib.hid (getD_mem' hlt 0)
      generalize hx : xs.getD k 0 = y at hc HMEM
      have HX := Lib.hid hx
      clear hx
      have i1 : (k : Int) < xs.length := by omega
      by_cases hz : x = y
      · have hq : (x == y) = true := by simp [hz]
        have HM := Lib.hid (show x ∈ xs by rw [hz]; exact HMEM.out)
        clear hz
        go_wp2
        go_ret
        exact ⟨⟨_, rfl, Or.inl ⟨HM.out, by omega⟩⟩, rfl⟩
      · have hq : (x == y) = false := by simp [hz]
        have HNE := Lib.hid hz
        clear hz
        go_wp2
        go_round
        case rel => exact ⟨k + 1, by omega, by go_num, Lib.hid (fun j hj => by
          by_cases cj : j = k
          · rw [cj, HX.out]; exact fun e => HNE.out e.symm
          · exact HZ.out j (by omega))⟩
        case measure => simp [intOf]; omega
    · have HN := Lib.hid (show x ∉ xs by
        intro hm
        obtain ⟨i, hi, e⟩ := mem_getD 0 hm
        exact HZ.out i (by omega) e)
      go_wp2
      go_ret
      exact ⟨⟨_, rfl, Or.inr ⟨HN.out, rfl⟩⟩, rfl⟩
theorem contains_any (w : World) (B : Nat) (v : Value) (xs : List Int) (x : Int) (hv : RdS w (fun b => b < B) v xs) (hl : xs.length ≤ 1000000) :
    Calls Tryd.prog 105 #[v, .int .i64 x] w fun e w' => e = .returned (.bool (decide (x ∈ xs))) ∧ w = w' := by
  have HV := Lib.hid hv
  obtain ⟨A, c, rfl, kc_c, -⟩ := hv
  go_enter Tryd.func105, Tryd.ntmps105
  go_wp2_with fail
  refine (index_any _ B _ xs x HV.out hl).mono ?_
  rintro e w' ⟨⟨r, rfl, hr⟩, rfl⟩
  rcases hr with ⟨hm, hr⟩ | ⟨hm, rfl⟩
  · have HM := Lib.hid (decide_eq_true hm)
    clear hm
    go_wp2
    go_ret
    rw [HM.out]
    exact ⟨rfl, rfl⟩
  · have HM := Lib.hid (decide_eq_false hm)
    clear hm
    go_wp2
    go_ret
    rw [HM.out]
    exact ⟨rfl, rfl⟩
/-! ### The leading indices of a list of rows -/
def leadsL (rows : List (List Int)) : List Int := rows.map leadI
theorem leadsL_len (rows : List (List Int)) : (leadsL rows).length = rows.length := by simp [leadsL]
theorem leadsL_get {rows : List (List Int)} {i : Nat} (h : i < rows.length) : (leadsL rows).getD i 0 = leadI (rows.getD i []) := by unfold leadsL; rw [map_getD _ _ _ h []]
theorem leadsL_end {rows : List (List Int)} {k : Nat} (h : rows.length ≤ k) : upd (fun j _ => leadI (rows.getD j [])) k (List.replicate rows.length 0) = leadsL rows := by
  rw [upd_all _ (by rw [List.length_replicate]; exact h)]
  refine ext_getD 0 (by simp [leadsL]) fun i hi => ?_
  rw [List.length_mapIdx, List.length_replicate] at hi
  rw [mapIdx_getD _ _ _ (by simpa using hi) 0, leadsL_get hi]
theorem leadsL_mem {p : Int} {n c : Nat} {R : List (List Int)} (h : IsRed p n c R) (j : Nat) : decide ((j : Int) ∈ leadsL R) = isLead R j n := by
  rw [Bool.eq_iff_iff, decide_eq_true_eq, isLead_iff]
  have hl := h.mat.1
  have key : ∀ i, i < n → leadI (R.getD i []) = lead0 (R.getD i []) := fun i hi => leadI_pos (by rw [(h.mat.row hi).1]; exact h.lt i hi)
  constructor
  · intro hm
    obtain ⟨i, hi, e⟩ := mem_getD 0 hm
    rw [leadsL_len] at hi
    rw [leadsL_get hi, key i (by omega)] at e
    exact ⟨i, by omega, by omega⟩
  · rintro ⟨i, hi, e⟩
    have h1 : (leadsL R).getD i 0 = (j : Int) := by rw [leadsL_get (by omega), key i hi, e]
    rw [← h1]
    exact getD_mem' (by rw [leadsL_len]; omega) 0
set_option maxHeartbeats 400000 in
theorem leadingIndices_any (w : World) (B : Nat) (v : Value) (rows : List (List Int)) (hv : RdG w B v rows) (hB : B ≤ w.heap.size) (hn : rows.length ≤ 1000000) (hr : ∀ r, r < rows.length → (rows.getD r []).length ≤ 1000000) :
    Calls Tryd.prog 104 #[v] w (MadeR w (leadsL rows)) := by
  obtain ⟨A, cp, rfl⟩ := hv.len
  have hmk := make_ints rows.length (by omega)
  have HV := Lib.hid hv
  have HB := Lib.hid hB
  have HR := Lib.hid hr
  clear hv hB hr
  go_enter Tryd.func104, Tryd.ntmps104
  go_wp2
  go_loopw [11, 4, 5] (fun i _ _ wr => ∃ k : Nat, k ≤ rows.length ∧ i = .int .i64 k ∧ Hid (Below w.heap.size w wr) ∧ Hid (OwR wr tI (fun b => b = w.heap.size) (.slice (some ⟨w.heap.size, 0, none⟩) rows.length rows.length) (upd (fun j _ => leadI (rows.getD j [])) k (List.replicate rows.length 0)))) (fun i _ _ _ => rows.length - (intOf i).toNat)
  case atStart => exact ⟨0, Nat.zero_le _, rfl, Lib.hid ((Below.refl _ _).alloc (Nat.le_refl _) _), Lib.hid (by rw [upd_zero]; exact owR_at (S := fun b => b = w.heap.size) rfl (made_ints w rows.length) (by rw [List.length_replicate]))⟩
  case round =>
    obtain ⟨k, hk, rfl, HB2, HO⟩ := hrel
    by_cases hlt : k < rows.length
    · obtain ⟨b1, o1, A3, c3, rfl, hb1, hc1, hrd⟩ := (HV.out.below HB2.out HB.out).at hlt
      have HRD := Lib.hid hrd
      have hxl := HR.out k hlt
      obtain ⟨b6, c6, e6, hb6, hs6, hc6, hf6, hset⟩ := HO.out.at (j := k) (by rw [upd_len, List.length_replicate]; exact hlt)
      rw [upd_len, List.length_replicate] at e6
      obtain ⟨e7, -, -⟩ := sliceEq e6
      obtain rfl : w.heap.size = b6 := by injection e7 with e7; injection e7
      have HSET := Lib.hid (hset (leadI (rows.getD k [])))
      have HST := Lib.hid (upd_step (fun j _ => leadI (rows.getD j [])) (xs := List.replicate rows.length 0) (k := k) (by rw [List.length_replicate]; exact hlt) 0)
      have hkI : (k : Int) < (rows.length : Int) := by omega
      clear hb1 hrd e6 e7 hb6 hset
      generalize (upd (fun j _ => leadI (rows.getD j [])) k (List.replicate rows.length 0)).getD k 0 = u6 at hc6
      generalize rows.getD k [] = xr at hc1 HRD hxl HSET HST
      go_wp2_with fail
      refine (leadIdx_any _ B _ xr HRD.out (by omega)).mono ?_
      rintro e w' ⟨rfl, rfl⟩
      generalize leadI xr = L at HSET HST
      go_wp2
      go_roundw
      case rel => exact ⟨k + 1, by omega, by go_num, Lib.hid (HB2.out.setCell (Nat.le_refl _) _), Lib.hid (by rw [← HST.out]; exact HSET.out)⟩
      case measure => simp [intOf]; omega
    · have HE := Lib.hid (leadsL_end (rows := rows) (k := k) (by omega))
      go_wp2
      go_ret
      refine ⟨_, rfl, HB2.out, ?_⟩
      have := HO.out
      rw [HE.out] at this
      exact Eq.mp (congrArg (fun n => OwR wr tI (fun b => w.heap.size ≤ b) (.slice (some ⟨w.heap.size, 0, none⟩) n rows.length) (leadsL rows)) rfl) (this.mono (fun q hq _ => by omega))
/-! ### The orthogonal space -/
set_option maxHeartbeats 3200000 in
set_option maxRecDepth 100000 in
theorem orthogonalOf_any (w : World) (B : Nat) (v : Value) (p : Int) (c : Nat) (R : List (List Int)) (hv : RdG w B v R) (hB : B ≤ w.heap.size) (hf : fld p = true) (hR : IsRed p R.length c R) (hc : c ≤ 1000000) :
    Calls Tryd.prog 71 #[.int .i64 p, .agg #[.int .i64 c, v]] w (MadeSp w c (nullB p R c)) := by
  obtain ⟨i0, hi0, hz0, hz1, hz2⟩ := info_parts infoR
  obtain ⟨h1, h2⟩ := fld_bd hf
  have hmk := make_ints c (by omega)
  obtain ⟨A1, c1, rfl⟩ := hv.len
  have hRc := hR.le
  have HNB := Lib.hid (show nullB p R c = rref p (nullRows p c R c) c by unfold nullB; rw [rref_of_red hf hR])
  have HMM := Lib.hid (nullRows_mat (R := R) h1 c (Nat.le_refl c))
  have HLM := Lib.hid (leadsL_mem hR)
  have HRE := Lib.hid hR
  have HF := Lib.hid hf
  have HVB := Lib.hid (show Below w.heap.size w ((w.alloc (.cells #[.int .i64 c, .slice A1 R.length c1] tSp)).alloc (.cells #[.int .i64 0, .slice none 0 0] tSp)) by repeat' (first | exact Below.refl _ _ | apply Below.alloc | (simp; done) | (simp; omega)))
  have HVR := Lib.hid (hv.below HVB.out hB)
  have hB0 : B ≤ ((w.alloc (.cells #[.int .i64 c, .slice A1 R.length c1] tSp)).alloc (.cells #[.int .i64 0, .slice none 0 0] tSp)).heap.size := Nat.le_trans hB HVB.out.size
  have HX0 := Lib.hid ((cellsAt_new w #[.int .i64 c, .slice A1 R.length c1] tSp).alloc (.cells #[.int .i64 0, .slice none 0 0] tSp))
  have HY0 := Lib.hid (cellsAt_new' (w.alloc (.cells #[.int .i64 c, .slice A1 R.length c1] tSp)) #[.int .i64 0, .slice none 0 0] tSp _ (w.heap.size + 1) (by simp) rfl)
  have hsz0 : ((w.alloc (.cells #[.int .i64 c, .slice A1 R.length c1] tSp)).alloc (.cells #[.int .i64 0, .slice none 0 0] tSp)).heap.size = w.heap.size + 2 := by simp
  clear hv hf hR hB
  go_enter Tryd.func71, Tryd.ntmps71
  go_upto_region 1 with fail
  generalize ((w.alloc (.cells #[.int .i64 c, .slice A1 R.length c1] tSp)).alloc (.cells #[.int .i64 0, .slice none 0 0] tSp)) = W0 at HVB HVR hB0 HX0 HY0 hsz0 ⊢
  have hz0' : w.heap.size + 2 ≤ W0.heap.size := by omega
  clear hsz0
  obtain ⟨hx0, hx1, hxf0, hxf1, hxs⟩ := HX0.out.two
  go_wp2_with fail
  refine (leadingIndices_any W0 B _ R HVR.out hB0 (by omega) (fun r hr => by rw [(HRE.out.mat.row hr).1]; exact hc)).mono ?_
  rintro e W ⟨vl, rfl, bl, ol⟩
  have hll := OwR.len ol
  rw [leadsL_len] at hll
  obtain ⟨Al, cl, rfl⟩ := hll
  have HLD : Hid (∀ w' : World, Below W.heap.size W w' → RdS w' (fun b => b < W.heap.size) (.slice Al R.length cl) (leadsL R)) := Lib.hid (fun w' hb => (OwR.readB ol).below hb (Nat.le_refl _))
  have HBW := Lib.hid (HVB.out.trans (bl.mono HVB.out.size))
  have hsW : W0.heap.size ≤ W.heap.size := bl.size
  have HRR : Hid (∀ w' : World, Below W.heap.size W w' → RdG w' B (.slice A1 R.length c1) R) := Lib.hid (fun w' hb => (HVR.out.below bl hB0).below hb (Nat.le_trans hB0 hsW))
  have HXW := Lib.hid (HX0.out.below bl hxs)
  have HYW := Lib.hid (HY0.out.below bl (by omega))
  have HCX : Hid (∀ w' : World, Below W.heap.size W w' → w'.cell? ⟨w.heap.size, 0, none⟩ = some (.int .i64 c) ∧ w'.cell? ⟨w.heap.size, 1, none⟩ = some (.slice A1 R.length c1)) := Lib.hid (fun w' hb => by
    obtain ⟨a0, a1, -⟩ := (HXW.out.below hb (by omega)).two
    exact ⟨a0, a1⟩)
  have hll2 : (leadsL R).length = R.length := leadsL_len R
  have HLL := Lib.hid hll2
  have HLG : Hid (∀ i, i < R.length → (leadsL R).getD i 0 = (lead0 (R.getD i []) : Int)) := Lib.hid (fun i hi => by
    rw [leadsL_get hi, leadI_pos (by rw [(HRE.out.mat.row hi).1]; exact HRE.out.lt i hi)])
  clear bl ol hx0 hx1 hxf0 hxf1 hxs HX0 HY0 HVR hll2 hB0
  generalize leadsL R = LS at HLD HLM HLL HLG
  obtain ⟨hx0, hx1⟩ := HCX.out W (Below.refl _ _)
  go_wp2
  clear hx0 hx1
  go_loopw [16, 6, 7, 8, 9, 10, 29, 30, 31] (fun j o _ _ _ _ _ _ _ wr => ∃ (jj : Nat) (vs : List Value), jj ≤ c ∧ j = .int .i64 jj ∧ Hid (Below W.heap.size W wr) ∧ Hid (GridA wr tI tR (fun q => W.heap.size ≤ q) o vs (nullRows p c R jj))) (fun j _ _ _ _ _ _ _ _ _ => c - (intOf j).toNat)
  case atStart => exact ⟨0, [], Nat.zero_le _, rfl, Lib.hid (Below.refl _ _), Lib.hid (GridA.nil _ _ _ _)⟩
  case round =>
    obtain ⟨jj, vs, hjj, rfl, HB5, HG⟩ := hrel
    obtain ⟨hx0, hx1⟩ := HCX.out wr HB5.out
    by_cases hltj : jj < c
    · have hjI : (jj : Int) < (c : Int) := by omega
      have HNR := Lib.hid (show nullRows p c R (jj + 1) = nullRows p c R jj ++ if isLead R jj R.length then [] else [nullK p c R jj R.length] from rfl)
      have HMJ := Lib.hid (HLM.out jj)
      cases hl : isLead R jj R.length with
      | true =>
        rw [hl] at HNR HMJ
        have HN2 := Lib.hid (show nullRows p c R (jj + 1) = nullRows p c R jj by rw [HNR.out]; simp)
        clear HNR hl
        go_wp2_with fail
        refine (contains_any _ W.heap.size _ LS jj (by have := HLD.out _ HB5.out; exact this) (by rw [HLL.out]; omega)).mono ?_
        rintro e w' ⟨rfl, rfl⟩
        rw [HMJ.out]
        go_wp2
        go_roundw
        case rel => exact ⟨jj + 1, vs, by omega, by go_num, HB5, Lib.hid (by rw [HN2.out]; exact HG.out)⟩
        case measure => simp [intOf]; omega
      | false =>
        rw [hl] at HNR HMJ
        have HN2 := Lib.hid (show nullRows p c R (jj + 1) = nullRows p c R jj ++ [nullK p c R jj R.length] by rw [HNR.out]; simp)
        clear HNR hl
        generalize wr = W5 at *
        have hs5 : W.heap.size ≤ W5.heap.size := HB5.out.size
        have HV0 := Lib.hid (owR_at (S := fun b => b = W5.heap.size) rfl (made_ints W5 c) (n := c) (c := c) (by rw [List.length_replicate]))
        obtain ⟨b6, c6, e6, hb6, hs6, hc6, hf6, hset⟩ := HV0.out.at (j := jj) (by rw [List.length_replicate]; exact hltj)
        rw [List.length_replicate] at e6
        obtain ⟨e7, -, -⟩ := sliceEq e6
        obtain rfl : W5.heap.size = b6 := by injection e7 with e7; injection e7
        have HSET := Lib.hid (hset 1)
        clear e6 e7 hb6 hset
        generalize (List.replicate c (0 : Int)).getD jj 0 = z6 at hc6
        go_wp2_with fail
        refine (contains_any _ W.heap.size _ LS jj (by have := HLD.out _ HB5.out; exact this) (by rw [HLL.out]; omega)).mono ?_
        rintro e w' ⟨rfl, rfl⟩
        rw [HMJ.out]
        go_upto_region 9 with fail
        have HSET2 := Lib.hid (show OwR (W5.alloc (.cells ((madeCells #[.int .i64 0] c).setIfInBounds jj (.int .i64 1)) tI)) tI (fun b => b = W5.heap.size) (.slice (some ⟨W5.heap.size, 0, none⟩) c c) (nullK p c R jj 0) by
          show OwR _ _ _ _ (unitRow c jj)
          unfold unitRow
          have := HSET.out
          simp only [go_sem] at this
          exact this)
        have HB6 := Lib.hid (show Below W5.heap.size W5 (W5.alloc (.cells ((madeCells #[.int .i64 0] c).setIfInBounds jj (.int .i64 1)) tI)) from (Below.refl _ _).alloc (Nat.le_refl _) _)
        clear HSET hc6 hf6 hs6 HV0
        change Code.wp _ _ _ _ (W5.alloc (.cells ((madeCells #[.int .i64 0] c).setIfInBounds jj (.int .i64 1)) tI))
        generalize (W5.alloc (.cells ((madeCells #[.int .i64 0] c).setIfInBounds jj (.int .i64 1)) tI)) = W6 at HSET2 HB6 ⊢
        clear hx0 hx1
        obtain ⟨hx0, hx1⟩ := HCX.out W6 (HB5.out.trans (HB6.out.mono hs5))
        go_wp2
        clear hx0 hx1
        go_loopw [31, 9, 10] (fun i _ _ w4 => ∃ k : Nat, k ≤ R.length ∧ i = .int .i64 k ∧ Hid (Below W5.heap.size W5 w4) ∧ Hid (OwR w4 tI (fun b => b = W5.heap.size) (.slice (some ⟨W5.heap.size, 0, none⟩) c c) (nullK p c R jj k))) (fun i _ _ _ => R.length - (intOf i).toNat)
        case atStart => exact ⟨0, Nat.zero_le _, rfl, HB6, HSET2⟩
        case round =>
          obtain ⟨k, hk, rfl, HB7, HO7⟩ := hrel
          by_cases hltk : k < R.length
          · have HBQ := Lib.hid (HB5.out.trans (HB7.out.mono hs5))
            obtain ⟨b1, o1, A3, c3, rfl, hb1, hc1, hrd⟩ := (HRR.out wr HBQ.out).at hltk
            obtain ⟨bL, oL, rfl, hbL, hcL⟩ := (HLD.out wr HBQ.out).at (k := k) (by rw [HLL.out]; exact hltk)
            rw [HLG.out k hltk] at hcL
            have hle := HRE.out.lt k hltk
            have hxl := (HRE.out.mat.row hltk).1
            have hel := HRE.out.mat.el hltk hltj
            have HNK := Lib.hid (show nullK p c R jj (k + 1) = (nullK p c R jj k).set (lead0 (R.getD k [])) ((p - (R.getD k []).getD jj 0) % p) from rfl)
            clear hb1 hbL
            generalize R.getD k [] = xr at hc1 hcL hrd hle hxl hel HNK
            obtain ⟨b5, o5, rfl, hb5, hc5⟩ := hrd.at (k := jj) (by rw [hxl]; exact hltj)
            have hjx : (jj : Int) < (xr.length : Int) := by omega
            obtain ⟨b6, c6, e6, hb6, hs6, hc6, hf6, hset⟩ := HO7.out.at (j := lead0 xr) (by rw [nullK_len]; exact hle)
            rw [nullK_len] at e6
            obtain ⟨e7, -, -⟩ := sliceEq e6
            obtain rfl : W5.heap.size = b6 := by injection e7 with e7; injection e7
            have HST := Lib.hid (hset ((p - xr.getD jj 0) % p))
            have HNG := Lib.hid (show -(xr.getD jj 0) % p = (p - xr.getD jj 0) % p by rw [show p - xr.getD jj 0 = -(xr.getD jj 0) + p by omega, Int.add_emod_right])
            have hleI : (lead0 xr : Int) < (c : Int) := by omega
            have hkI : (k : Int) < (R.length : Int) := by omega
            clear e6 e7 hb6 hset hxl hb5 hrd
            generalize (nullK p c R jj k).getD (lead0 xr) 0 = z6 at hc6
            generalize xr.getD jj 0 = y at hc5 hel HNK HST HNG
            obtain ⟨hy0, hy1⟩ := hel
            generalize lead0 xr = q at HNK hle hc6 hf6 HST hleI hcL
            have hp0 : ¬ p = 0 := by omega
            have hwr : IntKind.i64.wrap (p - y) = p - y := Go.IntWalk.i64_in _ ⟨by omega, by omega⟩
            have htm : (p - y).tmod p = (p - y) % p := Int.tmod_eq_emod_of_nonneg (by omega)
            go_wp2
            go_still_tail 14, (by kernel_rfl)
            clear hwr htm
            change wpList _ _ _ _ _ wr.drew
            go_wp2
            go_roundw
            case rel => exact ⟨k + 1, by omega, by go_num, Lib.hid ((HB7.out.setCell (Nat.le_refl _) _).drew), Lib.hid (by
              rw [HNK.out]
              first | exact HST.out.drew | (rw [HNG.out]; exact HST.out.drew))⟩
            case measure => simp [intOf]; omega
          · obtain rfl : k = R.length := by omega
            have hs6 : W5.heap.size ≤ wr.heap.size := HB7.out.size
            have HG2 := Lib.hid ((HG.out.mono (T := fun q => W.heap.size ≤ q ∧ q < W5.heap.size) (fun q h1 h2 => ⟨h1, h2⟩)).blocks (w' := wr) (fun q hq _ => HB7.out.block q hq.2))
            have HLV := Lib.hid (show vs.length ≤ 1000000 by have h3 := HG.out.len; have h4 := nullRows_len p c R jj; omega)
            go_wp2_with (at_builtin; refine wpList_append_lies _ (by rfl) (.tmp 51) (.tmp 53) 22 (by rfl) 0 42 i0 _ 1 24 Tryd.underlying22 hi0 hz0 hz1 hz2 rfl (by omega) u6 vs.length vs (by rfl) ((HG2.out.blocks (w' := wr.alloc _) (fun k hk hl => blk_alloc_lt _ _ _ hl)).outer) ⟨wr.heap.size, 0, none⟩ 1 1 [.slice (some ⟨W5.heap.size, 0, none⟩) c c] (by rfl) (by rfl) (World.news_of_block (cs := #[.slice (some ⟨W5.heap.size, 0, none⟩) c c]) (t := 42) (fr := (0, 0)) (heap_alloc_new wr _)) (by simp [Value.oneCell']) (by omega) (by have := HLV.out; unfold maxLen; omega) (by have := HLV.out; omega) (Nat.zero_le _) (wr.heap.size + 1) (by simp) ?_; intro gg cap w3 hown1 hgrow hat hlt3)
            have HBL := Lib.hid ((((HB5.out).trans (HB7.out.mono hs5)).alloc (Nat.le_trans hs5 hs6) (.cells #[.slice (some ⟨W5.heap.size, 0, none⟩) c c] 42)).grown hgrow (by simp; omega) (fun q hq => HG.out.inS q hq))
            have HP := Lib.hid (((HG2.out.blocks (w' := wr.alloc (.cells #[.slice (some ⟨W5.heap.size, 0, none⟩) c c] 42)) (fun q hq hl => blk_alloc_lt _ _ _ hl))).push (xs := nullK p c R jj R.length) ((HO7.out.blocks (w' := wr.alloc (.cells #[.slice (some ⟨W5.heap.size, 0, none⟩) c c] 42)) (fun q hq hl _ _ => blk_alloc_lt _ _ _ hl)).mono (T := fun q => W5.heap.size ≤ q ∧ q < wr.heap.size + 1) (fun q hq hl => ⟨by omega, by simpa using hl⟩)) (fun q h1 h2 => by omega) hown1 hgrow (by simpa using hat))
            clear hown1 hgrow hat hlt3
            go_wp2
            go_roundw
            case rel => exact ⟨jj + 1, _, by omega, by go_num, HBL, Lib.hid (by
              rw [HN2.out]
              refine HP.out.mono (T := fun q => W.heap.size ≤ q) (fun q hq _ => ?_)
              simp at hq
              omega)⟩
            case measure => simp [intOf]; omega
    · obtain rfl : jj = c := by omega
      obtain ⟨Av, cpv, rfl, -, -⟩ := HG.out.room
      have HRG := Lib.hid (OwG.readB HG.out.toOwG)
      have hs5 : W.heap.size ≤ wr.heap.size := HB5.out.size
      have hln : (nullRows p jj R jj).length ≤ 1000000 := by have h4 := nullRows_len p jj R jj; omega
      have HYR := Lib.hid (HYW.out.below HB5.out (by omega))
      generalize nullRows p jj R jj = N at HRG hln HMM HNB
      clear HG
      go_wp2_with fail
      refine (spanOf_any wr wr.heap.size _ p N.length jj N HRG.out (Nat.le_refl _) HF.out HMM.out hln hc).mono ?_
      rintro e w2 ⟨v2, rfl, b2, o2⟩
      have HB7 := Lib.hid b2
      have HO7 := Lib.hid (o2.mono (T := fun q => wr.heap.size ≤ q ∧ q < w2.heap.size) (fun q h1 h2 => ⟨h1, h2⟩))
      obtain ⟨A2, c2, rfl⟩ := OwG.len o2
      have hsW2 : w.heap.size ≤ W.heap.size := HBW.out.size
      have HY2 := Lib.hid (HYR.out.below b2 (by omega))
      clear b2 o2
      obtain ⟨hy0, hy1, hyf0, hyf1, hys⟩ := HY2.out.two
      have HBE := Lib.hid (HBW.out.trans ((HB5.out.trans (HB7.out.mono hs5)).mono hsW2))
      go_wp2
      refine bodyPost_ret (v := .agg #[.int .i64 jj, .slice A2 (rref p N jj).length c2]) (by simp [results, Tryd.results71, go_sem, hy0, hy1]) rfl ?_
      rw [HNB.out]
      refine ⟨_, rfl, (by refine Below.trans HBE.out ?_; repeat' (first | exact Below.refl _ _ | apply Below.drew | apply Below.setCell | apply Below.alloc | (simp; done) | omega | (simp; omega))), (HO7.out.blocks (fun k hk _ => ?_)).mono (fun k hk _ => by omega)⟩
      repeat rw [blk_setCell_other _ _ _ _ (by dsimp only; omega)]
end Go.Proofs.YtiiloioobmkicaaDoor
