/- Spaces projected: the model's side. -/
import Derived.Test.YtahlicbjbbpihaaDoorVecF
import Derived.Test.YtahlicbjbbpihaaDoorElems
namespace Go.Proofs.YtahlicbjbbpihaaDoor
set_option maxRecDepth 100000
open Go Go.RowKit Go.Deep

theorem pick_take {xs idx : List Int} {k : Nat} (h : k < idx.length) : pick xs (idx.take (k + 1)) = pick xs (idx.take k) ++ [xs.getD (idx.getD k 0).toNat 0] := by
  unfold pick
  rw [List.take_succ_eq_append_getElem h, List.map_append, show idx.getD k 0 = idx[k] by rw [List.getD_eq_getElem?_getD, List.getElem?_eq_getElem h]; rfl]
  rfl
/-- The rows' elements at the indices. -/
def prj (R : List (List Int)) (cols : List Int) : List (List Int) := R.map fun r => pick r cols
theorem prj_len (R : List (List Int)) (cols : List Int) : (prj R cols).length = R.length := by simp [prj]
theorem prj_take {R : List (List Int)} {cols : List Int} {k : Nat} (h : k < R.length) : prj (R.take (k + 1)) cols = prj (R.take k) cols ++ [pick (R.getD k []) cols] := by
  unfold prj
  rw [List.take_succ_eq_append_getElem h, List.map_append, List.getD_eq_getElem?_getD, List.getElem?_eq_getElem h]
  rfl
theorem prj_mat {p : Int} {n c : Nat} {R : List (List Int)} {cols : List Int} (h : Mat p n c R) (hi : ∀ i, i ∈ cols → 0 ≤ i ∧ i < (c : Int)) : Mat p n cols.length (prj R cols) := by
  refine ⟨by rw [prj_len]; exact h.1, fun r hr => ?_⟩
  unfold prj at hr
  obtain ⟨a, ha, rfl⟩ := List.mem_map.1 hr
  exact pick_el (h.vec ha) hi
set_option maxHeartbeats 1600000 in
set_option maxRecDepth 100000 in
theorem spProject_any (w : World) (B : Nat) (vb vi : Value) (p : Int) (n c : Nat) (R : List (List Int)) (cols : List Int) (hb : RdG w B vb R) (hi : RdS w (fun b => b < B) vi cols) (hB : B ≤ w.heap.size) (hf : fld p = true) (hR : Mat p n c R) (hn : n ≤ 1000000) (hk : cols.length ≤ 1000000) (hd : ∀ i, i ∈ cols → 0 ≤ i ∧ i < (c : Int)) :
    Calls Tryd.prog 91 #[.int .i64 p, vb, vi] w (MadeG w (rref p (prj R cols) cols.length)) := by
  obtain ⟨i0, hi0, hz0, hz1, hz2⟩ := info_parts infoR
  obtain ⟨i1, hi1, hy0, hy1, hy2⟩ := info_parts infoI
  obtain ⟨A1, c1, rfl⟩ := hb.len
  obtain ⟨Ai, ci, rfl, hi'⟩ := hi
  have HI := Lib.hid (show RdS w (fun b => b < B) (.slice Ai cols.length ci) cols from ⟨Ai, ci, rfl, hi'⟩)
  have HG := Lib.hid hb
  have HB := Lib.hid hB
  have HF := Lib.hid hf
  have HR := Lib.hid hR
  have HD := Lib.hid hd
  have HRL := Lib.hid hR.1
  have HPM := Lib.hid (prj_mat hR hd)
  clear hb hi' hB hf hR hd
  go_enter Tryd.func91, Tryd.ntmps91
  go_wp2
  go_loopw [15, 7, 9, 10, 12, 19, 20, 21] (fun i o _ _ _ _ _ _ wr => ∃ (q : Nat) (vs : List Value), q ≤ R.length ∧ i = .int .i64 q ∧ Hid (Below w.heap.size w wr) ∧ Hid (GridA wr tI tR (fun b => w.heap.size ≤ b) o vs (prj (R.take q) cols))) (fun i _ _ _ _ _ _ _ _ => R.length - (intOf i).toNat)
  case atStart => exact ⟨0, [], Nat.zero_le _, rfl, Lib.hid (Below.refl _ _), Lib.hid (GridA.nil _ _ _ _)⟩
  case round =>
    obtain ⟨q, vs, hq, rfl, HB2, HGA⟩ := hrel
    by_cases hlt : q < R.length
    · obtain ⟨b1, o1, A3, c3, rfl, hb1, hc1, hrd⟩ := (HG.out.below HB2.out HB.out).at hlt
      have HRD := Lib.hid hrd
      have HROW := Lib.hid (HR.out.vec (getD_mem' hlt [])).1
      have HNX := Lib.hid (prj_take (cols := cols) hlt)
      have HLV := Lib.hid (show vs.length = q by have := HGA.out.len; rw [prj_len, List.length_take] at this; omega)
      have hqI : (q : Int) < (R.length : Int) := by omega
      have hqn : q ≤ 1000000 := by have := HRL.out; omega
      clear hrd hb1
      generalize R.getD q [] = xr at hc1 HRD HROW HNX
      generalize wr = W5 at *
      have hs5 : w.heap.size ≤ W5.heap.size := HB2.out.size
      go_wp2
      go_loopw [21, 10, 12] (fun i o _ w4 => ∃ k : Nat, k ≤ cols.length ∧ i = .int .i64 k ∧ Hid (Below W5.heap.size W5 w4) ∧ Hid (RowA w4 W5.heap.size o (pick xr (cols.take k)))) (fun i _ _ _ => cols.length - (intOf i).toNat)
      case atStart => exact ⟨0, Nat.zero_le _, rfl, Lib.hid (Below.refl _ _), Lib.hid (World.ownsRow_nil _ _ _ _)⟩
      case round =>
        obtain ⟨k, hk2, rfl, HB3, HO⟩ := hrel
        have HBT := Lib.hid (HB2.out.trans (HB3.out.mono hs5))
        by_cases hltk : k < cols.length
        · obtain ⟨b4, o4, rfl, hb4, hc4⟩ := (HI.out.below HBT.out HB.out).at hltk
          have hdk := HD.out _ (getD_mem' hltk 0)
          have HPT := Lib.hid (pick_take (xs := xr) hltk)
          have hcl : (pick xr (cols.take k)).length = k := by rw [pick_len, List.length_take]; omega
          have HCL := Lib.hid hcl
          have hkI : (k : Int) < (cols.length : Int) := by omega
          obtain ⟨j, hj⟩ : ∃ j : Nat, cols.getD k 0 = (j : Int) := ⟨(cols.getD k 0).toNat, by omega⟩
          rw [hj] at hc4 hdk HPT
          rw [Int.toNat_natCast] at HPT
          have hjl : j < xr.length := by have := HROW.out; omega
          have hjI : (j : Int) < (xr.length : Int) := by omega
          obtain ⟨b5, o5, rfl, hb5, hc5⟩ := (HRD.out.below HB3.out (Nat.le_trans HB.out hs5)).at hjl
          clear hb4 hb5 hcl hj hdk
          generalize xr.getD j 0 = y at hc5 HPT
          generalize pick xr (cols.take k) = cs at HO HPT HCL
          go_wp2_with (at_builtin; refine wpList_append_own _ rfl _ _ 33 rfl W5.heap.size 3 i1 (.int .i64 0) 1 8 Tryd.underlying33 hi1 hy0 hy1 hy2 rfl (by decide) _ _ _ rfl (World.ownsRow.alloc HO.out _) ⟨wr.heap.size, 0, none⟩ 1 1 [.int .i64 y] rfl rfl ?c1 ?c2 ?c3 ?c4 ?c5 ?_)
          case c1 =>
            intro j u hj
            match j, hj with
            | 0, hj => simp at hj; subst hj; simp [Addr.add]
          case c2 => intro u hu; simp at hu; subst hu; rfl
          case c3 => have := HCL.out; unfold maxLen; omega
          case c4 => have := HCL.out; omega
          case c5 => have := HB3.out.size; simp; omega
          intro v' w1 hown' hgrow _
          have HO2 := Lib.hid (show RowA w1 W5.heap.size v' (cs ++ [y]) by unfold RowA; rw [List.length_append, List.length_singleton, icells_snoc]; exact hown')
          have HB4 := Lib.hid ((HB3.out.alloc HB3.out.size (.cells #[.int .i64 y] 3)).grown hgrow (by have := HB3.out.size; simp; omega) (fun q hq => (World.ownsRow.lt HO.out q hq).1))
          clear hown' hgrow
          go_wp2
          go_roundw
          case rel => exact ⟨k + 1, by omega, by go_num, HB4, Lib.hid (by rw [HPT.out]; exact HO2.out)⟩
          case measure => simp [intOf]; omega
        · have HE := Lib.hid (show cols.take k = cols from List.take_of_length_le (by omega))
          have hown := HO.out.own
          rw [HE.out] at hown
          have hol := OwR.len hown
          rw [pick_len] at hol
          obtain ⟨A4, c4, rfl⟩ := hol
          have HOW := Lib.hid hown
          have hs6 : W5.heap.size ≤ wr.heap.size := HB3.out.size
          have HG2 := Lib.hid ((HGA.out.mono (T := fun q => w.heap.size ≤ q ∧ q < W5.heap.size) (fun q h1 h2 => ⟨h1, h2⟩)).blocks (w' := wr) (fun q hq _ => HB3.out.block q hq.2))
          clear hown HO
          generalize pick xr cols = pv at HNX HOW
          go_wp2_with (at_builtin; refine wpList_append_lies _ (by rfl) (.tmp 33) (.tmp 35) 22 (by rfl) 0 33 i0 _ 1 24 Tryd.underlying22 hi0 hz0 hz1 hz2 rfl (by omega) u7 vs.length vs (by rfl) ((HG2.out.blocks (w' := wr.alloc _) (fun k hk hl => blk_alloc_lt _ _ _ hl)).outer) ⟨wr.heap.size, 0, none⟩ 1 1 [.slice A4 cols.length c4] (by rfl) (by rfl) (World.news_of_block (cs := #[.slice A4 cols.length c4]) (t := 33) (fr := (0, 0)) (heap_alloc_new wr _)) (by simp [Value.oneCell']) (by omega) (by rw [HLV.out]; unfold maxLen; omega) (by rw [HLV.out]; omega) (Nat.zero_le _) (wr.heap.size + 1) (by simp) ?_; intro gg cap w3 hown1 hgrow hat hlt3)
          have HBL := Lib.hid ((HBT.out.alloc (Nat.le_trans hs5 hs6) (.cells #[.slice A4 cols.length c4] 33)).grown hgrow (by simp; omega) (fun q hq => HGA.out.inS q hq))
          have HP := Lib.hid (((HG2.out.blocks (w' := wr.alloc (.cells #[.slice A4 cols.length c4] 33)) (fun q hq hl => blk_alloc_lt _ _ _ hl))).push ((HOW.out.blocks (w' := wr.alloc (.cells #[.slice A4 cols.length c4] 33)) (fun q hq hl _ _ => blk_alloc_lt _ _ _ hl)).mono (T := fun q => W5.heap.size ≤ q ∧ q < wr.heap.size + 1) (fun q hq hl => ⟨hq, by simpa using hl⟩)) (fun q h1 h2 => by omega) hown1 hgrow (by simpa using hat))
          clear hown1 hgrow hat hlt3
          go_wp2
          go_roundw
          case rel => exact ⟨q + 1, _, by omega, by go_num, HBL, Lib.hid (by
            rw [HNX.out]
            refine HP.out.mono (T := fun b => w.heap.size ≤ b) (fun b hb _ => ?_)
            simp at hb
            omega)⟩
          case measure => simp [intOf]; omega
    · have HE := Lib.hid (show R.take q = R from List.take_of_length_le (by omega))
      have HGE := HGA.out
      rw [HE.out] at HGE
      obtain ⟨Av, cpv, rfl, -, -⟩ := HGE.room
      have HRG := Lib.hid (OwG.readB HGE.toOwG)
      have hs5 : w.heap.size ≤ wr.heap.size := HB2.out.size
      have hRk : R.length ≤ 1000000 := by have := HRL.out; omega
      clear HGE HGA
      go_wp2_with fail
      refine (spReduce_any wr wr.heap.size _ p n cols.length (prj R cols) HRG.out (Nat.le_refl _) HF.out HPM.out hn hk).mono ?_
      rintro e w2 ⟨v2, rfl, b2, o2⟩
      have HB7 := Lib.hid b2
      have HO7 := Lib.hid o2
      obtain ⟨A4, c4, rfl⟩ := OwG.len o2
      clear b2 o2
      go_wp2
      go_ret
      exact ⟨_, rfl, HB2.out.trans (HB7.out.mono hs5), HO7.out.mono (fun b hb _ => by omega)⟩
end Go.Proofs.YtahlicbjbbpihaaDoor
