/- Spaces projected: the program's side. -/
import Derived.Test.YtahlicbjbbpihaaDoorPrjS
import Derived.Test.YtahlicbjbbpihaaDoorSpI
namespace Go.Proofs.YtahlicbjbbpihaaDoor
set_option maxRecDepth 100000
open Go Go.RowKit Go.Deep

def inIdx (n : Int) (xs : List Int) : Bool := xs.all fun i => decide (0 ≤ i ∧ i < n)
theorem inIdx_drop {n : Int} {xs : List Int} {k : Nat} (h : k < xs.length) : inIdx n (xs.drop k) = (decide (0 ≤ xs.getD k 0 ∧ xs.getD k 0 < n) && inIdx n (xs.drop (k + 1))) := by
  unfold inIdx
  rw [List.drop_eq_getElem_cons h, List.all_cons, List.getD_eq_getElem?_getD, List.getElem?_eq_getElem h]
  rfl
theorem inIdx_mem {n : Int} {xs : List Int} (h : inIdx n xs = true) : ∀ i, i ∈ xs → 0 ≤ i ∧ i < n := fun i hi => by
  unfold inIdx at h
  simpa using List.all_eq_true.1 h i hi
theorem inIdx_between (n : Int) (xs : List Int) : xs.all (between 0 (n - 1)) = inIdx n xs := by
  unfold inIdx
  congr 1
  funext i
  unfold between
  by_cases h1 : 0 ≤ i <;> by_cases h2 : i < n <;> simp [h1, h2] <;> omega
set_option maxHeartbeats 800000 in
theorem areIndices_any (w : World) (B : Nat) (v : Value) (n : Int) (xs : List Int) (hv : RdS w (fun b => b < B) v xs) (hl : xs.length ≤ 9223372036854775807) :
    Calls Tryd.prog 92 #[.int .i64 n, v] w fun e w' => e = .returned (.bool (inIdx n xs)) ∧ w = w' := by
  obtain ⟨A, c, rfl, hv'⟩ := hv
  have HV := Lib.hid (show RdS w (fun b => b < B) (.slice A xs.length c) xs from ⟨A, c, rfl, hv'⟩)
  clear hv'
  go_enter Tryd.func92, Tryd.ntmps92
  go_wp2
  go_loopw [9, 6] (fun i _ wr => ∃ k : Nat, k ≤ xs.length ∧ i = .int .i64 k ∧ wr = w ∧ Hid (inIdx n xs = inIdx n (xs.drop k))) (fun i _ _ => xs.length - (intOf i).toNat)
  case atStart => exact ⟨0, Nat.zero_le _, rfl, rfl, Lib.hid rfl⟩
  case round =>
    obtain ⟨k, hk, rfl, rfl, HE⟩ := hrel
    by_cases hlt : k < xs.length
    · obtain ⟨b1, o1, rfl, hb1, hc1⟩ := HV.out.at hlt
      have HN := Lib.hid (inIdx_drop (n := n) hlt)
      have hkI : (k : Int) < (xs.length : Int) := by omega
      clear hb1
      generalize xs.getD k 0 = y at hc1 HN
      by_cases h0 : y < 0
      · have HF := Lib.hid (show inIdx n xs = false by rw [HE.out, HN.out]; simp; omega)
        go_wp2
        go_ret
        rw [HF.out]
        exact ⟨rfl, rfl⟩
      · by_cases h1 : n ≤ y
        · have HF := Lib.hid (show inIdx n xs = false by rw [HE.out, HN.out]; simp; omega)
          go_wp2
          go_ret
          rw [HF.out]
          exact ⟨rfl, rfl⟩
        · have HY := Lib.hid (show inIdx n xs = inIdx n (xs.drop (k + 1)) by rw [HE.out, HN.out, show decide (0 ≤ y ∧ y < n) = true by simp; omega]; rfl)
          go_wp2
          go_roundw
          case rel => exact ⟨k + 1, by omega, by go_num, trivial, HY⟩
          case measure => simp [intOf]; omega
    · have HF := Lib.hid (show inIdx n xs = true by rw [HE.out, List.drop_of_length_le (by omega)]; rfl)
      go_wp2
      go_ret
      rw [HF.out]
      exact ⟨rfl, rfl⟩
def prjU (R : List (List Int)) (cols : List Int) (k : Nat) : List (List Int) := upd (fun j _ => pick (R.getD j []) cols) k (List.replicate R.length [])
theorem prjU_len (R : List (List Int)) (cols : List Int) (k : Nat) : (prjU R cols k).length = R.length := by unfold prjU; rw [upd_len, List.length_replicate]
theorem prjU_end {R : List (List Int)} {cols : List Int} {k : Nat} (h : R.length ≤ k) : prjU R cols k = prj R cols := by
  unfold prjU prj
  rw [upd_all _ (by rw [List.length_replicate]; exact h)]
  refine ext_getD [] (by simp) fun i hi => ?_
  rw [List.length_mapIdx, List.length_replicate] at hi
  rw [mapIdx_getD _ _ _ (by simpa using hi) [], map_getD _ _ _ hi []]
set_option maxHeartbeats 1600000 in
theorem projectOf_any (w : World) (B : Nat) (vb vi : Value) (p : Int) (n c : Nat) (R : List (List Int)) (cols : List Int) (hb : RdG w B vb R) (hi : RdS w (fun b => b < B) vi cols) (hB : B ≤ w.heap.size) (hf : fld p = true) (hR : Mat p n c R) (hn : n ≤ 1000000) (hk : cols.length ≤ 1000000) (hd : ∀ i, i ∈ cols → 0 ≤ i ∧ i < (c : Int)) :
    Calls Tryd.prog 93 #[.int .i64 p, .agg #[.int .i64 c, vb], vi] w (MadeSp w cols.length (rref p (prj R cols) cols.length)) := by
  obtain ⟨A1, c1, rfl⟩ := hb.len
  obtain ⟨Ai, ci, rfl, hi'⟩ := hi
  have hRn : R.length ≤ 1000000 := by rw [hR.1]; exact hn
  have hmk := make_rows R.length (by omega)
  have HVB := Lib.hid (show Below w.heap.size w ((w.alloc (.cells #[.int .i64 c, .slice A1 R.length c1] tSp)).alloc (.cells #[.int .i64 0, .slice none 0 0] tSp)) by repeat' (first | exact Below.refl _ _ | apply Below.alloc | (simp; done) | (simp; omega)))
  have HI := Lib.hid ((show RdS w (fun b => b < B) (.slice Ai cols.length ci) cols from ⟨Ai, ci, rfl, hi'⟩).below HVB.out hB)
  have HG := Lib.hid (hb.below HVB.out hB)
  have hB0 : B ≤ ((w.alloc (.cells #[.int .i64 c, .slice A1 R.length c1] tSp)).alloc (.cells #[.int .i64 0, .slice none 0 0] tSp)).heap.size := Nat.le_trans hB HVB.out.size
  have HX0 := Lib.hid ((cellsAt_new w #[.int .i64 c, .slice A1 R.length c1] tSp).alloc (.cells #[.int .i64 0, .slice none 0 0] tSp))
  have HY0 := Lib.hid (cellsAt_new' (w.alloc (.cells #[.int .i64 c, .slice A1 R.length c1] tSp)) #[.int .i64 0, .slice none 0 0] tSp _ (w.heap.size + 1) (by simp) rfl)
  have hsz0 : ((w.alloc (.cells #[.int .i64 c, .slice A1 R.length c1] tSp)).alloc (.cells #[.int .i64 0, .slice none 0 0] tSp)).heap.size = w.heap.size + 2 := by simp
  have HF := Lib.hid hf
  have HR := Lib.hid hR
  have HD := Lib.hid hd
  have HPM := Lib.hid (prj_mat hR hd)
  clear hb hi' hB hf hR hd
  go_enter Tryd.func93, Tryd.ntmps93
  go_upto_region 1 with fail
  generalize ((w.alloc (.cells #[.int .i64 c, .slice A1 R.length c1] tSp)).alloc (.cells #[.int .i64 0, .slice none 0 0] tSp)) = W at HVB HI HG hB0 HX0 HY0 hsz0 ⊢
  have hW1 : w.heap.size + 2 ≤ W.heap.size := by omega
  clear hsz0
  obtain ⟨hx0, hx1, hxf0, hxf1, hxs⟩ := HX0.out.two
  have hx0' : ∀ o, (W.alloc o).cell? ⟨w.heap.size, 0, none⟩ = some (.int .i64 c) := fun o => (World.cell?_of_block (w := W) (blk_alloc_lt W o _ (by omega))).trans hx0
  have hx1' : ∀ o, (W.alloc o).cell? ⟨w.heap.size, 1, none⟩ = some (.slice A1 R.length c1) := fun o => (World.cell?_of_block (w := W) (blk_alloc_lt W o _ (by omega))).trans hx1
  go_wp2
  go_loopw [17, 8, 9] (fun i _ _ wr => ∃ (k : Nat) (vs : List Value), k ≤ R.length ∧ i = .int .i64 k ∧ Hid (Below W.heap.size W wr) ∧ Hid (W.heap.size < wr.heap.size) ∧ Hid (GridAt wr tI tR (fun b => W.heap.size ≤ b) W.heap.size vs (prjU R cols k))) (fun i _ _ _ => R.length - (intOf i).toNat)
  case atStart => exact ⟨0, _, Nat.zero_le _, rfl, Lib.hid ((Below.refl _ _).alloc (Nat.le_refl _) _), Lib.hid (by rw [nblk_alloc]; omega), Lib.hid (by unfold prjU; rw [upd_zero]; exact made_grid W _ _ (Nat.le_refl _))⟩
  case round =>
    obtain ⟨k, vs, hk2, rfl, HB2, HS, HC⟩ := hrel
    clear hx0' hx1'
    by_cases hlt : k < R.length
    · obtain ⟨b1, o1, A3, c3, rfl, hb1, hc1, hrd⟩ := (HG.out.below HB2.out hB0).at hlt
      have HRD := Lib.hid hrd
      have HROW := Lib.hid (HR.out.vec (getD_mem' hlt [])).1
      have HLN := Lib.hid (prjU_len R cols k)
      have HST := Lib.hid (upd_step (fun j _ => pick (R.getD j []) cols) (xs := List.replicate R.length []) (k := k) (by rw [List.length_replicate]; exact hlt) [])
      have hkI : (k : Int) < (R.length : Int) := by omega
      have hBr : B ≤ wr.heap.size := Nat.le_trans hB0 HB2.out.size
      have HI2 := Lib.hid (HI.out.below HB2.out hB0)
      clear hrd hb1
      generalize R.getD k [] = xr at hc1 HRD HROW HST
      go_wp2_with fail
      refine (elementsAt_any wr B _ _ xr cols HRD.out HI2.out hBr hk (fun i hi => by rw [HROW.out]; exact HD.out i hi)).mono ?_
      rintro e w2 ⟨v2, rfl, b2, o2⟩
      have HO2 := Lib.hid o2
      have HB3 := Lib.hid b2
      have HBT := Lib.hid (HB2.out.trans (b2.mono HB2.out.size))
      have HG3 := Lib.hid ((HC.out.mono (T := fun b => W.heap.size ≤ b ∧ b < wr.heap.size) (fun q h1 h2 => ⟨h1, h2⟩)).blocks (w' := w2) (fun k hk _ => b2.block k hk.2))
      obtain ⟨A2, c2, rfl⟩ := o2.len
      clear o2 b2
      have hc := HG3.out.cell (by rw [HLN.out]; exact hlt)
      have hfz := HG3.out.outer.frozen k
      have HP := Lib.hid (HG3.out.put (by rw [HLN.out]; exact hlt) HO2.out (fun q h1 h2 => by omega))
      have HS3 := Lib.hid (Nat.lt_of_lt_of_le HS.out HB3.out.size)
      have hsr : W.heap.size ≤ wr.heap.size := HB2.out.size
      generalize vs.getD k Value.nilFunc = u2 at hc
      generalize pick xr cols = pv at HST HP HO2
      go_wp2
      go_roundw
      case rel => exact ⟨k + 1, _, by omega, by go_num, Lib.hid (HBT.out.setCell (Nat.le_refl _) _), Lib.hid (by rw [nblk_setCell]; exact HS3.out), Lib.hid (by
        unfold prjU
        rw [← HST.out]
        exact HP.out.mono (T := fun b => W.heap.size ≤ b) (fun q h _ => by omega))⟩
      case measure => simp [intOf]; omega
    · have HGE : Hid (OwG wr tI tR (fun b => W.heap.size ≤ b) (.slice (some ⟨W.heap.size, 0, none⟩) R.length R.length) (prj R cols)) := Lib.hid (by
        have := HC.out
        rw [prjU_end (by omega)] at this
        exact ⟨some ⟨W.heap.size, 0, none⟩, R.length, by rw [prj_len], Or.inr ⟨_, vs, rfl, this⟩⟩)
      have HRG := Lib.hid (OwG.readB HGE.out)
      have hs5 : W.heap.size ≤ wr.heap.size := HB2.out.size
      have HY2 := Lib.hid (HY0.out.below HB2.out (by omega))
      clear HC HGE hx0 hx1 hxf0 hxf1 hxs
      go_wp2_with fail
      refine (spanOf_any wr wr.heap.size _ p n cols.length (prj R cols) HRG.out (Nat.le_refl _) HF.out HPM.out hn hk).mono ?_
      rintro e w4 ⟨v4, rfl, b4, o4⟩
      obtain ⟨A4, c4, rfl⟩ := OwG.len o4
      have HY4 := Lib.hid (HY2.out.below b4 (by omega))
      have HB4 := Lib.hid (HVB.out.trans ((HB2.out.trans (b4.mono hs5)).mono HVB.out.size))
      have HO4 := Lib.hid (o4.mono (T := fun q => wr.heap.size ≤ q) (fun q h1 _ => h1))
      clear b4 o4
      obtain ⟨hy0, hy1, hyf0, hyf1, hys⟩ := HY4.out.two
      go_wp2
      refine bodyPost_ret (v := .agg #[.int .i64 cols.length, .slice A4 (rref p (prj R cols) cols.length).length c4]) (by simp [results, Tryd.results93, go_sem, hy0, hy1]) rfl ?_
      refine ⟨_, rfl, (by refine Below.trans HB4.out ?_; repeat' (first | exact Below.refl _ _ | apply Below.drew | apply Below.setCell | apply Below.alloc | (simp; done) | omega | (simp; omega))), (HO4.out.blocks (fun q hq _ => ?_)).mono (fun q hq _ => by omega)⟩
      repeat rw [blk_setCell_other _ _ _ _ (by dsimp only; omega)]
end Go.Proofs.YtahlicbjbbpihaaDoor
