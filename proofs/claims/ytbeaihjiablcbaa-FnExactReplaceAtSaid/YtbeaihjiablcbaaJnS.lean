/- SeqTerm, ParTerm: the program's functions, the model's. -/
import Derived.Test.YtbeaihjiablcbaaJnT
namespace Go.Proofs.Ytbeaihjiablcbaa
set_option maxRecDepth 100000
open Go Go.RowKit Go.Deep

set_option maxRecDepth 100000 in
set_option maxHeartbeats 3200000 in
theorem impl_SeqTerm (w : World) (B : Nat) (va vb : Value) (x y : List Nd) (ha : LfN w B va x) (hb : LfN w B vb y) (hB : B ≤ w.heap.size) :
    Calls Try.prog 10 #[.agg #[va], .agg #[vb]] w (IRetTermB w (jnL 15 x y) (jnOk 15 x y)) := by
  have HB0 := Lib.hid (show Below w.heap.size w (((w.alloc (.cells #[va] tTm)).alloc (.cells #[vb] tTm)).alloc (.cells #[.slice none 0 0] tTm)) from (((Below.refl _ _).alloc (Nat.le_refl _) _).alloc (by simp) _).alloc (by simp; omega) _)
  have HA0 := Lib.hid (((cellsAt_new' w #[va] tTm [va] w.heap.size rfl rfl).alloc (.cells #[vb] tTm)).alloc (.cells #[.slice none 0 0] tTm))
  have HC0 := Lib.hid ((cellsAt_new' (w.alloc (.cells #[va] tTm)) #[vb] tTm [vb] (w.heap.size + 1) (by simp) rfl).alloc (.cells #[.slice none 0 0] tTm))
  have HR0 := Lib.hid (cellsAt_new' ((w.alloc (.cells #[va] tTm)).alloc (.cells #[vb] tTm)) #[.slice none 0 0] tTm [.slice none 0 0] (w.heap.size + 2) (by simp) rfl)
  have hsz0 : (((w.alloc (.cells #[va] tTm)).alloc (.cells #[vb] tTm)).alloc (.cells #[.slice none 0 0] tTm)).heap.size = w.heap.size + 3 := by simp
  have HJ := Lib.hid (joinTerms_any (((w.alloc (.cells #[va] tTm)).alloc (.cells #[vb] tTm)).alloc (.cells #[.slice none 0 0] tTm)) B 15 va vb x y (by omega) (ha.below HB0.out hB) (hb.below HB0.out hB) (by simp; omega))
  obtain ⟨A, c, rfl⟩ := ha.len
  obtain ⟨A', c', rfl⟩ := hb.len
  clear ha hb hB
  generalize jnL 15 x y = L at *
  generalize jnOk 15 x y = ok at *
  go_enter Try.func10, Try.ntmps10
  go_wp2_with fail
  refine HJ.out.mono ?_
  rintro e w2 ⟨v2, rfl, b2, o2⟩
  obtain ⟨A2, c2, rfl⟩ := o2.len
  have HO2 := Lib.hid o2
  have HB2 := Lib.hid (HB0.out.trans (b2.mono (by rw [hsz0]; omega)))
  have HR2 := Lib.hid (HR0.out.below b2 (by rw [hsz0]; omega))
  have hr2 : w2.cell? ⟨w.heap.size + 2, 0, none⟩ = some (.slice none 0 0) := HR2.out.cell (i := 0) (by simp)
  have hrf2 := HR2.out.frozen
  have hq2 : (w2.setCell ⟨w.heap.size + 2, 0, none⟩ (.slice A2 L.length c2)).cell? ⟨w.heap.size + 2, 0, none⟩ = some (.slice A2 L.length c2) := (HR2.out.set 0 (.slice A2 L.length c2)).cell (i := 0) (by simp)
  clear b2 o2
  go_wp2
  refine bodyPost_ret (v := .tuple #[.agg #[.slice A2 L.length c2], .bool ok]) (by simp [results, Try.results10, go_sem, hq2]) rfl ?_
  refine ⟨_, rfl, HB2.out.setCell (by dsimp only; omega) _, ?_⟩
  exact (HO2.out.blocks (fun q hq hql => blk_setCell_other _ _ _ _ (by dsimp only; rw [hsz0] at hq; omega))).mono (fun q hq _ => by rw [hsz0] at hq; omega)
set_option maxRecDepth 100000 in
set_option maxHeartbeats 3200000 in
theorem impl_ParTerm (w : World) (B : Nat) (va vb : Value) (x y : List Nd) (ha : LfN w B va x) (hb : LfN w B vb y) (hB : B ≤ w.heap.size) :
    Calls Try.prog 15 #[.agg #[va], .agg #[vb]] w (IRetTermB w (jnL 16 x y) (jnOk 16 x y)) := by
  have HB0 := Lib.hid (show Below w.heap.size w (((w.alloc (.cells #[va] tTm)).alloc (.cells #[vb] tTm)).alloc (.cells #[.slice none 0 0] tTm)) from (((Below.refl _ _).alloc (Nat.le_refl _) _).alloc (by simp) _).alloc (by simp; omega) _)
  have HA0 := Lib.hid (((cellsAt_new' w #[va] tTm [va] w.heap.size rfl rfl).alloc (.cells #[vb] tTm)).alloc (.cells #[.slice none 0 0] tTm))
  have HC0 := Lib.hid ((cellsAt_new' (w.alloc (.cells #[va] tTm)) #[vb] tTm [vb] (w.heap.size + 1) (by simp) rfl).alloc (.cells #[.slice none 0 0] tTm))
  have HR0 := Lib.hid (cellsAt_new' ((w.alloc (.cells #[va] tTm)).alloc (.cells #[vb] tTm)) #[.slice none 0 0] tTm [.slice none 0 0] (w.heap.size + 2) (by simp) rfl)
  have hsz0 : (((w.alloc (.cells #[va] tTm)).alloc (.cells #[vb] tTm)).alloc (.cells #[.slice none 0 0] tTm)).heap.size = w.heap.size + 3 := by simp
  have HJ := Lib.hid (joinTerms_any (((w.alloc (.cells #[va] tTm)).alloc (.cells #[vb] tTm)).alloc (.cells #[.slice none 0 0] tTm)) B 16 va vb x y (by omega) (ha.below HB0.out hB) (hb.below HB0.out hB) (by simp; omega))
  obtain ⟨A, c, rfl⟩ := ha.len
  obtain ⟨A', c', rfl⟩ := hb.len
  clear ha hb hB
  generalize jnL 16 x y = L at *
  generalize jnOk 16 x y = ok at *
  go_enter Try.func15, Try.ntmps15
  go_wp2_with fail
  refine HJ.out.mono ?_
  rintro e w2 ⟨v2, rfl, b2, o2⟩
  obtain ⟨A2, c2, rfl⟩ := o2.len
  have HO2 := Lib.hid o2
  have HB2 := Lib.hid (HB0.out.trans (b2.mono (by rw [hsz0]; omega)))
  have HR2 := Lib.hid (HR0.out.below b2 (by rw [hsz0]; omega))
  have hr2 : w2.cell? ⟨w.heap.size + 2, 0, none⟩ = some (.slice none 0 0) := HR2.out.cell (i := 0) (by simp)
  have hrf2 := HR2.out.frozen
  have hq2 : (w2.setCell ⟨w.heap.size + 2, 0, none⟩ (.slice A2 L.length c2)).cell? ⟨w.heap.size + 2, 0, none⟩ = some (.slice A2 L.length c2) := (HR2.out.set 0 (.slice A2 L.length c2)).cell (i := 0) (by simp)
  clear b2 o2
  go_wp2
  refine bodyPost_ret (v := .tuple #[.agg #[.slice A2 L.length c2], .bool ok]) (by simp [results, Try.results15, go_sem, hq2]) rfl ?_
  refine ⟨_, rfl, HB2.out.setCell (by dsimp only; omega) _, ?_⟩
  exact (HO2.out.blocks (fun q hq hql => blk_setCell_other _ _ _ _ (by dsimp only; rw [hsz0] at hq; omega))).mono (fun q hq _ => by rw [hsz0] at hq; omega)
set_option maxRecDepth 100000 in
set_option maxHeartbeats 3200000 in
theorem tmJoin_any (w : World) (B : Nat) (k : Int) (va vb : Value) (x y : List Nd) (ha : RdN w (fun b => b < B) va x) (hb : RdN w (fun b => b < B) vb y) (hB : B ≤ w.heap.size) (hl : x.length + y.length + 1 ≤ 1000000) :
    Calls Try.prog 41 #[.agg #[va], .agg #[vb], .int .i64 k] w fun e w' => ∃ v, e = .returned (.agg #[v]) ∧ Below w.heap.size w w' ∧ RowN w' w.heap.size v (x ++ (y ++ [jointN k])) := by
  have HB0 := Lib.hid (show Below w.heap.size w (((w.alloc (.cells #[va] tTm)).alloc (.cells #[vb] tTm)).alloc (.cells #[.slice none 0 0] tTm)) from (((Below.refl _ _).alloc (Nat.le_refl _) _).alloc (by simp) _).alloc (by simp; omega) _)
  have HA0 := Lib.hid (((cellsAt_new' w #[va] tTm [va] w.heap.size rfl rfl).alloc (.cells #[vb] tTm)).alloc (.cells #[.slice none 0 0] tTm))
  have HC0 := Lib.hid ((cellsAt_new' (w.alloc (.cells #[va] tTm)) #[vb] tTm [vb] (w.heap.size + 1) (by simp) rfl).alloc (.cells #[.slice none 0 0] tTm))
  have HR0 := Lib.hid (cellsAt_new' ((w.alloc (.cells #[va] tTm)).alloc (.cells #[vb] tTm)) #[.slice none 0 0] tTm [.slice none 0 0] (w.heap.size + 2) (by simp) rfl)
  have hsz0 : (((w.alloc (.cells #[va] tTm)).alloc (.cells #[vb] tTm)).alloc (.cells #[.slice none 0 0] tTm)).heap.size = w.heap.size + 3 := by simp
  have HB1 := Lib.hid (show Below w.heap.size w ((((w.alloc (.cells #[va] tTm)).alloc (.cells #[vb] tTm)).alloc (.cells #[.slice none 0 0] tTm)).alloc (.cells #[] tNd)) from HB0.out.alloc (by rw [hsz0]; omega) _)
  have HX := Lib.hid ha
  have HY := Lib.hid hb
  have HB := Lib.hid hB
  have HJ := Lib.hid (show RowN ((((w.alloc (.cells #[va] tTm)).alloc (.cells #[vb] tTm)).alloc (.cells #[.slice none 0 0] tTm)).alloc (.cells #[] tNd)) (w.heap.size + 3) (.slice (some ⟨w.heap.size + 3, 0, none⟩) 0 0) [] from by have := World.ownsRow_lit (base := w.heap.size + 3) (size := 3) (e := tNd) (((w.alloc (.cells #[va] tTm)).alloc (.cells #[vb] tTm)).alloc (.cells #[.slice none 0 0] tTm)) #[] 0 (by rw [hsz0]; omega) (by unfold maxLen; omega) rfl; rw [hsz0] at this; exact this)
  obtain ⟨A, c, rfl⟩ := ha.len
  obtain ⟨A', c', rfl⟩ := hb.len
  have hX1 := ha.below HB1.out hB
  have hY1 := hb.below HB1.out hB
  have HX1 := Lib.hid hX1
  have HL1 := Lib.hid (show ([] : List Nd).length + x.length ≤ 1000000 by simp; omega)
  have HL2 := Lib.hid (show x.length + y.length ≤ 1000000 by omega)
  have HL3 := Lib.hid (show (x ++ y).length + [jointN k].length ≤ 1000000 by simp; omega)
  clear ha hb hB hX1 hY1 hl
  obtain ⟨z, HZ⟩ : ∃ z, Hid (x ++ (y ++ [jointN k]) = z) := ⟨_, Lib.hid rfl⟩
  rw [HZ.out]
  go_enter Try.func41, Try.ntmps41
  go_wp2_with (at_builtin; refine wpList_joinN (by rfl) (.tmp 8) (.tmp 10) (by rfl) _ (w.heap.size + 3) _ [] x _ A _ c (by rfl) HJ.out (by rfl) HX1.out (by simp) HL1.out ?_)
  intro v1 w1 hj1 hb1
  have HJ1 := Lib.hid hj1
  have HB2 : Hid (Below w.heap.size w w1) := Lib.hid (HB1.out.trans (hb1.mono (by omega)))
  have HC1 := Lib.hid ((HC0.out.alloc (.cells #[] tNd)).below hb1 (by omega))
  have HR1 := Lib.hid ((HR0.out.alloc (.cells #[] tNd)).below hb1 (by omega))
  have hc1 : w1.cell? ⟨w.heap.size + 1, 0, none⟩ = some (.slice A' y.length c') := HC1.out.cell (i := 0) (by simp)
  have HY2 := Lib.hid (HY.out.below HB2.out HB.out)
  have hsz1 : w.heap.size + 3 ≤ w1.heap.size := Nat.le_trans (by simp) hb1.size
  clear hj1 hb1
  go_wp2_with (at_builtin; refine wpList_joinN (by rfl) (.tmp 12) (.tmp 14) (by rfl) _ (w.heap.size + 3) _ x y _ A' _ c' (by rfl) HJ1.out (by rfl) HY2.out hsz1 HL2.out ?_)
  intro v2 w2 hj2 hb2
  have HJ2 := Lib.hid hj2
  have HB3 : Hid (Below w.heap.size w w2) := Lib.hid (HB2.out.trans (hb2.mono (by omega)))
  have HR2 := Lib.hid (HR1.out.below hb2 (by omega))
  have hsz2 : w1.heap.size ≤ w2.heap.size := hb2.size
  have HND := Lib.hid (rdN_one (n := jointN k) (cellsAt_new' w2 #[.int .i64 k, .int .i64 0, .string ByteArray.empty] tNd [.int .i64 k, .int .i64 0, .string ByteArray.empty] w2.heap.size rfl rfl))
  have HJ2' := Lib.hid (HJ2.out.below (show Below w2.heap.size w2 (w2.alloc (.cells #[.int .i64 k, .int .i64 0, .string ByteArray.empty] tNd)) from (Below.refl _ _).alloc (Nat.le_refl _) _))
  clear hj2 hb2 hc1
  go_wp2_with (at_builtin; refine wpList_joinN (by rfl) (.tmp 16) (.tmp 19) (by rfl) _ (w.heap.size + 3) _ (x ++ y) [jointN k] _ _ 1 1 (by rfl) HJ2'.out (by rfl) HND.out (by simp; omega) HL3.out ?_)
  intro v3 w3 hj3 hb3
  have HB4 : Hid (Below w.heap.size w w3) := Lib.hid ((HB3.out.alloc (by omega) _).trans (hb3.mono (by omega)))
  have HR3 := Lib.hid ((HR2.out.alloc (.cells #[.int .i64 k, .int .i64 0, .string ByteArray.empty] tNd)).below hb3 (by omega))
  have hr3 : w3.cell? ⟨w.heap.size + 2, 0, none⟩ = some (.slice none 0 0) := HR3.out.cell (i := 0) (by simp)
  have hrf3 := HR3.out.frozen
  rw [HZ.out] at hj3
  obtain ⟨A3, c3, rfl⟩ := hj3.form
  have HJ3 := Lib.hid hj3
  have hq3 : (w3.setCell ⟨w.heap.size + 2, 0, none⟩ (.slice A3 z.length c3)).cell? ⟨w.heap.size + 2, 0, none⟩ = some (.slice A3 z.length c3) := (HR3.out.set 0 (.slice A3 z.length c3)).cell (i := 0) (by simp)
  clear hj3 hb3
  go_wp2
  refine bodyPost_ret (v := .agg #[.slice A3 z.length c3]) (by simp [results, Try.results41, go_sem, hq3]) rfl ?_
  exact ⟨_, rfl, HB4.out.setCell (by dsimp only; omega) _, RowN.mono (HJ3.out.set (by omega)) (by omega)⟩
set_option maxRecDepth 100000 in
set_option maxHeartbeats 3200000 in
theorem tmSeq_any (w : World) (B : Nat) (va vb : Value) (x y : List Nd) (ha : RdN w (fun b => b < B) va x) (hb : RdN w (fun b => b < B) vb y) (hB : B ≤ w.heap.size) (hl : x.length + y.length + 1 ≤ 1000000) :
    Calls Try.prog 23 #[.agg #[va], .agg #[vb]] w fun e w' => ∃ v, e = .returned (.agg #[v]) ∧ Below w.heap.size w w' ∧ RowN w' w.heap.size v (x ++ (y ++ [jointN 15])) := by
  have HB0 := Lib.hid (show Below w.heap.size w (((w.alloc (.cells #[va] tTm)).alloc (.cells #[vb] tTm)).alloc (.cells #[.slice none 0 0] tTm)) from (((Below.refl _ _).alloc (Nat.le_refl _) _).alloc (by simp) _).alloc (by simp; omega) _)
  have HA0 := Lib.hid (((cellsAt_new' w #[va] tTm [va] w.heap.size rfl rfl).alloc (.cells #[vb] tTm)).alloc (.cells #[.slice none 0 0] tTm))
  have HC0 := Lib.hid ((cellsAt_new' (w.alloc (.cells #[va] tTm)) #[vb] tTm [vb] (w.heap.size + 1) (by simp) rfl).alloc (.cells #[.slice none 0 0] tTm))
  have HR0 := Lib.hid (cellsAt_new' ((w.alloc (.cells #[va] tTm)).alloc (.cells #[vb] tTm)) #[.slice none 0 0] tTm [.slice none 0 0] (w.heap.size + 2) (by simp) rfl)
  have hsz0 : (((w.alloc (.cells #[va] tTm)).alloc (.cells #[vb] tTm)).alloc (.cells #[.slice none 0 0] tTm)).heap.size = w.heap.size + 3 := by simp
  have HJ := Lib.hid (tmJoin_any (((w.alloc (.cells #[va] tTm)).alloc (.cells #[vb] tTm)).alloc (.cells #[.slice none 0 0] tTm)) B 15 va vb x y (ha.below HB0.out hB) (hb.below HB0.out hB) (by simp; omega) hl)
  obtain ⟨A, c, rfl⟩ := ha.len
  obtain ⟨A', c', rfl⟩ := hb.len
  clear ha hb hB
  generalize x ++ (y ++ [jointN 15]) = z at *
  go_enter Try.func23, Try.ntmps23
  go_wp2_with fail
  refine HJ.out.mono ?_
  rintro e w2 ⟨v2, rfl, b2, o2⟩
  obtain ⟨A2, c2, rfl⟩ := o2.form
  have HO2 := Lib.hid o2
  have HB2 := Lib.hid (HB0.out.trans (b2.mono (by rw [hsz0]; omega)))
  have HR2 := Lib.hid (HR0.out.below b2 (by rw [hsz0]; omega))
  have hr2 : w2.cell? ⟨w.heap.size + 2, 0, none⟩ = some (.slice none 0 0) := HR2.out.cell (i := 0) (by simp)
  have hrf2 := HR2.out.frozen
  have hq2 : (w2.setCell ⟨w.heap.size + 2, 0, none⟩ (.slice A2 z.length c2)).cell? ⟨w.heap.size + 2, 0, none⟩ = some (.slice A2 z.length c2) := (HR2.out.set 0 (.slice A2 z.length c2)).cell (i := 0) (by simp)
  clear b2 o2
  go_wp2
  refine bodyPost_ret (v := .agg #[.slice A2 z.length c2]) (by simp [results, Try.results23, go_sem, hq2]) rfl ?_
  exact ⟨_, rfl, HB2.out.setCell (by dsimp only; omega) _, RowN.mono (HO2.out.set (by rw [hsz0]; omega)) (by rw [hsz0]; omega)⟩
set_option maxRecDepth 100000 in
set_option maxHeartbeats 3200000 in
theorem tmPar_any (w : World) (B : Nat) (va vb : Value) (x y : List Nd) (ha : RdN w (fun b => b < B) va x) (hb : RdN w (fun b => b < B) vb y) (hB : B ≤ w.heap.size) (hl : x.length + y.length + 1 ≤ 1000000) :
    Calls Try.prog 29 #[.agg #[va], .agg #[vb]] w fun e w' => ∃ v, e = .returned (.agg #[v]) ∧ Below w.heap.size w w' ∧ RowN w' w.heap.size v (x ++ (y ++ [jointN 16])) := by
  have HB0 := Lib.hid (show Below w.heap.size w (((w.alloc (.cells #[va] tTm)).alloc (.cells #[vb] tTm)).alloc (.cells #[.slice none 0 0] tTm)) from (((Below.refl _ _).alloc (Nat.le_refl _) _).alloc (by simp) _).alloc (by simp; omega) _)
  have HA0 := Lib.hid (((cellsAt_new' w #[va] tTm [va] w.heap.size rfl rfl).alloc (.cells #[vb] tTm)).alloc (.cells #[.slice none 0 0] tTm))
  have HC0 := Lib.hid ((cellsAt_new' (w.alloc (.cells #[va] tTm)) #[vb] tTm [vb] (w.heap.size + 1) (by simp) rfl).alloc (.cells #[.slice none 0 0] tTm))
  have HR0 := Lib.hid (cellsAt_new' ((w.alloc (.cells #[va] tTm)).alloc (.cells #[vb] tTm)) #[.slice none 0 0] tTm [.slice none 0 0] (w.heap.size + 2) (by simp) rfl)
  have hsz0 : (((w.alloc (.cells #[va] tTm)).alloc (.cells #[vb] tTm)).alloc (.cells #[.slice none 0 0] tTm)).heap.size = w.heap.size + 3 := by simp
  have HJ := Lib.hid (tmJoin_any (((w.alloc (.cells #[va] tTm)).alloc (.cells #[vb] tTm)).alloc (.cells #[.slice none 0 0] tTm)) B 16 va vb x y (ha.below HB0.out hB) (hb.below HB0.out hB) (by simp; omega) hl)
  obtain ⟨A, c, rfl⟩ := ha.len
  obtain ⟨A', c', rfl⟩ := hb.len
  clear ha hb hB
  generalize x ++ (y ++ [jointN 16]) = z at *
  go_enter Try.func29, Try.ntmps29
  go_wp2_with fail
  refine HJ.out.mono ?_
  rintro e w2 ⟨v2, rfl, b2, o2⟩
  obtain ⟨A2, c2, rfl⟩ := o2.form
  have HO2 := Lib.hid o2
  have HB2 := Lib.hid (HB0.out.trans (b2.mono (by rw [hsz0]; omega)))
  have HR2 := Lib.hid (HR0.out.below b2 (by rw [hsz0]; omega))
  have hr2 : w2.cell? ⟨w.heap.size + 2, 0, none⟩ = some (.slice none 0 0) := HR2.out.cell (i := 0) (by simp)
  have hrf2 := HR2.out.frozen
  have hq2 : (w2.setCell ⟨w.heap.size + 2, 0, none⟩ (.slice A2 z.length c2)).cell? ⟨w.heap.size + 2, 0, none⟩ = some (.slice A2 z.length c2) := (HR2.out.set 0 (.slice A2 z.length c2)).cell (i := 0) (by simp)
  clear b2 o2
  go_wp2
  refine bodyPost_ret (v := .agg #[.slice A2 z.length c2]) (by simp [results, Try.results29, go_sem, hq2]) rfl ?_
  exact ⟨_, rfl, HB2.out.setCell (by dsimp only; omega) _, RowN.mono (HO2.out.set (by rw [hsz0]; omega)) (by rw [hsz0]; omega)⟩
set_option maxRecDepth 100000 in
set_option maxHeartbeats 3200000 in
/-- A term if it is valid. -/
theorem tmIf_any (w : World) (B : Nat) (v : Value) (x : List Nd) (hv : LfN w B v x) (hB : B ≤ w.heap.size) :
    Calls Try.prog 22 #[.agg #[v]] w fun e w' => e = .returned (.tuple #[.agg #[if okS x = true then v else .slice none 0 0], .bool (okS x)]) ∧ Below w.heap.size w w' := by
  have HB0 := Lib.hid (show Below w.heap.size w ((w.alloc (.cells #[v] tTm)).alloc (.cells #[.slice none 0 0] tTm)) from ((Below.refl _ _).alloc (Nat.le_refl _) _).alloc (by simp) _)
  have HSC := Lib.hid (tmScan_any ((w.alloc (.cells #[v] tTm)).alloc (.cells #[.slice none 0 0] tTm)) B v x (hv.below HB0.out hB) (by simp; omega))
  have HT0 := Lib.hid ((cellsAt_new' w #[v] tTm [v] w.heap.size rfl rfl).alloc (.cells #[.slice none 0 0] tTm))
  have HR0 := Lib.hid (cellsAt_new' (w.alloc (.cells #[v] tTm)) #[.slice none 0 0] tTm [.slice none 0 0] (w.heap.size + 1) (by simp) rfl)
  have hsz0 : ((w.alloc (.cells #[v] tTm)).alloc (.cells #[.slice none 0 0] tTm)).heap.size = w.heap.size + 2 := by simp
  obtain ⟨A, c, rfl⟩ := hv.len
  clear hv hB
  obtain ⟨ok, HOK⟩ : ∃ ok, Hid (okS x = ok) := ⟨_, Lib.hid rfl⟩
  rw [HOK.out]
  go_enter Try.func22, Try.ntmps22
  go_wp2_with fail
  refine HSC.out.mono ?_
  rintro e w2 ⟨v0, v1, v2, rfl, b2, -, ⟨A0, n0, c0, rfl⟩, ⟨A1, n1, c1, rfl⟩, ⟨A2, n2, c2, rfl⟩⟩
  rw [HOK.out]
  have HB2 := Lib.hid (HB0.out.trans (b2.mono (by rw [hsz0]; omega)))
  have HT2 := Lib.hid (HT0.out.below b2 (by rw [hsz0]; omega))
  have HR2 := Lib.hid (HR0.out.below b2 (by rw [hsz0]; omega))
  have hsz2 : w.heap.size + 2 ≤ w2.heap.size := by rw [← hsz0]; exact b2.size
  have ht0 : w2.cell? ⟨w.heap.size, 0, none⟩ = some (.slice A x.length c) := HT2.out.cell (i := 0) (by simp)
  have hr0 : w2.cell? ⟨w.heap.size + 1, 0, none⟩ = some (.slice none 0 0) := HR2.out.cell (i := 0) (by simp)
  have hrf := HR2.out.frozen
  have hlt0 : w.heap.size < w2.heap.size := by omega
  have hlt1 : w.heap.size + 1 < w2.heap.size := by omega
  have HQ := Lib.hid (fun u : Value => ((HR2.out.set 0 u).alloc (.cells #[.slice A0 n0 c0, .slice A1 n1 c1, .slice A2 n2 c2] tInfo)).cell (i := 0) (by simp))
  clear b2
  cases ok with
  | false =>
    have hq : ((w2.setCell ⟨w.heap.size + 1, 0, none⟩ (.slice none 0 0)).alloc (.cells #[.slice A0 n0 c0, .slice A1 n1 c1, .slice A2 n2 c2] tInfo)).cell? ⟨w.heap.size + 1, 0, none⟩ = some (.slice none 0 0) := HQ.out _
    go_wp2
    refine bodyPost_ret (v := .tuple #[.agg #[.slice none 0 0], .bool false]) (by simp [results, Try.results22, go_sem, hq]) rfl ?_
    exact ⟨rfl, (HB2.out.setCell (by dsimp only; omega) _).alloc (by simp; omega) _⟩
  | true =>
    have hq : ((w2.setCell ⟨w.heap.size + 1, 0, none⟩ (.slice A x.length c)).alloc (.cells #[.slice A0 n0 c0, .slice A1 n1 c1, .slice A2 n2 c2] tInfo)).cell? ⟨w.heap.size + 1, 0, none⟩ = some (.slice A x.length c) := HQ.out _
    go_wp2
    refine bodyPost_ret (v := .tuple #[.agg #[.slice A x.length c], .bool true]) (by simp [results, Try.results22, go_sem, hq]) rfl ?_
    exact ⟨rfl, (HB2.out.setCell (by dsimp only; omega) _).alloc (by simp; omega) _⟩
set_option maxRecDepth 100000 in
set_option maxHeartbeats 6400000 in
theorem spec_SeqTerm (w : World) (B : Nat) (va vb : Value) (x y : List Nd) (ha : LfN w B va x) (hb : LfN w B vb y) (hB : B ≤ w.heap.size) (_hx : szN x ≤ 1048576) (_hy : szN y ≤ 1048576) :
    Calls Try.prog 8 #[.agg #[va], .agg #[vb]] w (SRetTermB w (jnL 15 x y) (jnOk 15 x y)) := by
  have HB0 := Lib.hid (show Below w.heap.size w (((w.alloc (.cells #[va] tTm)).alloc (.cells #[vb] tTm)).alloc (.cells #[.slice none 0 0] tTm)) from (((Below.refl _ _).alloc (Nat.le_refl _) _).alloc (by simp) _).alloc (by simp; omega) _)
  have HA0 := Lib.hid (((cellsAt_new' w #[va] tTm [va] w.heap.size rfl rfl).alloc (.cells #[vb] tTm)).alloc (.cells #[.slice none 0 0] tTm))
  have HC0 := Lib.hid ((cellsAt_new' (w.alloc (.cells #[va] tTm)) #[vb] tTm [vb] (w.heap.size + 1) (by simp) rfl).alloc (.cells #[.slice none 0 0] tTm))
  have HR0 := Lib.hid (cellsAt_new' ((w.alloc (.cells #[va] tTm)).alloc (.cells #[vb] tTm)) #[.slice none 0 0] tTm [.slice none 0 0] (w.heap.size + 2) (by simp) rfl)
  have hsz0 : (((w.alloc (.cells #[va] tTm)).alloc (.cells #[vb] tTm)).alloc (.cells #[.slice none 0 0] tTm)).heap.size = w.heap.size + 3 := by simp
  have HVA := Lib.hid (tmValid_any (((w.alloc (.cells #[va] tTm)).alloc (.cells #[vb] tTm)).alloc (.cells #[.slice none 0 0] tTm)) B va x (ha.below HB0.out hB) (by simp; omega))
  have HVB := Lib.hid (fun (w' : World) (h : Below w.heap.size w w') => tmValid_any w' B vb y (hb.below h hB) (Nat.le_trans hB h.size))
  have HTS := Lib.hid (fun (w' : World) (h : Below w.heap.size w w') (hl : x.length + y.length + 1 ≤ 1000000) => tmSeq_any w' B va vb x y (ha.1.below h hB) (hb.1.below h hB) (Nat.le_trans hB h.size) hl)
  have HX := Lib.hid ha
  have HY := Lib.hid hb
  obtain ⟨A, c, rfl⟩ := ha.len
  obtain ⟨A', c', rfl⟩ := hb.len
  clear ha hb hB
  cases hoa : okS x with
  | false =>
    have H3 : Hid (jnOk 15 x y = false) := Lib.hid (by unfold jnOk tyOk; rw [← ok_both, hoa]; rfl)
    have H1 : Hid (jnL 15 x y = []) := Lib.hid (by unfold jnL; rw [H3.out]; rfl)
    have HOA := Lib.hid hoa
    clear hoa
    go_enter Try.func8, Try.ntmps8
    go_wp2_with fail
    refine HVA.out.mono ?_
    rintro e w2 ⟨rfl, b2⟩
    rw [HOA.out]
    have HB2 := Lib.hid (HB0.out.trans (b2.mono (by rw [hsz0]; omega)))
    have HA2 := Lib.hid (HA0.out.below b2 (by rw [hsz0]; omega))
    have HC2 := Lib.hid (HC0.out.below b2 (by rw [hsz0]; omega))
    have hsz2 : w.heap.size + 3 ≤ w2.heap.size := by rw [← hsz0]; exact b2.size
    have HR2 := Lib.hid (HR0.out.below b2 (by rw [hsz0]; omega))
    have hr2 : w2.cell? ⟨w.heap.size + 2, 0, none⟩ = some (.slice none 0 0) := HR2.out.cell (i := 0) (by simp)
    have hrf2 := HR2.out.frozen
    have hq2 : (w2.setCell ⟨w.heap.size + 2, 0, none⟩ (.slice none 0 0)).cell? ⟨w.heap.size + 2, 0, none⟩ = some (.slice none 0 0) := (HR2.out.set 0 (.slice none 0 0)).cell (i := 0) (by simp)
    have hc2 : w2.cell? ⟨w.heap.size + 1, 0, none⟩ = some (.slice A' y.length c') := HC2.out.cell (i := 0) (by simp)
    clear b2
    go_wp2
    refine bodyPost_ret (v := .tuple #[.agg #[.slice none 0 0], .bool false]) (by simp [results, Try.results8, go_sem, hq2]) rfl ?_
    unfold SRetTermB
    rw [H1.out, H3.out]
    exact ⟨_, rfl, HB2.out.setCell (by dsimp only; omega) _, ownN_nil' _ _⟩
  | true =>
    cases hob : okS y with
    | false =>
      have H3 : Hid (jnOk 15 x y = false) := Lib.hid (by unfold jnOk tyOk; rw [← ok_both, ← ok_both, hoa, hob]; rfl)
      have H1 : Hid (jnL 15 x y = []) := Lib.hid (by unfold jnL; rw [H3.out]; rfl)
      have HOA := Lib.hid hoa
      have HOB := Lib.hid hob
      clear hoa hob
      go_enter Try.func8, Try.ntmps8
      go_wp2_with fail
      refine HVA.out.mono ?_
      rintro e w2 ⟨rfl, b2⟩
      rw [HOA.out]
      have HB2 := Lib.hid (HB0.out.trans (b2.mono (by rw [hsz0]; omega)))
      have HA2 := Lib.hid (HA0.out.below b2 (by rw [hsz0]; omega))
      have HC2 := Lib.hid (HC0.out.below b2 (by rw [hsz0]; omega))
      have hsz2 : w.heap.size + 3 ≤ w2.heap.size := by rw [← hsz0]; exact b2.size
      have HR2 := Lib.hid (HR0.out.below b2 (by rw [hsz0]; omega))
      have hr2 : w2.cell? ⟨w.heap.size + 2, 0, none⟩ = some (.slice none 0 0) := HR2.out.cell (i := 0) (by simp)
      have hrf2 := HR2.out.frozen
      have hq2 : (w2.setCell ⟨w.heap.size + 2, 0, none⟩ (.slice none 0 0)).cell? ⟨w.heap.size + 2, 0, none⟩ = some (.slice none 0 0) := (HR2.out.set 0 (.slice none 0 0)).cell (i := 0) (by simp)
      have hc2 : w2.cell? ⟨w.heap.size + 1, 0, none⟩ = some (.slice A' y.length c') := HC2.out.cell (i := 0) (by simp)
      clear b2
      go_wp2_with fail
      refine (HVB.out _ HB2.out).mono ?_
      rintro e w3 ⟨rfl, b3⟩
      rw [HOB.out]
      have HB3 := Lib.hid (HB2.out.trans (b3.mono HB2.out.size))
      have HA3 := Lib.hid (HA2.out.below b3 (by omega))
      have HC3 := Lib.hid (HC2.out.below b3 (by omega))
      have hsz3 : w2.heap.size ≤ w3.heap.size := b3.size
      have HR3 := Lib.hid (HR2.out.below b3 (by omega))
      have hr3 : w3.cell? ⟨w.heap.size + 2, 0, none⟩ = some (.slice none 0 0) := HR3.out.cell (i := 0) (by simp)
      have hrf3 := HR3.out.frozen
      have hq3 : (w3.setCell ⟨w.heap.size + 2, 0, none⟩ (.slice none 0 0)).cell? ⟨w.heap.size + 2, 0, none⟩ = some (.slice none 0 0) := (HR3.out.set 0 (.slice none 0 0)).cell (i := 0) (by simp)
      have ha3 : w3.cell? ⟨w.heap.size, 0, none⟩ = some (.slice A x.length c) := HA3.out.cell (i := 0) (by simp)
      have hc3 : w3.cell? ⟨w.heap.size + 1, 0, none⟩ = some (.slice A' y.length c') := HC3.out.cell (i := 0) (by simp)
      clear b3 hc2 hr2 hrf2 hq2
      go_wp2
      refine bodyPost_ret (v := .tuple #[.agg #[.slice none 0 0], .bool false]) (by simp [results, Try.results8, go_sem, hq3]) rfl ?_
      unfold SRetTermB
      rw [H1.out, H3.out]
      exact ⟨_, rfl, HB3.out.setCell (by dsimp only; omega) _, ownN_nil' _ _⟩
    | true =>
      have H3 : Hid (jnOk 15 x y = okS (x ++ (y ++ [jointN 15]))) := Lib.hid (by unfold jnOk tyOk; rw [← ok_both, ← ok_both, ← ok_both, hoa, hob]; rfl)
      have H1 : Hid (jnL 15 x y = if okS (x ++ (y ++ [jointN 15])) = true then x ++ (y ++ [jointN 15]) else []) := Lib.hid (by unfold jnL; rw [H3.out])
      have hlx : x.length ≤ 400 ∧ y.length ≤ 400 := by
        unfold okS at hoa hob
        simp at hoa hob
        omega
      have HLX := Lib.hid hlx
      have HIF := Lib.hid (fun (w' : World) (v : Value) (B2 : Nat) (h : RdN w' (fun b => b < B2) v (x ++ (y ++ [jointN 15]))) (h2 : B2 ≤ w'.heap.size) => tmIf_any w' B2 v (x ++ (y ++ [jointN 15])) (LfN.join HX.out HY.out (by omega) h) h2)
      have HOL : Hid (okS (x ++ (y ++ [jointN 15])) = true → x.length + y.length + 1 ≤ 400) := Lib.hid (fun h => by
        unfold okS at h
        simp at h
        omega)
      have hl3 : x.length + y.length + 1 ≤ 1000000 := by omega
      have HL3 := Lib.hid hl3
      have HOA := Lib.hid hoa
      have HOB := Lib.hid hob
      clear hoa hob hlx hl3
      obtain ⟨z, HZ⟩ : ∃ z, Hid (x ++ (y ++ [jointN 15]) = z) := ⟨_, Lib.hid rfl⟩
      rw [HZ.out] at H1 H3 HOL
      simp only [HZ.out] at HIF HTS
      go_enter Try.func8, Try.ntmps8
      go_wp2_with fail
      refine HVA.out.mono ?_
      rintro e w2 ⟨rfl, b2⟩
      rw [HOA.out]
      have HB2 := Lib.hid (HB0.out.trans (b2.mono (by rw [hsz0]; omega)))
      have HA2 := Lib.hid (HA0.out.below b2 (by rw [hsz0]; omega))
      have HC2 := Lib.hid (HC0.out.below b2 (by rw [hsz0]; omega))
      have hsz2 : w.heap.size + 3 ≤ w2.heap.size := by rw [← hsz0]; exact b2.size
      have HR2 := Lib.hid (HR0.out.below b2 (by rw [hsz0]; omega))
      have hr2 : w2.cell? ⟨w.heap.size + 2, 0, none⟩ = some (.slice none 0 0) := HR2.out.cell (i := 0) (by simp)
      have hrf2 := HR2.out.frozen
      have hq2 : (w2.setCell ⟨w.heap.size + 2, 0, none⟩ (.slice none 0 0)).cell? ⟨w.heap.size + 2, 0, none⟩ = some (.slice none 0 0) := (HR2.out.set 0 (.slice none 0 0)).cell (i := 0) (by simp)
      have hc2 : w2.cell? ⟨w.heap.size + 1, 0, none⟩ = some (.slice A' y.length c') := HC2.out.cell (i := 0) (by simp)
      clear b2
      go_wp2_with fail
      refine (HVB.out _ HB2.out).mono ?_
      rintro e w3 ⟨rfl, b3⟩
      rw [HOB.out]
      have HB3 := Lib.hid (HB2.out.trans (b3.mono HB2.out.size))
      have HA3 := Lib.hid (HA2.out.below b3 (by omega))
      have HC3 := Lib.hid (HC2.out.below b3 (by omega))
      have hsz3 : w2.heap.size ≤ w3.heap.size := b3.size
      have HR3 := Lib.hid (HR2.out.below b3 (by omega))
      have hr3 : w3.cell? ⟨w.heap.size + 2, 0, none⟩ = some (.slice none 0 0) := HR3.out.cell (i := 0) (by simp)
      have hrf3 := HR3.out.frozen
      have hq3 : (w3.setCell ⟨w.heap.size + 2, 0, none⟩ (.slice none 0 0)).cell? ⟨w.heap.size + 2, 0, none⟩ = some (.slice none 0 0) := (HR3.out.set 0 (.slice none 0 0)).cell (i := 0) (by simp)
      have ha3 : w3.cell? ⟨w.heap.size, 0, none⟩ = some (.slice A x.length c) := HA3.out.cell (i := 0) (by simp)
      have hc3 : w3.cell? ⟨w.heap.size + 1, 0, none⟩ = some (.slice A' y.length c') := HC3.out.cell (i := 0) (by simp)
      clear b3 hc2 hr2 hrf2 hq2
      go_wp2_with fail
      refine (HTS.out _ HB3.out HL3.out).mono ?_
      rintro e w4 ⟨v4, rfl, b4, o4⟩
      have HB4 := Lib.hid (HB3.out.trans (b4.mono HB3.out.size))
      have HR4 := Lib.hid (HR3.out.below b4 (by omega))
      have hsz4 : w3.heap.size ≤ w4.heap.size := b4.size
      have HI4 := Lib.hid (HIF.out w4 v4 w4.heap.size o4.own.readB (Nat.le_refl _))
      have HO4 := Lib.hid o4
      obtain ⟨A4, c4, rfl⟩ := o4.form
      clear b4 o4
      go_wp2_with fail
      refine HI4.out.mono ?_
      rintro e w5 ⟨rfl, b5⟩
      have HB5 := Lib.hid (HB4.out.trans (b5.mono HB4.out.size))
      have HR5 := Lib.hid (HR4.out.below b5 (by omega))
      have hsz5 : w4.heap.size ≤ w5.heap.size := b5.size
      have hr5 : w5.cell? ⟨w.heap.size + 2, 0, none⟩ = some (.slice none 0 0) := HR5.out.cell (i := 0) (by simp)
      have hrf5 := HR5.out.frozen
      have HO5 := Lib.hid (HO4.out.below b5)
      clear b5 hr3 hrf3 hq3
      cases hz : okS z with
      | false =>
        rw [hz] at H1 H3
        have hq5 : (w5.setCell ⟨w.heap.size + 2, 0, none⟩ (.slice none 0 0)).cell? ⟨w.heap.size + 2, 0, none⟩ = some (.slice none 0 0) := (HR5.out.set 0 (.slice none 0 0)).cell (i := 0) (by simp)
        clear hz
        go_wp2
        refine bodyPost_ret (v := .tuple #[.agg #[.slice none 0 0], .bool false]) (by simp [results, Try.results8, go_sem, hq5]) rfl ?_
        unfold SRetTermB
        rw [H1.out, H3.out]
        exact ⟨_, rfl, HB5.out.setCell (by dsimp only; omega) _, ownN_nil' _ _⟩
      | true =>
        rw [hz] at H1 H3
        have HLN := Lib.hid (HOL.out hz)
        have hq5 : (w5.setCell ⟨w.heap.size + 2, 0, none⟩ (.slice A4 z.length c4)).cell? ⟨w.heap.size + 2, 0, none⟩ = some (.slice A4 z.length c4) := (HR5.out.set 0 (.slice A4 z.length c4)).cell (i := 0) (by simp)
        clear hz
        go_wp2
        refine bodyPost_ret (v := .tuple #[.agg #[.slice A4 z.length c4], .bool true]) (by simp [results, Try.results8, go_sem, hq5]) rfl ?_
        unfold SRetTermB
        rw [H1.out, H3.out]
        first | rw [if_pos rfl] | rw [if_pos trivial]
        refine ⟨_, rfl, HB5.out.setCell (by dsimp only; omega) _, ?_⟩
        have hO := (HO5.out.own.blocks (w' := w5.setCell ⟨w.heap.size + 2, 0, none⟩ (.slice A4 z.length c4)) (fun q hq hql => blk_setCell_other _ _ _ _ (by dsimp only; omega))).mono (T := fun b => w.heap.size ≤ b) (fun q hq _ => by omega)
        rw [← HZ.out] at hO ⊢
        exact OwnN.join hO HLN.out HX.out HY.out
set_option maxRecDepth 100000 in
set_option maxHeartbeats 6400000 in
theorem spec_ParTerm (w : World) (B : Nat) (va vb : Value) (x y : List Nd) (ha : LfN w B va x) (hb : LfN w B vb y) (hB : B ≤ w.heap.size) (_hx : szN x ≤ 1048576) (_hy : szN y ≤ 1048576) :
    Calls Try.prog 14 #[.agg #[va], .agg #[vb]] w (SRetTermB w (jnL 16 x y) (jnOk 16 x y)) := by
  have HB0 := Lib.hid (show Below w.heap.size w (((w.alloc (.cells #[va] tTm)).alloc (.cells #[vb] tTm)).alloc (.cells #[.slice none 0 0] tTm)) from (((Below.refl _ _).alloc (Nat.le_refl _) _).alloc (by simp) _).alloc (by simp; omega) _)
  have HA0 := Lib.hid (((cellsAt_new' w #[va] tTm [va] w.heap.size rfl rfl).alloc (.cells #[vb] tTm)).alloc (.cells #[.slice none 0 0] tTm))
  have HC0 := Lib.hid ((cellsAt_new' (w.alloc (.cells #[va] tTm)) #[vb] tTm [vb] (w.heap.size + 1) (by simp) rfl).alloc (.cells #[.slice none 0 0] tTm))
  have HR0 := Lib.hid (cellsAt_new' ((w.alloc (.cells #[va] tTm)).alloc (.cells #[vb] tTm)) #[.slice none 0 0] tTm [.slice none 0 0] (w.heap.size + 2) (by simp) rfl)
  have hsz0 : (((w.alloc (.cells #[va] tTm)).alloc (.cells #[vb] tTm)).alloc (.cells #[.slice none 0 0] tTm)).heap.size = w.heap.size + 3 := by simp
  have HVA := Lib.hid (tmValid_any (((w.alloc (.cells #[va] tTm)).alloc (.cells #[vb] tTm)).alloc (.cells #[.slice none 0 0] tTm)) B va x (ha.below HB0.out hB) (by simp; omega))
  have HVB := Lib.hid (fun (w' : World) (h : Below w.heap.size w w') => tmValid_any w' B vb y (hb.below h hB) (Nat.le_trans hB h.size))
  have HTS := Lib.hid (fun (w' : World) (h : Below w.heap.size w w') (hl : x.length + y.length + 1 ≤ 1000000) => tmPar_any w' B va vb x y (ha.1.below h hB) (hb.1.below h hB) (Nat.le_trans hB h.size) hl)
  have HX := Lib.hid ha
  have HY := Lib.hid hb
  obtain ⟨A, c, rfl⟩ := ha.len
  obtain ⟨A', c', rfl⟩ := hb.len
  clear ha hb hB
  cases hoa : okS x with
  | false =>
    have H3 : Hid (jnOk 16 x y = false) := Lib.hid (by unfold jnOk tyOk; rw [← ok_both, hoa]; rfl)
    have H1 : Hid (jnL 16 x y = []) := Lib.hid (by unfold jnL; rw [H3.out]; rfl)
    have HOA := Lib.hid hoa
    clear hoa
    go_enter Try.func14, Try.ntmps14
    go_wp2_with fail
    refine HVA.out.mono ?_
    rintro e w2 ⟨rfl, b2⟩
    rw [HOA.out]
    have HB2 := Lib.hid (HB0.out.trans (b2.mono (by rw [hsz0]; omega)))
    have HA2 := Lib.hid (HA0.out.below b2 (by rw [hsz0]; omega))
    have HC2 := Lib.hid (HC0.out.below b2 (by rw [hsz0]; omega))
    have hsz2 : w.heap.size + 3 ≤ w2.heap.size := by rw [← hsz0]; exact b2.size
    have HR2 := Lib.hid (HR0.out.below b2 (by rw [hsz0]; omega))
    have hr2 : w2.cell? ⟨w.heap.size + 2, 0, none⟩ = some (.slice none 0 0) := HR2.out.cell (i := 0) (by simp)
    have hrf2 := HR2.out.frozen
    have hq2 : (w2.setCell ⟨w.heap.size + 2, 0, none⟩ (.slice none 0 0)).cell? ⟨w.heap.size + 2, 0, none⟩ = some (.slice none 0 0) := (HR2.out.set 0 (.slice none 0 0)).cell (i := 0) (by simp)
    have hc2 : w2.cell? ⟨w.heap.size + 1, 0, none⟩ = some (.slice A' y.length c') := HC2.out.cell (i := 0) (by simp)
    clear b2
    go_wp2
    refine bodyPost_ret (v := .tuple #[.agg #[.slice none 0 0], .bool false]) (by simp [results, Try.results14, go_sem, hq2]) rfl ?_
    unfold SRetTermB
    rw [H1.out, H3.out]
    exact ⟨_, rfl, HB2.out.setCell (by dsimp only; omega) _, ownN_nil' _ _⟩
  | true =>
    cases hob : okS y with
    | false =>
      have H3 : Hid (jnOk 16 x y = false) := Lib.hid (by unfold jnOk tyOk; rw [← ok_both, ← ok_both, hoa, hob]; rfl)
      have H1 : Hid (jnL 16 x y = []) := Lib.hid (by unfold jnL; rw [H3.out]; rfl)
      have HOA := Lib.hid hoa
      have HOB := Lib.hid hob
      clear hoa hob
      go_enter Try.func14, Try.ntmps14
      go_wp2_with fail
      refine HVA.out.mono ?_
      rintro e w2 ⟨rfl, b2⟩
      rw [HOA.out]
      have HB2 := Lib.hid (HB0.out.trans (b2.mono (by rw [hsz0]; omega)))
      have HA2 := Lib.hid (HA0.out.below b2 (by rw [hsz0]; omega))
      have HC2 := Lib.hid (HC0.out.below b2 (by rw [hsz0]; omega))
      have hsz2 : w.heap.size + 3 ≤ w2.heap.size := by rw [← hsz0]; exact b2.size
      have HR2 := Lib.hid (HR0.out.below b2 (by rw [hsz0]; omega))
      have hr2 : w2.cell? ⟨w.heap.size + 2, 0, none⟩ = some (.slice none 0 0) := HR2.out.cell (i := 0) (by simp)
      have hrf2 := HR2.out.frozen
      have hq2 : (w2.setCell ⟨w.heap.size + 2, 0, none⟩ (.slice none 0 0)).cell? ⟨w.heap.size + 2, 0, none⟩ = some (.slice none 0 0) := (HR2.out.set 0 (.slice none 0 0)).cell (i := 0) (by simp)
      have hc2 : w2.cell? ⟨w.heap.size + 1, 0, none⟩ = some (.slice A' y.length c') := HC2.out.cell (i := 0) (by simp)
      clear b2
      go_wp2_with fail
      refine (HVB.out _ HB2.out).mono ?_
      rintro e w3 ⟨rfl, b3⟩
      rw [HOB.out]
      have HB3 := Lib.hid (HB2.out.trans (b3.mono HB2.out.size))
      have HA3 := Lib.hid (HA2.out.below b3 (by omega))
      have HC3 := Lib.hid (HC2.out.below b3 (by omega))
      have hsz3 : w2.heap.size ≤ w3.heap.size := b3.size
      have HR3 := Lib.hid (HR2.out.below b3 (by omega))
      have hr3 : w3.cell? ⟨w.heap.size + 2, 0, none⟩ = some (.slice none 0 0) := HR3.out.cell (i := 0) (by simp)
      have hrf3 := HR3.out.frozen
      have hq3 : (w3.setCell ⟨w.heap.size + 2, 0, none⟩ (.slice none 0 0)).cell? ⟨w.heap.size + 2, 0, none⟩ = some (.slice none 0 0) := (HR3.out.set 0 (.slice none 0 0)).cell (i := 0) (by simp)
      have ha3 : w3.cell? ⟨w.heap.size, 0, none⟩ = some (.slice A x.length c) := HA3.out.cell (i := 0) (by simp)
      have hc3 : w3.cell? ⟨w.heap.size + 1, 0, none⟩ = some (.slice A' y.length c') := HC3.out.cell (i := 0) (by simp)
      clear b3 hc2 hr2 hrf2 hq2
      go_wp2
      refine bodyPost_ret (v := .tuple #[.agg #[.slice none 0 0], .bool false]) (by simp [results, Try.results14, go_sem, hq3]) rfl ?_
      unfold SRetTermB
      rw [H1.out, H3.out]
      exact ⟨_, rfl, HB3.out.setCell (by dsimp only; omega) _, ownN_nil' _ _⟩
    | true =>
      have H3 : Hid (jnOk 16 x y = okS (x ++ (y ++ [jointN 16]))) := Lib.hid (by unfold jnOk tyOk; rw [← ok_both, ← ok_both, ← ok_both, hoa, hob]; rfl)
      have H1 : Hid (jnL 16 x y = if okS (x ++ (y ++ [jointN 16])) = true then x ++ (y ++ [jointN 16]) else []) := Lib.hid (by unfold jnL; rw [H3.out])
      have hlx : x.length ≤ 400 ∧ y.length ≤ 400 := by
        unfold okS at hoa hob
        simp at hoa hob
        omega
      have HLX := Lib.hid hlx
      have HIF := Lib.hid (fun (w' : World) (v : Value) (B2 : Nat) (h : RdN w' (fun b => b < B2) v (x ++ (y ++ [jointN 16]))) (h2 : B2 ≤ w'.heap.size) => tmIf_any w' B2 v (x ++ (y ++ [jointN 16])) (LfN.join HX.out HY.out (by omega) h) h2)
      have HOL : Hid (okS (x ++ (y ++ [jointN 16])) = true → x.length + y.length + 1 ≤ 400) := Lib.hid (fun h => by
        unfold okS at h
        simp at h
        omega)
      have hl3 : x.length + y.length + 1 ≤ 1000000 := by omega
      have HL3 := Lib.hid hl3
      have HOA := Lib.hid hoa
      have HOB := Lib.hid hob
      clear hoa hob hlx hl3
      obtain ⟨z, HZ⟩ : ∃ z, Hid (x ++ (y ++ [jointN 16]) = z) := ⟨_, Lib.hid rfl⟩
      rw [HZ.out] at H1 H3 HOL
      simp only [HZ.out] at HIF HTS
      go_enter Try.func14, Try.ntmps14
      go_wp2_with fail
      refine HVA.out.mono ?_
      rintro e w2 ⟨rfl, b2⟩
      rw [HOA.out]
      have HB2 := Lib.hid (HB0.out.trans (b2.mono (by rw [hsz0]; omega)))
      have HA2 := Lib.hid (HA0.out.below b2 (by rw [hsz0]; omega))
      have HC2 := Lib.hid (HC0.out.below b2 (by rw [hsz0]; omega))
      have hsz2 : w.heap.size + 3 ≤ w2.heap.size := by rw [← hsz0]; exact b2.size
      have HR2 := Lib.hid (HR0.out.below b2 (by rw [hsz0]; omega))
      have hr2 : w2.cell? ⟨w.heap.size + 2, 0, none⟩ = some (.slice none 0 0) := HR2.out.cell (i := 0) (by simp)
      have hrf2 := HR2.out.frozen
      have hq2 : (w2.setCell ⟨w.heap.size + 2, 0, none⟩ (.slice none 0 0)).cell? ⟨w.heap.size + 2, 0, none⟩ = some (.slice none 0 0) := (HR2.out.set 0 (.slice none 0 0)).cell (i := 0) (by simp)
      have hc2 : w2.cell? ⟨w.heap.size + 1, 0, none⟩ = some (.slice A' y.length c') := HC2.out.cell (i := 0) (by simp)
      clear b2
      go_wp2_with fail
      refine (HVB.out _ HB2.out).mono ?_
      rintro e w3 ⟨rfl, b3⟩
      rw [HOB.out]
      have HB3 := Lib.hid (HB2.out.trans (b3.mono HB2.out.size))
      have HA3 := Lib.hid (HA2.out.below b3 (by omega))
      have HC3 := Lib.hid (HC2.out.below b3 (by omega))
      have hsz3 : w2.heap.size ≤ w3.heap.size := b3.size
      have HR3 := Lib.hid (HR2.out.below b3 (by omega))
      have hr3 : w3.cell? ⟨w.heap.size + 2, 0, none⟩ = some (.slice none 0 0) := HR3.out.cell (i := 0) (by simp)
      have hrf3 := HR3.out.frozen
      have hq3 : (w3.setCell ⟨w.heap.size + 2, 0, none⟩ (.slice none 0 0)).cell? ⟨w.heap.size + 2, 0, none⟩ = some (.slice none 0 0) := (HR3.out.set 0 (.slice none 0 0)).cell (i := 0) (by simp)
      have ha3 : w3.cell? ⟨w.heap.size, 0, none⟩ = some (.slice A x.length c) := HA3.out.cell (i := 0) (by simp)
      have hc3 : w3.cell? ⟨w.heap.size + 1, 0, none⟩ = some (.slice A' y.length c') := HC3.out.cell (i := 0) (by simp)
      clear b3 hc2 hr2 hrf2 hq2
      go_wp2_with fail
      refine (HTS.out _ HB3.out HL3.out).mono ?_
      rintro e w4 ⟨v4, rfl, b4, o4⟩
      have HB4 := Lib.hid (HB3.out.trans (b4.mono HB3.out.size))
      have HR4 := Lib.hid (HR3.out.below b4 (by omega))
      have hsz4 : w3.heap.size ≤ w4.heap.size := b4.size
      have HI4 := Lib.hid (HIF.out w4 v4 w4.heap.size o4.own.readB (Nat.le_refl _))
      have HO4 := Lib.hid o4
      obtain ⟨A4, c4, rfl⟩ := o4.form
      clear b4 o4
      go_wp2_with fail
      refine HI4.out.mono ?_
      rintro e w5 ⟨rfl, b5⟩
      have HB5 := Lib.hid (HB4.out.trans (b5.mono HB4.out.size))
      have HR5 := Lib.hid (HR4.out.below b5 (by omega))
      have hsz5 : w4.heap.size ≤ w5.heap.size := b5.size
      have hr5 : w5.cell? ⟨w.heap.size + 2, 0, none⟩ = some (.slice none 0 0) := HR5.out.cell (i := 0) (by simp)
      have hrf5 := HR5.out.frozen
      have HO5 := Lib.hid (HO4.out.below b5)
      clear b5 hr3 hrf3 hq3
      cases hz : okS z with
      | false =>
        rw [hz] at H1 H3
        have hq5 : (w5.setCell ⟨w.heap.size + 2, 0, none⟩ (.slice none 0 0)).cell? ⟨w.heap.size + 2, 0, none⟩ = some (.slice none 0 0) := (HR5.out.set 0 (.slice none 0 0)).cell (i := 0) (by simp)
        clear hz
        go_wp2
        refine bodyPost_ret (v := .tuple #[.agg #[.slice none 0 0], .bool false]) (by simp [results, Try.results14, go_sem, hq5]) rfl ?_
        unfold SRetTermB
        rw [H1.out, H3.out]
        exact ⟨_, rfl, HB5.out.setCell (by dsimp only; omega) _, ownN_nil' _ _⟩
      | true =>
        rw [hz] at H1 H3
        have HLN := Lib.hid (HOL.out hz)
        have hq5 : (w5.setCell ⟨w.heap.size + 2, 0, none⟩ (.slice A4 z.length c4)).cell? ⟨w.heap.size + 2, 0, none⟩ = some (.slice A4 z.length c4) := (HR5.out.set 0 (.slice A4 z.length c4)).cell (i := 0) (by simp)
        clear hz
        go_wp2
        refine bodyPost_ret (v := .tuple #[.agg #[.slice A4 z.length c4], .bool true]) (by simp [results, Try.results14, go_sem, hq5]) rfl ?_
        unfold SRetTermB
        rw [H1.out, H3.out]
        first | rw [if_pos rfl] | rw [if_pos trivial]
        refine ⟨_, rfl, HB5.out.setCell (by dsimp only; omega) _, ?_⟩
        have hO := (HO5.out.own.blocks (w' := w5.setCell ⟨w.heap.size + 2, 0, none⟩ (.slice A4 z.length c4)) (fun q hq hql => blk_setCell_other _ _ _ _ (by dsimp only; omega))).mono (T := fun b => w.heap.size ≤ b) (fun q hq _ => by omega)
        rw [← HZ.out] at hO ⊢
        exact OwnN.join hO HLN.out HX.out HY.out
end Go.Proofs.Ytbeaihjiablcbaa
