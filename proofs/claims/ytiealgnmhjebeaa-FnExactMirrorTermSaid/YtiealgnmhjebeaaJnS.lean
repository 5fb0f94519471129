/- SeqTerm, ParTerm: the program's functions, the model's. -/
import Derived.Test.YtiealgnmhjebeaaJnT
namespace Go.Proofs.Ytiealgnmhjebeaa
set_option maxRecDepth 100000
open Go Go.RowKit Go.Deep

set_option maxRecDepth 100000 in
set_option maxHeartbeats 3200000 in
theorem tmJoin_any (w : World) (B : Nat) (k : Int) (va vb : Value) (x y : List Nd) (ha : RdN w (fun b => b < B) va x) (hb : RdN w (fun b => b < B) vb y) (hB : B ≤ w.heap.size) (hl : x.length + y.length + 1 ≤ 1000000) :
    Calls Try.prog 96 #[.agg #[va], .agg #[vb], .int .i64 k] w fun e w' => ∃ v, e = .returned (.agg #[v]) ∧ Below w.heap.size w w' ∧ RowN w' w.heap.size v (x ++ (y ++ [jointN k])) := by
  have HB0 := Lib.hid (show Below w.heap.size w (((w.alloc (.cells #[va] tTm)).alloc (.cells #[vb] tTm)).alloc (.cells #[.slice none 0 0] tTm)) from (((Below.refl _ _).alloc (Nat.le_refl _) _).alloc (by simp) _).alloc (by simp; omega) _)
  have HA0 := Lib.hid (((cellsAt_new' w #[va] tTm [va] w.heap.size rfl rfl).alloc (.cells #[vb] tTm)).alloc (.cells #[.slice none 0 0] tTm))
  have HC0 := Lib.hid ((cellsAt_new' (w.alloc (.cells #[va] tTm)) #[vb] tTm [vb] (w.heap.size + 1) (by simp) rfl).alloc (.cells #[.slice none 0 0] tTm))
  have HR0 := Lib.hid (cellsAt_new' ((w.alloc (.cells #[va] tTm)).alloc (.cells #[vb] tTm)) #[.slice none 0 0] tTm [.slice none 0 0] (w.heap.size + 2) (by simp) rfl)
  have hsz0 : (((w.alloc (.cells #[va] tTm)).alloc (.cells #[vb] tTm)).alloc (.cells #[.slice none 0 0] tTm)).heap.size = w.heap.size + 3 := by simp
  have HB1 := Lib.hid (show Below w.heap.size w ((((w.alloc (.cells #[va] tTm)).alloc (.cells #[vb] tTm)).alloc (.cells #[.slice none 0 0] tTm)).alloc (.cells #[] tNd)) from HB0.out.alloc (by rw [hsz0]; omega) _)
  have HX := Lib.hid ha
  have HY := Lib.hid hb
  have HB := Lib.hid hB
  have HJ := Lib.hid (show RowN ((((w.alloc (.cells #[va] tTm)).alloc (.cells #[vb] tTm)).alloc (.cells #[.slice none 0 0] tTm)).alloc (.cells #[] tNd)) (w.heap.size + 3) (.slice (some ⟨w.heap.size + 3, 0, none⟩) 0 0) [] from by have := World.ownsRow_lit (base := w.heap.size + 3) (size := 3) (e := tNd) (((w.alloc (.cells #[va] tTm)).alloc (.cells #[vb] tTm)).alloc (.cells #[.slice none 0 0] tTm)) #[] 0 (by rw [hsz0]; omega) (by unfold maxLen; omega) rfl; rw [hsz0] at this; exact this)
  obtain ⟨A, c, rfl⟩ := ha.len
  obtain ⟨A', c', rfl⟩ := hb.len
  have hX1 := ha.below HB1.out hB
  have hY1 := hb.below HB1.out hB
  have HX1 := Lib.hid hX1
  have HL1 := Lib.hid (show ([] : List Nd).length + x.length ≤ 1000000 by simp; omega)
  have HL2 := Lib.hid (show x.length + y.length ≤ 1000000 by omega)
  have HL3 := Lib.hid (show (x ++ y).length + [jointN k].length ≤ 1000000 by simp; omega)
  clear ha hb hB hX1 hY1 hl
  obtain ⟨z, HZ⟩ : ∃ z, Hid (x ++ (y ++ [jointN k]) = z) := ⟨_, Lib.hid rfl⟩
  rw [HZ.out]
  go_enter Try.func96, Try.ntmps96
  go_wp2_with (at_builtin; refine wpList_joinN (by rfl) (.tmp 8) (.tmp 10) (by rfl) _ (w.heap.size + 3) _ [] x _ A _ c (by rfl) HJ.out (by rfl) HX1.out (by simp) HL1.out ?_)
  intro v1 w1 hj1 hb1
  have HJ1 := Lib.hid hj1
  have HB2 : Hid (Below w.heap.size w w1) := Lib.hid (HB1.out.trans (hb1.mono (by omega)))
  have HC1 := Lib.hid ((HC0.out.alloc (.cells #[] tNd)).below hb1 (by omega))
  have HR1 := Lib.hid ((HR0.out.alloc (.cells #[] tNd)).below hb1 (by omega))
  have hc1 : w1.cell? ⟨w.heap.size + 1, 0, none⟩ = some (.slice A' y.length c') := HC1.out.cell (i := 0) (by simp)
  have HY2 := Lib.hid (HY.out.below HB2.out HB.out)
  have hsz1 : w.heap.size + 3 ≤ w1.heap.size := Nat.le_trans (by simp) hb1.size
  clear hj1 hb1
  go_wp2_with (at_builtin; refine wpList_joinN (by rfl) (.tmp 12) (.tmp 14) (by rfl) _ (w.heap.size + 3) _ x y _ A' _ c' (by rfl) HJ1.out (by rfl) HY2.out hsz1 HL2.out ?_)
  intro v2 w2 hj2 hb2
  have HJ2 := Lib.hid hj2
  have HB3 : Hid (Below w.heap.size w w2) := Lib.hid (HB2.out.trans (hb2.mono (by omega)))
  have HR2 := Lib.hid (HR1.out.below hb2 (by omega))
  have hsz2 : w1.heap.size ≤ w2.heap.size := hb2.size
  have HND := Lib.hid (rdN_one (n := jointN k) (cellsAt_new' w2 #[.int .i64 k, .int .i64 0, .string ByteArray.empty] tNd [.int .i64 k, .int .i64 0, .string ByteArray.empty] w2.heap.size rfl rfl))
  have HJ2' := Lib.hid (HJ2.out.below (show Below w2.heap.size w2 (w2.alloc (.cells #[.int .i64 k, .int .i64 0, .string ByteArray.empty] tNd)) from (Below.refl _ _).alloc (Nat.le_refl _) _))
  clear hj2 hb2 hc1
  go_wp2_with (at_builtin; refine wpList_joinN (by rfl) (.tmp 16) (.tmp 19) (by rfl) _ (w.heap.size + 3) _ (x ++ y) [jointN k] _ _ 1 1 (by rfl) HJ2'.out (by rfl) HND.out (by simp; omega) HL3.out ?_)
  intro v3 w3 hj3 hb3
  have HB4 : Hid (Below w.heap.size w w3) := Lib.hid ((HB3.out.alloc (by omega) _).trans (hb3.mono (by omega)))
  have HR3 := Lib.hid ((HR2.out.alloc (.cells #[.int .i64 k, .int .i64 0, .string ByteArray.empty] tNd)).below hb3 (by omega))
  have hr3 : w3.cell? ⟨w.heap.size + 2, 0, none⟩ = some (.slice none 0 0) := HR3.out.cell (i := 0) (by simp)
  have hrf3 := HR3.out.frozen
  rw [HZ.out] at hj3
  obtain ⟨A3, c3, rfl⟩ := hj3.form
  have HJ3 := Lib.hid hj3
  have hq3 : (w3.setCell ⟨w.heap.size + 2, 0, none⟩ (.slice A3 z.length c3)).cell? ⟨w.heap.size + 2, 0, none⟩ = some (.slice A3 z.length c3) := (HR3.out.set 0 (.slice A3 z.length c3)).cell (i := 0) (by simp)
  clear hj3 hb3
  go_wp2
  refine bodyPost_ret (v := .agg #[.slice A3 z.length c3]) (by simp [results, Try.results96, go_sem, hq3]) rfl ?_
  exact ⟨_, rfl, HB4.out.setCell (by dsimp only; omega) _, RowN.mono (HJ3.out.set (by omega)) (by omega)⟩
set_option maxRecDepth 100000 in
set_option maxHeartbeats 3200000 in
theorem tmSeq_any (w : World) (B : Nat) (va vb : Value) (x y : List Nd) (ha : RdN w (fun b => b < B) va x) (hb : RdN w (fun b => b < B) vb y) (hB : B ≤ w.heap.size) (hl : x.length + y.length + 1 ≤ 1000000) :
    Calls Try.prog 69 #[.agg #[va], .agg #[vb]] w fun e w' => ∃ v, e = .returned (.agg #[v]) ∧ Below w.heap.size w w' ∧ RowN w' w.heap.size v (x ++ (y ++ [jointN 15])) := by
  have HB0 := Lib.hid (show Below w.heap.size w (((w.alloc (.cells #[va] tTm)).alloc (.cells #[vb] tTm)).alloc (.cells #[.slice none 0 0] tTm)) from (((Below.refl _ _).alloc (Nat.le_refl _) _).alloc (by simp) _).alloc (by simp; omega) _)
  have HA0 := Lib.hid (((cellsAt_new' w #[va] tTm [va] w.heap.size rfl rfl).alloc (.cells #[vb] tTm)).alloc (.cells #[.slice none 0 0] tTm))
  have HC0 := Lib.hid ((cellsAt_new' (w.alloc (.cells #[va] tTm)) #[vb] tTm [vb] (w.heap.size + 1) (by simp) rfl).alloc (.cells #[.slice none 0 0] tTm))
  have HR0 := Lib.hid (cellsAt_new' ((w.alloc (.cells #[va] tTm)).alloc (.cells #[vb] tTm)) #[.slice none 0 0] tTm [.slice none 0 0] (w.heap.size + 2) (by simp) rfl)
  have hsz0 : (((w.alloc (.cells #[va] tTm)).alloc (.cells #[vb] tTm)).alloc (.cells #[.slice none 0 0] tTm)).heap.size = w.heap.size + 3 := by simp
  have HJ := Lib.hid (tmJoin_any (((w.alloc (.cells #[va] tTm)).alloc (.cells #[vb] tTm)).alloc (.cells #[.slice none 0 0] tTm)) B 15 va vb x y (ha.below HB0.out hB) (hb.below HB0.out hB) (by simp; omega) hl)
  obtain ⟨A, c, rfl⟩ := ha.len
  obtain ⟨A', c', rfl⟩ := hb.len
  clear ha hb hB
  generalize x ++ (y ++ [jointN 15]) = z at *
  go_enter Try.func69, Try.ntmps69
  go_wp2_with fail
  refine HJ.out.mono ?_
  rintro e w2 ⟨v2, rfl, b2, o2⟩
  obtain ⟨A2, c2, rfl⟩ := o2.form
  have HO2 := Lib.hid o2
  have HB2 := Lib.hid (HB0.out.trans (b2.mono (by rw [hsz0]; omega)))
  have HR2 := Lib.hid (HR0.out.below b2 (by rw [hsz0]; omega))
  have hr2 : w2.cell? ⟨w.heap.size + 2, 0, none⟩ = some (.slice none 0 0) := HR2.out.cell (i := 0) (by simp)
  have hrf2 := HR2.out.frozen
  have hq2 : (w2.setCell ⟨w.heap.size + 2, 0, none⟩ (.slice A2 z.length c2)).cell? ⟨w.heap.size + 2, 0, none⟩ = some (.slice A2 z.length c2) := (HR2.out.set 0 (.slice A2 z.length c2)).cell (i := 0) (by simp)
  clear b2 o2
  go_wp2
  refine bodyPost_ret (v := .agg #[.slice A2 z.length c2]) (by simp [results, Try.results69, go_sem, hq2]) rfl ?_
  exact ⟨_, rfl, HB2.out.setCell (by dsimp only; omega) _, RowN.mono (HO2.out.set (by rw [hsz0]; omega)) (by rw [hsz0]; omega)⟩
set_option maxRecDepth 100000 in
set_option maxHeartbeats 3200000 in
theorem tmPar_any (w : World) (B : Nat) (va vb : Value) (x y : List Nd) (ha : RdN w (fun b => b < B) va x) (hb : RdN w (fun b => b < B) vb y) (hB : B ≤ w.heap.size) (hl : x.length + y.length + 1 ≤ 1000000) :
    Calls Try.prog 70 #[.agg #[va], .agg #[vb]] w fun e w' => ∃ v, e = .returned (.agg #[v]) ∧ Below w.heap.size w w' ∧ RowN w' w.heap.size v (x ++ (y ++ [jointN 16])) := by
  have HB0 := Lib.hid (show Below w.heap.size w (((w.alloc (.cells #[va] tTm)).alloc (.cells #[vb] tTm)).alloc (.cells #[.slice none 0 0] tTm)) from (((Below.refl _ _).alloc (Nat.le_refl _) _).alloc (by simp) _).alloc (by simp; omega) _)
  have HA0 := Lib.hid (((cellsAt_new' w #[va] tTm [va] w.heap.size rfl rfl).alloc (.cells #[vb] tTm)).alloc (.cells #[.slice none 0 0] tTm))
  have HC0 := Lib.hid ((cellsAt_new' (w.alloc (.cells #[va] tTm)) #[vb] tTm [vb] (w.heap.size + 1) (by simp) rfl).alloc (.cells #[.slice none 0 0] tTm))
  have HR0 := Lib.hid (cellsAt_new' ((w.alloc (.cells #[va] tTm)).alloc (.cells #[vb] tTm)) #[.slice none 0 0] tTm [.slice none 0 0] (w.heap.size + 2) (by simp) rfl)
  have hsz0 : (((w.alloc (.cells #[va] tTm)).alloc (.cells #[vb] tTm)).alloc (.cells #[.slice none 0 0] tTm)).heap.size = w.heap.size + 3 := by simp
  have HJ := Lib.hid (tmJoin_any (((w.alloc (.cells #[va] tTm)).alloc (.cells #[vb] tTm)).alloc (.cells #[.slice none 0 0] tTm)) B 16 va vb x y (ha.below HB0.out hB) (hb.below HB0.out hB) (by simp; omega) hl)
  obtain ⟨A, c, rfl⟩ := ha.len
  obtain ⟨A', c', rfl⟩ := hb.len
  clear ha hb hB
  generalize x ++ (y ++ [jointN 16]) = z at *
  go_enter Try.func70, Try.ntmps70
  go_wp2_with fail
  refine HJ.out.mono ?_
  rintro e w2 ⟨v2, rfl, b2, o2⟩
  obtain ⟨A2, c2, rfl⟩ := o2.form
  have HO2 := Lib.hid o2
  have HB2 := Lib.hid (HB0.out.trans (b2.mono (by rw [hsz0]; omega)))
  have HR2 := Lib.hid (HR0.out.below b2 (by rw [hsz0]; omega))
  have hr2 : w2.cell? ⟨w.heap.size + 2, 0, none⟩ = some (.slice none 0 0) := HR2.out.cell (i := 0) (by simp)
  have hrf2 := HR2.out.frozen
  have hq2 : (w2.setCell ⟨w.heap.size + 2, 0, none⟩ (.slice A2 z.length c2)).cell? ⟨w.heap.size + 2, 0, none⟩ = some (.slice A2 z.length c2) := (HR2.out.set 0 (.slice A2 z.length c2)).cell (i := 0) (by simp)
  clear b2 o2
  go_wp2
  refine bodyPost_ret (v := .agg #[.slice A2 z.length c2]) (by simp [results, Try.results70, go_sem, hq2]) rfl ?_
  exact ⟨_, rfl, HB2.out.setCell (by dsimp only; omega) _, RowN.mono (HO2.out.set (by rw [hsz0]; omega)) (by rw [hsz0]; omega)⟩
end Go.Proofs.Ytiealgnmhjebeaa
