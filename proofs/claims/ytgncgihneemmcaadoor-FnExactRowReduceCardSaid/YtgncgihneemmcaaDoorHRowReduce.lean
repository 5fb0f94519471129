/- The harness of the law FnExactRowReduce: it returns true if both functions return what they should. -/
import Derived.Test.YtgncgihneemmcaaDoorTMatrix
import Derived.Test.YtgncgihneemmcaaDoorRetMatrixMatrixB
import Derived.Test.YtgncgihneemmcaaDoorFdWalks
import Derived.Deep.Cut
import Derived.Deep.QuietTactic
namespace Go.Proofs.YtgncgihneemmcaaDoor
set_option maxRecDepth 100000
open Go Go.RowKit Go.Deep

set_option maxHeartbeats 6400000 in
set_option maxRecDepth 100000 in
theorem harness_RowReduce (p0_0 : Int) (p1_0 : Int) (p1_1 : List (List Int)) (up1_1 : Value) (w : World) (r0_0 : Int) (r0_1 : List (List Int)) (r1_0 : Int) (r1_1 : List (List Int)) (r2_0 : Bool) (ht : Tab w) (hvp1_1 : LfG w w.heap.size up1_1 p1_1) 
    (hspec : ∀ (w : World) (B : Nat) (vp1_1 : Value) , LfG w B vp1_1 p1_1 → B ≤ w.heap.size → szG p1_1 ≤ 1048576 → Calls Tryd.prog 15 #[.int .i64 p0_0, .agg #[.int .i64 p1_0, vp1_1]] w (SRetMatrixMatrixB w r0_0 r0_1 r1_0 r1_1 r2_0))
    (himpl : ∀ (w : World) (B : Nat) (vp1_1 : Value) , Tab w → LfG w B vp1_1 p1_1 → B ≤ w.heap.size → szG p1_1 ≤ 1048576 → Calls Tryd.prog 17 #[.int .i64 p0_0, .agg #[.int .i64 p1_0, vp1_1]] w (IRetMatrixMatrixB w r0_0 r0_1 r1_0 r1_1 r2_0)) :
    Calls Tryd.prog 3 #[.int .i64 p0_0, .agg #[.int .i64 p1_0, up1_1]] w fun e w' => e = .returned (.bool true) ∧ Below w.heap.size w w' := by
  have HBN := Lib.hid (Below.refl w.heap.size w)
  have HT := Lib.hid ht
  have HSP := Lib.hid hspec
  have HIM := Lib.hid himpl
  clear ht hspec himpl
  obtain ⟨Aup1_1, cup1_1, rfl⟩ := hvp1_1.len
  have HVp1_1 := Lib.hid hvp1_1
  clear hvp1_1
  have hbbr0_0 : (r0_0 != r0_0) = false := by simp
  have hbbr1_0 : (r1_0 != r1_0) = false := by simp
  have hbbr2_0 : (r2_0 != r2_0) = false := by simp
  go_enter Tryd.func3, Tryd.ntmps3
  go_wp2_with fail
  refine (szMatrix_ok _ w.heap.size p1_0 p1_1 _ 1048576 ?_ ?_ (by omega) (by omega)).mono ?_
  · exact (HVp1_1.out.below HBN.out (Nat.le_refl _)).below (B' := w.heap.size) (by repeat' (first | exact Below.refl _ _ | apply Below.drew | apply Below.setCell | apply Below.alloc | (simp; done) | omega | (simp; omega))) HBN.out.size
  · (have := HBN.out.size; first | exact this | (simp; done) | (simp; omega))
  rintro e w2 ⟨b, h2⟩
  have hstep : Below w.heap.size w w2 := Below.trans (by repeat' (first | exact Below.refl _ _ | apply Below.drew | apply Below.setCell | apply Below.alloc | (simp; done) | omega | (simp; omega))) (b.mono (by (first | exact Nat.le_refl _ | (simp; done) | (simp; omega))))
  replace HBN := Lib.hid (HBN.out.trans (hstep.mono HBN.out.size))
  have hzw2 : w.heap.size ≤ w2.heap.size := hstep.size
  have hpp1_0 : w2.cell? ⟨w.heap.size, 0, none⟩ = some (.int .i64 p1_0) := by have := b.cell (p := ⟨w.heap.size, 0, none⟩) (by first | (simp; done) | (simp; omega)); simpa [go_sem] using this
  have hpp1_1 : w2.cell? ⟨w.heap.size, 1, none⟩ = some (.slice Aup1_1 p1_1.length cup1_1) := by have := b.cell (p := ⟨w.heap.size, 1, none⟩) (by first | (simp; done) | (simp; omega)); simpa [go_sem] using this
  have hlhpp1_ : w.heap.size < w2.heap.size := by have := b.size; simp at this; omega
  have hlhpp1_q := hlhpp1_
  clear b hstep 
  rcases h2 with rfl | ⟨hle, h2⟩
  · go_wp2
    go_ret
    exact ⟨rfl, HBN.out⟩
  obtain ⟨zp1_, hzp1_a, hzp1_b, rfl⟩ : ∃ z : Int, 0 ≤ z ∧ z ≤ 1048576 ∧ e = .returned (.int .i64 z) := ⟨_, by omega, by omega, h2⟩
  have hsp1_1 : szG p1_1 ≤ 1048576 := by omega
  clear h2 hle
  go_wp2_with fail
  refine (toMatrix_ok _ w.heap.size p1_0 p1_1 _ ?_ ?_ hsp1_1).mono ?_
  · exact (HVp1_1.out.below HBN.out (Nat.le_refl _)).below (B' := w2.heap.size) (by repeat' (first | exact Below.refl _ _ | apply Below.drew | apply Below.setCell | apply Below.alloc | (simp; done) | omega | (simp; omega))) HBN.out.size
  · (have := HBN.out.size; first | exact this | (simp; done) | (simp; omega))
  rintro e w3 ⟨vap1_1, rfl, b, oap1_1⟩
  obtain ⟨Aap1_1, cap1_1, rfl⟩ := oap1_1.len
  have hstep : Below w2.heap.size w2 w3 := Below.trans (by repeat' (first | exact Below.refl _ _ | apply Below.drew | apply Below.setCell | apply Below.alloc | (simp; done) | omega | (simp; omega))) (b.mono (by (first | exact Nat.le_refl _ | (simp; done) | (simp; omega))))
  replace hpp1_0 := (hstep.cell (p := ⟨w.heap.size, 0, none⟩) hlhpp1_).trans hpp1_0
  replace hpp1_1 := (hstep.cell (p := ⟨w.heap.size, 1, none⟩) hlhpp1_).trans hpp1_1
  replace hlhpp1_ : w.heap.size < w3.heap.size := Nat.lt_of_lt_of_le hlhpp1_ hstep.size
  replace HBN := Lib.hid (HBN.out.trans (hstep.mono HBN.out.size))
  have hzw3 : w2.heap.size ≤ w3.heap.size := hstep.size
  obtain ⟨SHOap1_1, HSHOap1_1, HOap1_1⟩ : ∃ S : Nat → Prop, Hid (∀ k, S k → w2.heap.size + 0 ≤ k ∧ k < w3.heap.size) ∧ Hid (OwnG w3 S (.slice Aap1_1 p1_1.length cap1_1) p1_1) := ⟨fun k => w2.heap.size + 0 ≤ k ∧ k < w3.heap.size, Lib.hid (fun k hk => hk), Lib.hid (oap1_1.mono (fun k hk hk2 => ⟨by have hk3 := hk; (try simp at hk3); omega, hk2⟩))⟩
  clear b hstep oap1_1
  go_wp2_with fail
  refine (HSP.out _ w3.heap.size _ ?_ ?_ hsp1_1).mono ?_
  · exact (HOap1_1.out.rd).below (B' := w3.heap.size) (by repeat' (first | exact Below.refl _ _ | apply Below.drew | apply Below.setCell | apply Below.alloc | (simp; done) | omega | (simp; omega))) (Nat.le_refl _)
  · (first | exact Nat.le_refl _ | (simp; done) | (simp; omega))
  rintro e w4 ⟨vwr0_1, vwr1_1, rfl, b, owr0_1, owr1_1⟩
  obtain ⟨Awr0_1, cwr0_1, rfl⟩ := owr0_1.len
  obtain ⟨Awr1_1, cwr1_1, rfl⟩ := owr1_1.len
  have hstep : Below w3.heap.size w3 w4 := Below.trans (by repeat' (first | exact Below.refl _ _ | apply Below.drew | apply Below.setCell | apply Below.alloc | (simp; done) | omega | (simp; omega))) (b.mono (by (first | exact Nat.le_refl _ | (simp; done) | (simp; omega))))
  replace hpp1_0 := (hstep.cell (p := ⟨w.heap.size, 0, none⟩) hlhpp1_).trans hpp1_0
  replace hpp1_1 := (hstep.cell (p := ⟨w.heap.size, 1, none⟩) hlhpp1_).trans hpp1_1
  replace hlhpp1_ : w.heap.size < w4.heap.size := Nat.lt_of_lt_of_le hlhpp1_ hstep.size
  replace HOap1_1 := Lib.hid (HOap1_1.out.below hstep (fun _ _ hq => hq))
  replace HBN := Lib.hid (HBN.out.trans (hstep.mono HBN.out.size))
  have hzw4 : w3.heap.size ≤ w4.heap.size := hstep.size
  obtain ⟨SHOwr0_1, HSHOwr0_1, HOwr0_1⟩ : ∃ S : Nat → Prop, Hid (∀ k, S k → w3.heap.size + 0 ≤ k ∧ k < w4.heap.size) ∧ Hid (OwnG w4 S (.slice Awr0_1 r0_1.length cwr0_1) r0_1) := ⟨fun k => w3.heap.size + 0 ≤ k ∧ k < w4.heap.size, Lib.hid (fun k hk => hk), Lib.hid (owr0_1.mono (fun k hk hk2 => ⟨by have hk3 := hk; (try simp at hk3); omega, hk2⟩))⟩
  obtain ⟨SHOwr1_1, HSHOwr1_1, HOwr1_1⟩ : ∃ S : Nat → Prop, Hid (∀ k, S k → w3.heap.size + 0 ≤ k ∧ k < w4.heap.size) ∧ Hid (OwnG w4 S (.slice Awr1_1 r1_1.length cwr1_1) r1_1) := ⟨fun k => w3.heap.size + 0 ≤ k ∧ k < w4.heap.size, Lib.hid (fun k hk => hk), Lib.hid (owr1_1.mono (fun k hk hk2 => ⟨by have hk3 := hk; (try simp at hk3); omega, hk2⟩))⟩
  clear b hstep owr0_1 owr1_1
  clear HOap1_1 HSHOap1_1
  go_wp2_with fail
  refine (toMatrix_ok _ w.heap.size p1_0 p1_1 _ ?_ ?_ hsp1_1).mono ?_
  · exact (HVp1_1.out.below HBN.out (Nat.le_refl _)).below (B' := w4.heap.size) (by repeat' (first | exact Below.refl _ _ | apply Below.drew | apply Below.setCell | apply Below.alloc | (simp; done) | omega | (simp; omega))) HBN.out.size
  · (have := HBN.out.size; first | exact this | (simp; done) | (simp; omega))
  rintro e w5 ⟨vxp1_1, rfl, b, oxp1_1⟩
  obtain ⟨Axp1_1, cxp1_1, rfl⟩ := oxp1_1.len
  have hstep : Below w4.heap.size w4 w5 := Below.trans (by repeat' (first | exact Below.refl _ _ | apply Below.drew | apply Below.setCell | apply Below.alloc | (simp; done) | omega | (simp; omega))) (b.mono (by (first | exact Nat.le_refl _ | (simp; done) | (simp; omega))))
  replace hpp1_0 := (hstep.cell (p := ⟨w.heap.size, 0, none⟩) hlhpp1_).trans hpp1_0
  replace hpp1_1 := (hstep.cell (p := ⟨w.heap.size, 1, none⟩) hlhpp1_).trans hpp1_1
  replace hlhpp1_ : w.heap.size < w5.heap.size := Nat.lt_of_lt_of_le hlhpp1_ hstep.size
  replace HOwr0_1 := Lib.hid (HOwr0_1.out.below hstep (fun _ _ hq => hq))
  replace HOwr1_1 := Lib.hid (HOwr1_1.out.below hstep (fun _ _ hq => hq))
  replace HBN := Lib.hid (HBN.out.trans (hstep.mono HBN.out.size))
  have hzw5 : w4.heap.size ≤ w5.heap.size := hstep.size
  have hwr0_0 : w5.cell? ⟨w4.heap.size, 0, none⟩ = some (.int .i64 r0_0) := by have := b.cell (p := ⟨w4.heap.size, 0, none⟩) (by first | (simp; done) | (simp; omega)); simpa [go_sem] using this
  have hwr0_1 : w5.cell? ⟨w4.heap.size, 1, none⟩ = some (.slice Awr0_1 r0_1.length cwr0_1) := by have := b.cell (p := ⟨w4.heap.size, 1, none⟩) (by first | (simp; done) | (simp; omega)); simpa [go_sem] using this
  have hlhwr0_ : w4.heap.size < w5.heap.size := by have := b.size; simp at this; omega
  have hlhwr0_q := hlhwr0_
  have hwr1_0 : w5.cell? ⟨w4.heap.size + 1, 0, none⟩ = some (.int .i64 r1_0) := by have := b.cell (p := ⟨w4.heap.size + 1, 0, none⟩) (by first | (simp; done) | (simp; omega)); simpa [go_sem] using this
  have hwr1_1 : w5.cell? ⟨w4.heap.size + 1, 1, none⟩ = some (.slice Awr1_1 r1_1.length cwr1_1) := by have := b.cell (p := ⟨w4.heap.size + 1, 1, none⟩) (by first | (simp; done) | (simp; omega)); simpa [go_sem] using this
  have hlhwr1_ : w4.heap.size + 1 < w5.heap.size := by have := b.size; simp at this; omega
  have hlhwr1_q := hlhwr1_
  obtain ⟨SHOxp1_1, HSHOxp1_1, HOxp1_1⟩ : ∃ S : Nat → Prop, Hid (∀ k, S k → w4.heap.size + 2 ≤ k ∧ k < w5.heap.size) ∧ Hid (OwnG w5 S (.slice Axp1_1 p1_1.length cxp1_1) p1_1) := ⟨fun k => w4.heap.size + 2 ≤ k ∧ k < w5.heap.size, Lib.hid (fun k hk => hk), Lib.hid (oxp1_1.mono (fun k hk hk2 => ⟨by have hk3 := hk; (try simp at hk3); omega, hk2⟩))⟩
  clear b hstep oxp1_1
  go_wp2_with fail
  refine (HIM.out _ w5.heap.size _ ?_ ?_ ?_ hsp1_1).mono ?_
  · exact (HT.out.below HBN.out).below (by repeat' (first | exact Below.refl _ _ | apply Below.drew | apply Below.setCell | apply Below.alloc | (simp; done) | omega | (simp; omega)))
  · exact (HOxp1_1.out.rd).below (B' := w5.heap.size) (by repeat' (first | exact Below.refl _ _ | apply Below.drew | apply Below.setCell | apply Below.alloc | (simp; done) | omega | (simp; omega))) (Nat.le_refl _)
  · (first | exact Nat.le_refl _ | (simp; done) | (simp; omega))
  rintro e w6 ⟨vgr0_1, vgr1_1, Tgr0_1, Tgr1_1, rfl, b, logr0_1, logr1_1, disgr0_1_gr1_1, ogr0_1, ogr1_1⟩
  obtain ⟨Agr0_1, cgr0_1, rfl⟩ := ogr0_1.len
  obtain ⟨Agr1_1, cgr1_1, rfl⟩ := ogr1_1.len
  have hstep : Below w5.heap.size w5 w6 := Below.trans (by repeat' (first | exact Below.refl _ _ | apply Below.drew | apply Below.setCell | apply Below.alloc | (simp; done) | omega | (simp; omega))) (b.mono (by (first | exact Nat.le_refl _ | (simp; done) | (simp; omega))))
  replace hpp1_0 := (hstep.cell (p := ⟨w.heap.size, 0, none⟩) hlhpp1_).trans hpp1_0
  replace hpp1_1 := (hstep.cell (p := ⟨w.heap.size, 1, none⟩) hlhpp1_).trans hpp1_1
  replace hlhpp1_ : w.heap.size < w6.heap.size := Nat.lt_of_lt_of_le hlhpp1_ hstep.size
  replace hwr0_0 := (hstep.cell (p := ⟨w4.heap.size, 0, none⟩) hlhwr0_).trans hwr0_0
  replace hwr0_1 := (hstep.cell (p := ⟨w4.heap.size, 1, none⟩) hlhwr0_).trans hwr0_1
  replace hlhwr0_ : w4.heap.size < w6.heap.size := Nat.lt_of_lt_of_le hlhwr0_ hstep.size
  replace hwr1_0 := (hstep.cell (p := ⟨w4.heap.size + 1, 0, none⟩) hlhwr1_).trans hwr1_0
  replace hwr1_1 := (hstep.cell (p := ⟨w4.heap.size + 1, 1, none⟩) hlhwr1_).trans hwr1_1
  replace hlhwr1_ : w4.heap.size + 1 < w6.heap.size := Nat.lt_of_lt_of_le hlhwr1_ hstep.size
  replace HOwr0_1 := Lib.hid (HOwr0_1.out.below hstep (fun _ _ hq => hq))
  replace HOwr1_1 := Lib.hid (HOwr1_1.out.below hstep (fun _ _ hq => hq))
  replace HOxp1_1 := Lib.hid (HOxp1_1.out.below hstep (fun _ _ hq => hq))
  replace HBN := Lib.hid (HBN.out.trans (hstep.mono HBN.out.size))
  have hzw6 : w5.heap.size ≤ w6.heap.size := hstep.size
  have hxp1_0 : w6.cell? ⟨w5.heap.size, 0, none⟩ = some (.int .i64 p1_0) := by have := b.cell (p := ⟨w5.heap.size, 0, none⟩) (by first | (simp; done) | (simp; omega)); simpa [go_sem] using this
  have hxp1_1 : w6.cell? ⟨w5.heap.size, 1, none⟩ = some (.slice Axp1_1 p1_1.length cxp1_1) := by have := b.cell (p := ⟨w5.heap.size, 1, none⟩) (by first | (simp; done) | (simp; omega)); simpa [go_sem] using this
  have hlhxp1_ : w5.heap.size < w6.heap.size := by have := b.size; simp at this; omega
  have hlhxp1_q := hlhxp1_
  obtain ⟨SHOgr0_1, HSHOgr0_1, HTHOgr0_1, HOgr0_1⟩ : ∃ S : Nat → Prop, Hid (∀ k, S k → w5.heap.size + 1 ≤ k ∧ k < w6.heap.size) ∧ Hid (∀ k, S k → Tgr0_1 k) ∧ Hid (OwnG w6 S (.slice Agr0_1 r0_1.length cgr0_1) r0_1) := ⟨fun k => Tgr0_1 k ∧ k < w6.heap.size, Lib.hid (fun k hk => ⟨by have hk3 := logr0_1 k hk.1; (try simp at hk3); omega, hk.2⟩), Lib.hid (fun k hk => hk.1), Lib.hid (ogr0_1.mono (fun k hk hk2 => ⟨hk, hk2⟩))⟩
  obtain ⟨SHOgr1_1, HSHOgr1_1, HTHOgr1_1, HOgr1_1⟩ : ∃ S : Nat → Prop, Hid (∀ k, S k → w5.heap.size + 1 ≤ k ∧ k < w6.heap.size) ∧ Hid (∀ k, S k → Tgr1_1 k) ∧ Hid (OwnG w6 S (.slice Agr1_1 r1_1.length cgr1_1) r1_1) := ⟨fun k => Tgr1_1 k ∧ k < w6.heap.size, Lib.hid (fun k hk => ⟨by have hk3 := logr1_1 k hk.1; (try simp at hk3); omega, hk.2⟩), Lib.hid (fun k hk => hk.1), Lib.hid (ogr1_1.mono (fun k hk hk2 => ⟨hk, hk2⟩))⟩
  have HDgr0_1_gr1_1 := Lib.hid (show ∀ k, SHOgr0_1 k → SHOgr1_1 k → False from fun k h1 h2 => disgr0_1_gr1_1 k (HTHOgr0_1.out k h1) (HTHOgr1_1.out k h2))
  clear HTHOgr0_1 HTHOgr1_1
  clear b hstep ogr0_1 ogr1_1 logr0_1 logr1_1 disgr0_1_gr1_1
  go_wp2_with fail
  refine (eqMatrix_ok _ w6.heap.size r0_0 r0_1 _ _ ?_ ?_ ?_).mono ?_
  · exact (HOgr0_1.out.rd).below (B' := w6.heap.size) (by repeat' (first | exact Below.refl _ _ | apply Below.drew | apply Below.setCell | apply Below.alloc | (simp; done) | omega | (simp; omega))) (Nat.le_refl _)
  · exact (HOwr0_1.out.rd).below (B' := w6.heap.size) (by repeat' (first | exact Below.refl _ _ | apply Below.drew | apply Below.setCell | apply Below.alloc | (simp; done) | omega | (simp; omega))) (Nat.le_refl _)
  · (first | exact Nat.le_refl _ | (simp; done) | (simp; omega))
  rintro e w7 ⟨rfl, b⟩
  have hstep : Below w6.heap.size w6 w7 := Below.trans (by repeat' (first | exact Below.refl _ _ | apply Below.drew | apply Below.setCell | apply Below.alloc | (simp; done) | omega | (simp; omega))) (b.mono (by (first | exact Nat.le_refl _ | (simp; done) | (simp; omega))))
  replace hpp1_0 := (hstep.cell (p := ⟨w.heap.size, 0, none⟩) hlhpp1_).trans hpp1_0
  replace hpp1_1 := (hstep.cell (p := ⟨w.heap.size, 1, none⟩) hlhpp1_).trans hpp1_1
  replace hlhpp1_ : w.heap.size < w7.heap.size := Nat.lt_of_lt_of_le hlhpp1_ hstep.size
  replace hwr0_0 := (hstep.cell (p := ⟨w4.heap.size, 0, none⟩) hlhwr0_).trans hwr0_0
  replace hwr0_1 := (hstep.cell (p := ⟨w4.heap.size, 1, none⟩) hlhwr0_).trans hwr0_1
  replace hlhwr0_ : w4.heap.size < w7.heap.size := Nat.lt_of_lt_of_le hlhwr0_ hstep.size
  replace hwr1_0 := (hstep.cell (p := ⟨w4.heap.size + 1, 0, none⟩) hlhwr1_).trans hwr1_0
  replace hwr1_1 := (hstep.cell (p := ⟨w4.heap.size + 1, 1, none⟩) hlhwr1_).trans hwr1_1
  replace hlhwr1_ : w4.heap.size + 1 < w7.heap.size := Nat.lt_of_lt_of_le hlhwr1_ hstep.size
  replace hxp1_0 := (hstep.cell (p := ⟨w5.heap.size, 0, none⟩) hlhxp1_).trans hxp1_0
  replace hxp1_1 := (hstep.cell (p := ⟨w5.heap.size, 1, none⟩) hlhxp1_).trans hxp1_1
  replace hlhxp1_ : w5.heap.size < w7.heap.size := Nat.lt_of_lt_of_le hlhxp1_ hstep.size
  replace HOwr0_1 := Lib.hid (HOwr0_1.out.below hstep (fun _ _ hq => hq))
  replace HOwr1_1 := Lib.hid (HOwr1_1.out.below hstep (fun _ _ hq => hq))
  replace HOxp1_1 := Lib.hid (HOxp1_1.out.below hstep (fun _ _ hq => hq))
  replace HOgr0_1 := Lib.hid (HOgr0_1.out.below hstep (fun _ _ hq => hq))
  replace HOgr1_1 := Lib.hid (HOgr1_1.out.below hstep (fun _ _ hq => hq))
  replace HBN := Lib.hid (HBN.out.trans (hstep.mono HBN.out.size))
  have hzw7 : w6.heap.size ≤ w7.heap.size := hstep.size
  have hgr0_0 : w7.cell? ⟨w6.heap.size, 0, none⟩ = some (.int .i64 r0_0) := by have := b.cell (p := ⟨w6.heap.size, 0, none⟩) (by first | (simp; done) | (simp; omega)); simpa [go_sem] using this
  have hgr0_1 : w7.cell? ⟨w6.heap.size, 1, none⟩ = some (.slice Agr0_1 r0_1.length cgr0_1) := by have := b.cell (p := ⟨w6.heap.size, 1, none⟩) (by first | (simp; done) | (simp; omega)); simpa [go_sem] using this
  have hlhgr0_ : w6.heap.size < w7.heap.size := by have := b.size; simp at this; omega
  have hlhgr0_q := hlhgr0_
  have hgr1_0 : w7.cell? ⟨w6.heap.size + 1, 0, none⟩ = some (.int .i64 r1_0) := by have := b.cell (p := ⟨w6.heap.size + 1, 0, none⟩) (by first | (simp; done) | (simp; omega)); simpa [go_sem] using this
  have hgr1_1 : w7.cell? ⟨w6.heap.size + 1, 1, none⟩ = some (.slice Agr1_1 r1_1.length cgr1_1) := by have := b.cell (p := ⟨w6.heap.size + 1, 1, none⟩) (by first | (simp; done) | (simp; omega)); simpa [go_sem] using this
  have hlhgr1_ : w6.heap.size + 1 < w7.heap.size := by have := b.size; simp at this; omega
  have hlhgr1_q := hlhgr1_
  clear b hstep 
  go_wp2_with fail
  refine (eqMatrix_ok _ w7.heap.size r1_0 r1_1 _ _ ?_ ?_ ?_).mono ?_
  · exact (HOgr1_1.out.rd).below (B' := w7.heap.size) (by repeat' (first | exact Below.refl _ _ | apply Below.drew | apply Below.setCell | apply Below.alloc | (simp; done) | omega | (simp; omega))) (Nat.le_refl _)
  · exact (HOwr1_1.out.rd).below (B' := w7.heap.size) (by repeat' (first | exact Below.refl _ _ | apply Below.drew | apply Below.setCell | apply Below.alloc | (simp; done) | omega | (simp; omega))) (Nat.le_refl _)
  · (first | exact Nat.le_refl _ | (simp; done) | (simp; omega))
  rintro e w8 ⟨rfl, b⟩
  have hstep : Below w7.heap.size w7 w8 := Below.trans (by repeat' (first | exact Below.refl _ _ | apply Below.drew | apply Below.setCell | apply Below.alloc | (simp; done) | omega | (simp; omega))) (b.mono (by (first | exact Nat.le_refl _ | (simp; done) | (simp; omega))))
  replace hpp1_0 := (hstep.cell (p := ⟨w.heap.size, 0, none⟩) hlhpp1_).trans hpp1_0
  replace hpp1_1 := (hstep.cell (p := ⟨w.heap.size, 1, none⟩) hlhpp1_).trans hpp1_1
  replace hlhpp1_ : w.heap.size < w8.heap.size := Nat.lt_of_lt_of_le hlhpp1_ hstep.size
  replace hwr0_0 := (hstep.cell (p := ⟨w4.heap.size, 0, none⟩) hlhwr0_).trans hwr0_0
  replace hwr0_1 := (hstep.cell (p := ⟨w4.heap.size, 1, none⟩) hlhwr0_).trans hwr0_1
  replace hlhwr0_ : w4.heap.size < w8.heap.size := Nat.lt_of_lt_of_le hlhwr0_ hstep.size
  replace hwr1_0 := (hstep.cell (p := ⟨w4.heap.size + 1, 0, none⟩) hlhwr1_).trans hwr1_0
  replace hwr1_1 := (hstep.cell (p := ⟨w4.heap.size + 1, 1, none⟩) hlhwr1_).trans hwr1_1
  replace hlhwr1_ : w4.heap.size + 1 < w8.heap.size := Nat.lt_of_lt_of_le hlhwr1_ hstep.size
  replace hxp1_0 := (hstep.cell (p := ⟨w5.heap.size, 0, none⟩) hlhxp1_).trans hxp1_0
  replace hxp1_1 := (hstep.cell (p := ⟨w5.heap.size, 1, none⟩) hlhxp1_).trans hxp1_1
  replace hlhxp1_ : w5.heap.size < w8.heap.size := Nat.lt_of_lt_of_le hlhxp1_ hstep.size
  replace hgr0_0 := (hstep.cell (p := ⟨w6.heap.size, 0, none⟩) hlhgr0_).trans hgr0_0
  replace hgr0_1 := (hstep.cell (p := ⟨w6.heap.size, 1, none⟩) hlhgr0_).trans hgr0_1
  replace hlhgr0_ : w6.heap.size < w8.heap.size := Nat.lt_of_lt_of_le hlhgr0_ hstep.size
  replace hgr1_0 := (hstep.cell (p := ⟨w6.heap.size + 1, 0, none⟩) hlhgr1_).trans hgr1_0
  replace hgr1_1 := (hstep.cell (p := ⟨w6.heap.size + 1, 1, none⟩) hlhgr1_).trans hgr1_1
  replace hlhgr1_ : w6.heap.size + 1 < w8.heap.size := Nat.lt_of_lt_of_le hlhgr1_ hstep.size
  replace HOwr0_1 := Lib.hid (HOwr0_1.out.below hstep (fun _ _ hq => hq))
  replace HOwr1_1 := Lib.hid (HOwr1_1.out.below hstep (fun _ _ hq => hq))
  replace HOxp1_1 := Lib.hid (HOxp1_1.out.below hstep (fun _ _ hq => hq))
  replace HOgr0_1 := Lib.hid (HOgr0_1.out.below hstep (fun _ _ hq => hq))
  replace HOgr1_1 := Lib.hid (HOgr1_1.out.below hstep (fun _ _ hq => hq))
  replace HBN := Lib.hid (HBN.out.trans (hstep.mono HBN.out.size))
  have hzw8 : w7.heap.size ≤ w8.heap.size := hstep.size
  clear b hstep 
  have HD : Hid (Below w8.heap.size w8 w8.drew) := Lib.hid (Below.refl _ _).drew
  have HV61 := Lib.hid ((HVp1_1.out.below HBN.out (Nat.le_refl _)).mono HBN.out.size)
  have HG61 := Lib.hid (HOxp1_1.out.rd)
  have HELD : Hid (∀ w' : World, Hid (Below w8.heap.size w8 w') → w'.cell? ⟨w.heap.size, 0, none⟩ = some (.int .i64 p1_0) ∧ w'.cell? ⟨w.heap.size, 1, none⟩ = some (.slice Aup1_1 p1_1.length cup1_1) ∧ w'.cell? ⟨w5.heap.size, 0, none⟩ = some (.int .i64 p1_0) ∧ w'.cell? ⟨w5.heap.size, 1, none⟩ = some (.slice Axp1_1 p1_1.length cxp1_1) ∧ Hid (Below w8.heap.size w8 w')) := Lib.hid (fun w' H => ⟨(H.out.cell (p := ⟨w.heap.size, 0, none⟩) hlhpp1_).trans hpp1_0, (H.out.cell (p := ⟨w.heap.size, 1, none⟩) hlhpp1_).trans hpp1_1, (H.out.cell (p := ⟨w5.heap.size, 0, none⟩) hlhxp1_).trans hxp1_0, (H.out.cell (p := ⟨w5.heap.size, 1, none⟩) hlhxp1_).trans hxp1_1, H⟩)
  go_wp2_with fail
  go_region_held3 (fun w' => w'.cell? ⟨w.heap.size, 0, none⟩ = some (.int .i64 p1_0) ∧ w'.cell? ⟨w.heap.size, 1, none⟩ = some (.slice Aup1_1 p1_1.length cup1_1) ∧ w'.cell? ⟨w5.heap.size, 0, none⟩ = some (.int .i64 p1_0) ∧ w'.cell? ⟨w5.heap.size, 1, none⟩ = some (.slice Axp1_1 p1_1.length cxp1_1) ∧ Hid (Below w8.heap.size w8 w'))
    (exact HELD.out _ (by assumption))
    (first
      | (go_at_call 16; go_split_ands; refine (toMatrix_fr w8 _ (by assumption) p1_0 p1_1 _ HV61.out hsp1_1).mono ?_; rintro e wa ⟨vyp1_1, rfl, ba, bb, oyp1_1⟩)
      | (go_at_call 18; go_split_ands; refine (eqMatrix_fr w8 _ (by assumption) p1_0 p1_1 _ _ HG61.out (by assumption)).mono ?_; rintro e w9 ⟨rfl, bc⟩))
  have hstep := bc.out
  clear HD HELD HV61 HG61 oyp1_1 ba bb bc
  replace hpp1_0 := (hstep.cell (p := ⟨w.heap.size, 0, none⟩) hlhpp1_).trans hpp1_0
  replace hpp1_1 := (hstep.cell (p := ⟨w.heap.size, 1, none⟩) hlhpp1_).trans hpp1_1
  replace hlhpp1_ : w.heap.size < w9.heap.size := Nat.lt_of_lt_of_le hlhpp1_ hstep.size
  replace hwr0_0 := (hstep.cell (p := ⟨w4.heap.size, 0, none⟩) hlhwr0_).trans hwr0_0
  replace hwr0_1 := (hstep.cell (p := ⟨w4.heap.size, 1, none⟩) hlhwr0_).trans hwr0_1
  replace hlhwr0_ : w4.heap.size < w9.heap.size := Nat.lt_of_lt_of_le hlhwr0_ hstep.size
  replace hwr1_0 := (hstep.cell (p := ⟨w4.heap.size + 1, 0, none⟩) hlhwr1_).trans hwr1_0
  replace hwr1_1 := (hstep.cell (p := ⟨w4.heap.size + 1, 1, none⟩) hlhwr1_).trans hwr1_1
  replace hlhwr1_ : w4.heap.size + 1 < w9.heap.size := Nat.lt_of_lt_of_le hlhwr1_ hstep.size
  replace hxp1_0 := (hstep.cell (p := ⟨w5.heap.size, 0, none⟩) hlhxp1_).trans hxp1_0
  replace hxp1_1 := (hstep.cell (p := ⟨w5.heap.size, 1, none⟩) hlhxp1_).trans hxp1_1
  replace hlhxp1_ : w5.heap.size < w9.heap.size := Nat.lt_of_lt_of_le hlhxp1_ hstep.size
  replace hgr0_0 := (hstep.cell (p := ⟨w6.heap.size, 0, none⟩) hlhgr0_).trans hgr0_0
  replace hgr0_1 := (hstep.cell (p := ⟨w6.heap.size, 1, none⟩) hlhgr0_).trans hgr0_1
  replace hlhgr0_ : w6.heap.size < w9.heap.size := Nat.lt_of_lt_of_le hlhgr0_ hstep.size
  replace hgr1_0 := (hstep.cell (p := ⟨w6.heap.size + 1, 0, none⟩) hlhgr1_).trans hgr1_0
  replace hgr1_1 := (hstep.cell (p := ⟨w6.heap.size + 1, 1, none⟩) hlhgr1_).trans hgr1_1
  replace hlhgr1_ : w6.heap.size + 1 < w9.heap.size := Nat.lt_of_lt_of_le hlhgr1_ hstep.size
  replace HOwr0_1 := Lib.hid (HOwr0_1.out.below hstep (fun _ _ hq => hq))
  replace HOwr1_1 := Lib.hid (HOwr1_1.out.below hstep (fun _ _ hq => hq))
  replace HOxp1_1 := Lib.hid (HOxp1_1.out.below hstep (fun _ _ hq => hq))
  replace HOgr0_1 := Lib.hid (HOgr0_1.out.below hstep (fun _ _ hq => hq))
  replace HOgr1_1 := Lib.hid (HOgr1_1.out.below hstep (fun _ _ hq => hq))
  replace HBN := Lib.hid (HBN.out.trans (hstep.mono HBN.out.size))
  have hzw9 : w8.heap.size ≤ w9.heap.size := hstep.size
  clear hstep
  have := cntG_le p1_1
  go_wp2_with fail
  refine (markMatrix_ok _ p1_0 p1_1 _ SHOxp1_1 1 (HOxp1_1.out) (by omega) (by omega)).mono ?_
  rintro e w10 ⟨h2, t, om0⟩
  replace hpp1_0 := (t.cellAt (p := ⟨w.heap.size, 0, none⟩) hlhpp1_ (fun hk => by (first | (have := HSHOxp1_1.out _ hk; dsimp only at this; omega)))).trans hpp1_0
  replace hpp1_1 := (t.cellAt (p := ⟨w.heap.size, 1, none⟩) hlhpp1_ (fun hk => by (first | (have := HSHOxp1_1.out _ hk; dsimp only at this; omega)))).trans hpp1_1
  replace hwr0_0 := (t.cellAt (p := ⟨w4.heap.size, 0, none⟩) hlhwr0_ (fun hk => by (first | (have := HSHOxp1_1.out _ hk; dsimp only at this; omega)))).trans hwr0_0
  replace hwr0_1 := (t.cellAt (p := ⟨w4.heap.size, 1, none⟩) hlhwr0_ (fun hk => by (first | (have := HSHOxp1_1.out _ hk; dsimp only at this; omega)))).trans hwr0_1
  replace hwr1_0 := (t.cellAt (p := ⟨w4.heap.size + 1, 0, none⟩) hlhwr1_ (fun hk => by (first | (have := HSHOxp1_1.out _ hk; dsimp only at this; omega)))).trans hwr1_0
  replace hwr1_1 := (t.cellAt (p := ⟨w4.heap.size + 1, 1, none⟩) hlhwr1_ (fun hk => by (first | (have := HSHOxp1_1.out _ hk; dsimp only at this; omega)))).trans hwr1_1
  replace hxp1_0 := (t.cellAt (p := ⟨w5.heap.size, 0, none⟩) hlhxp1_ (fun hk => by (first | (have := HSHOxp1_1.out _ hk; dsimp only at this; omega)))).trans hxp1_0
  replace hxp1_1 := (t.cellAt (p := ⟨w5.heap.size, 1, none⟩) hlhxp1_ (fun hk => by (first | (have := HSHOxp1_1.out _ hk; dsimp only at this; omega)))).trans hxp1_1
  replace hgr0_0 := (t.cellAt (p := ⟨w6.heap.size, 0, none⟩) hlhgr0_ (fun hk => by (first | (have := HSHOxp1_1.out _ hk; dsimp only at this; omega)))).trans hgr0_0
  replace hgr0_1 := (t.cellAt (p := ⟨w6.heap.size, 1, none⟩) hlhgr0_ (fun hk => by (first | (have := HSHOxp1_1.out _ hk; dsimp only at this; omega)))).trans hgr0_1
  replace hgr1_0 := (t.cellAt (p := ⟨w6.heap.size + 1, 0, none⟩) hlhgr1_ (fun hk => by (first | (have := HSHOxp1_1.out _ hk; dsimp only at this; omega)))).trans hgr1_0
  replace hgr1_1 := (t.cellAt (p := ⟨w6.heap.size + 1, 1, none⟩) hlhgr1_ (fun hk => by (first | (have := HSHOxp1_1.out _ hk; dsimp only at this; omega)))).trans hgr1_1
  replace hlhpp1_ : w.heap.size < w10.heap.size := Nat.lt_of_lt_of_le hlhpp1_ t.size
  replace hlhwr0_ : w4.heap.size < w10.heap.size := Nat.lt_of_lt_of_le hlhwr0_ t.size
  replace hlhwr1_ : w4.heap.size + 1 < w10.heap.size := Nat.lt_of_lt_of_le hlhwr1_ t.size
  replace hlhxp1_ : w5.heap.size < w10.heap.size := Nat.lt_of_lt_of_le hlhxp1_ t.size
  replace hlhgr0_ : w6.heap.size < w10.heap.size := Nat.lt_of_lt_of_le hlhgr0_ t.size
  replace hlhgr1_ : w6.heap.size + 1 < w10.heap.size := Nat.lt_of_lt_of_le hlhgr1_ t.size
  replace HOwr0_1 := Lib.hid (HOwr0_1.out.blocks (w' := w10) (fun q hq hql => t.block q hql (fun hx => by (first | (have := HSHOxp1_1.out q hx; have := HSHOwr0_1.out q hq; omega)))))
  replace HOwr1_1 := Lib.hid (HOwr1_1.out.blocks (w' := w10) (fun q hq hql => t.block q hql (fun hx => by (first | (have := HSHOxp1_1.out q hx; have := HSHOwr1_1.out q hq; omega)))))
  replace HOgr0_1 := Lib.hid (HOgr0_1.out.blocks (w' := w10) (fun q hq hql => t.block q hql (fun hx => by (first | (have := HSHOxp1_1.out q hx; have := HSHOgr0_1.out q hq; omega)))))
  replace HOgr1_1 := Lib.hid (HOgr1_1.out.blocks (w' := w10) (fun q hq hql => t.block q hql (fun hx => by (first | (have := HSHOxp1_1.out q hx; have := HSHOgr1_1.out q hq; omega)))))
  replace HBN := Lib.hid (HBN.out.trans (t.below HBN.out.size (fun k hk => by (first | (have := HSHOxp1_1.out k hk; have := HBN.out.size; omega)))))
  have hzw10 : w9.heap.size ≤ w10.heap.size := t.size
  replace HOxp1_1 := Lib.hid om0
  clear t om0
  obtain ⟨kp1_, hkp1_a, hkp1_b, rfl⟩ : ∃ z : Int, 0 ≤ z ∧ z ≤ 1 + 1048576 * 1 ∧ e = .returned (.int .i64 z) := ⟨_, by omega, by omega, h2⟩
  clear h2
  clear HOxp1_1 HSHOxp1_1
  have hkneg : ¬ kp1_ < 0 := by omega
  go_wp2_with fail
  refine (eqMatrix_ok _ w10.heap.size r0_0 r0_1 _ _ ?_ ?_ ?_).mono ?_
  · exact (HOgr0_1.out.rd).below (B' := w10.heap.size) (by repeat' (first | exact Below.refl _ _ | apply Below.drew | apply Below.setCell | apply Below.alloc | (simp; done) | omega | (simp; omega))) (Nat.le_refl _)
  · exact (HOwr0_1.out.rd).below (B' := w10.heap.size) (by repeat' (first | exact Below.refl _ _ | apply Below.drew | apply Below.setCell | apply Below.alloc | (simp; done) | omega | (simp; omega))) (Nat.le_refl _)
  · (first | exact Nat.le_refl _ | (simp; done) | (simp; omega))
  rintro e w11 ⟨rfl, b⟩
  have hstep : Below w10.heap.size w10 w11 := Below.trans (by repeat' (first | exact Below.refl _ _ | apply Below.drew | apply Below.setCell | apply Below.alloc | (simp; done) | omega | (simp; omega))) (b.mono (by (first | exact Nat.le_refl _ | (simp; done) | (simp; omega))))
  replace hpp1_0 := (hstep.cell (p := ⟨w.heap.size, 0, none⟩) hlhpp1_).trans hpp1_0
  replace hpp1_1 := (hstep.cell (p := ⟨w.heap.size, 1, none⟩) hlhpp1_).trans hpp1_1
  replace hlhpp1_ : w.heap.size < w11.heap.size := Nat.lt_of_lt_of_le hlhpp1_ hstep.size
  replace hwr0_0 := (hstep.cell (p := ⟨w4.heap.size, 0, none⟩) hlhwr0_).trans hwr0_0
  replace hwr0_1 := (hstep.cell (p := ⟨w4.heap.size, 1, none⟩) hlhwr0_).trans hwr0_1
  replace hlhwr0_ : w4.heap.size < w11.heap.size := Nat.lt_of_lt_of_le hlhwr0_ hstep.size
  replace hwr1_0 := (hstep.cell (p := ⟨w4.heap.size + 1, 0, none⟩) hlhwr1_).trans hwr1_0
  replace hwr1_1 := (hstep.cell (p := ⟨w4.heap.size + 1, 1, none⟩) hlhwr1_).trans hwr1_1
  replace hlhwr1_ : w4.heap.size + 1 < w11.heap.size := Nat.lt_of_lt_of_le hlhwr1_ hstep.size
  replace hxp1_0 := (hstep.cell (p := ⟨w5.heap.size, 0, none⟩) hlhxp1_).trans hxp1_0
  replace hxp1_1 := (hstep.cell (p := ⟨w5.heap.size, 1, none⟩) hlhxp1_).trans hxp1_1
  replace hlhxp1_ : w5.heap.size < w11.heap.size := Nat.lt_of_lt_of_le hlhxp1_ hstep.size
  replace hgr0_0 := (hstep.cell (p := ⟨w6.heap.size, 0, none⟩) hlhgr0_).trans hgr0_0
  replace hgr0_1 := (hstep.cell (p := ⟨w6.heap.size, 1, none⟩) hlhgr0_).trans hgr0_1
  replace hlhgr0_ : w6.heap.size < w11.heap.size := Nat.lt_of_lt_of_le hlhgr0_ hstep.size
  replace hgr1_0 := (hstep.cell (p := ⟨w6.heap.size + 1, 0, none⟩) hlhgr1_).trans hgr1_0
  replace hgr1_1 := (hstep.cell (p := ⟨w6.heap.size + 1, 1, none⟩) hlhgr1_).trans hgr1_1
  replace hlhgr1_ : w6.heap.size + 1 < w11.heap.size := Nat.lt_of_lt_of_le hlhgr1_ hstep.size
  replace HOwr0_1 := Lib.hid (HOwr0_1.out.below hstep (fun _ _ hq => hq))
  replace HOwr1_1 := Lib.hid (HOwr1_1.out.below hstep (fun _ _ hq => hq))
  replace HOgr0_1 := Lib.hid (HOgr0_1.out.below hstep (fun _ _ hq => hq))
  replace HOgr1_1 := Lib.hid (HOgr1_1.out.below hstep (fun _ _ hq => hq))
  replace HBN := Lib.hid (HBN.out.trans (hstep.mono HBN.out.size))
  have hzw11 : w10.heap.size ≤ w11.heap.size := hstep.size
  clear b hstep 
  go_wp2_with fail
  refine (eqMatrix_ok _ w11.heap.size r1_0 r1_1 _ _ ?_ ?_ ?_).mono ?_
  · exact (HOgr1_1.out.rd).below (B' := w11.heap.size) (by repeat' (first | exact Below.refl _ _ | apply Below.drew | apply Below.setCell | apply Below.alloc | (simp; done) | omega | (simp; omega))) (Nat.le_refl _)
  · exact (HOwr1_1.out.rd).below (B' := w11.heap.size) (by repeat' (first | exact Below.refl _ _ | apply Below.drew | apply Below.setCell | apply Below.alloc | (simp; done) | omega | (simp; omega))) (Nat.le_refl _)
  · (first | exact Nat.le_refl _ | (simp; done) | (simp; omega))
  rintro e w12 ⟨rfl, b⟩
  have hstep : Below w11.heap.size w11 w12 := Below.trans (by repeat' (first | exact Below.refl _ _ | apply Below.drew | apply Below.setCell | apply Below.alloc | (simp; done) | omega | (simp; omega))) (b.mono (by (first | exact Nat.le_refl _ | (simp; done) | (simp; omega))))
  replace hpp1_0 := (hstep.cell (p := ⟨w.heap.size, 0, none⟩) hlhpp1_).trans hpp1_0
  replace hpp1_1 := (hstep.cell (p := ⟨w.heap.size, 1, none⟩) hlhpp1_).trans hpp1_1
  replace hlhpp1_ : w.heap.size < w12.heap.size := Nat.lt_of_lt_of_le hlhpp1_ hstep.size
  replace hwr0_0 := (hstep.cell (p := ⟨w4.heap.size, 0, none⟩) hlhwr0_).trans hwr0_0
  replace hwr0_1 := (hstep.cell (p := ⟨w4.heap.size, 1, none⟩) hlhwr0_).trans hwr0_1
  replace hlhwr0_ : w4.heap.size < w12.heap.size := Nat.lt_of_lt_of_le hlhwr0_ hstep.size
  replace hwr1_0 := (hstep.cell (p := ⟨w4.heap.size + 1, 0, none⟩) hlhwr1_).trans hwr1_0
  replace hwr1_1 := (hstep.cell (p := ⟨w4.heap.size + 1, 1, none⟩) hlhwr1_).trans hwr1_1
  replace hlhwr1_ : w4.heap.size + 1 < w12.heap.size := Nat.lt_of_lt_of_le hlhwr1_ hstep.size
  replace hxp1_0 := (hstep.cell (p := ⟨w5.heap.size, 0, none⟩) hlhxp1_).trans hxp1_0
  replace hxp1_1 := (hstep.cell (p := ⟨w5.heap.size, 1, none⟩) hlhxp1_).trans hxp1_1
  replace hlhxp1_ : w5.heap.size < w12.heap.size := Nat.lt_of_lt_of_le hlhxp1_ hstep.size
  replace hgr0_0 := (hstep.cell (p := ⟨w6.heap.size, 0, none⟩) hlhgr0_).trans hgr0_0
  replace hgr0_1 := (hstep.cell (p := ⟨w6.heap.size, 1, none⟩) hlhgr0_).trans hgr0_1
  replace hlhgr0_ : w6.heap.size < w12.heap.size := Nat.lt_of_lt_of_le hlhgr0_ hstep.size
  replace hgr1_0 := (hstep.cell (p := ⟨w6.heap.size + 1, 0, none⟩) hlhgr1_).trans hgr1_0
  replace hgr1_1 := (hstep.cell (p := ⟨w6.heap.size + 1, 1, none⟩) hlhgr1_).trans hgr1_1
  replace hlhgr1_ : w6.heap.size + 1 < w12.heap.size := Nat.lt_of_lt_of_le hlhgr1_ hstep.size
  replace HOwr0_1 := Lib.hid (HOwr0_1.out.below hstep (fun _ _ hq => hq))
  replace HOwr1_1 := Lib.hid (HOwr1_1.out.below hstep (fun _ _ hq => hq))
  replace HOgr0_1 := Lib.hid (HOgr0_1.out.below hstep (fun _ _ hq => hq))
  replace HOgr1_1 := Lib.hid (HOgr1_1.out.below hstep (fun _ _ hq => hq))
  replace HBN := Lib.hid (HBN.out.trans (hstep.mono HBN.out.size))
  have hzw12 : w11.heap.size ≤ w12.heap.size := hstep.size
  clear b hstep 
  have hcbr0_1 : cntG r0_1 ≤ 1099511627776 := Nat.le_trans (cntG_le _) HOgr0_1.out.2
  have hcbr1_1 : cntG r1_1 ≤ 1099511627776 := Nat.le_trans (cntG_le _) HOgr1_1.out.2
  go_wp2_with fail
  refine (markMatrix_ok _ r0_0 r0_1 _ SHOgr0_1 1 (HOgr0_1.out) (by omega) (by omega)).mono ?_
  rintro e w13 ⟨h2, t, om0⟩
  replace hpp1_0 := (t.cellAt (p := ⟨w.heap.size, 0, none⟩) hlhpp1_ (fun hk => by (first | (have := HSHOgr0_1.out _ hk; dsimp only at this; omega)))).trans hpp1_0
  replace hpp1_1 := (t.cellAt (p := ⟨w.heap.size, 1, none⟩) hlhpp1_ (fun hk => by (first | (have := HSHOgr0_1.out _ hk; dsimp only at this; omega)))).trans hpp1_1
  replace hwr0_0 := (t.cellAt (p := ⟨w4.heap.size, 0, none⟩) hlhwr0_ (fun hk => by (first | (have := HSHOgr0_1.out _ hk; dsimp only at this; omega)))).trans hwr0_0
  replace hwr0_1 := (t.cellAt (p := ⟨w4.heap.size, 1, none⟩) hlhwr0_ (fun hk => by (first | (have := HSHOgr0_1.out _ hk; dsimp only at this; omega)))).trans hwr0_1
  replace hwr1_0 := (t.cellAt (p := ⟨w4.heap.size + 1, 0, none⟩) hlhwr1_ (fun hk => by (first | (have := HSHOgr0_1.out _ hk; dsimp only at this; omega)))).trans hwr1_0
  replace hwr1_1 := (t.cellAt (p := ⟨w4.heap.size + 1, 1, none⟩) hlhwr1_ (fun hk => by (first | (have := HSHOgr0_1.out _ hk; dsimp only at this; omega)))).trans hwr1_1
  replace hxp1_0 := (t.cellAt (p := ⟨w5.heap.size, 0, none⟩) hlhxp1_ (fun hk => by (first | (have := HSHOgr0_1.out _ hk; dsimp only at this; omega)))).trans hxp1_0
  replace hxp1_1 := (t.cellAt (p := ⟨w5.heap.size, 1, none⟩) hlhxp1_ (fun hk => by (first | (have := HSHOgr0_1.out _ hk; dsimp only at this; omega)))).trans hxp1_1
  replace hgr0_0 := (t.cellAt (p := ⟨w6.heap.size, 0, none⟩) hlhgr0_ (fun hk => by (first | (have := HSHOgr0_1.out _ hk; dsimp only at this; omega)))).trans hgr0_0
  replace hgr0_1 := (t.cellAt (p := ⟨w6.heap.size, 1, none⟩) hlhgr0_ (fun hk => by (first | (have := HSHOgr0_1.out _ hk; dsimp only at this; omega)))).trans hgr0_1
  replace hgr1_0 := (t.cellAt (p := ⟨w6.heap.size + 1, 0, none⟩) hlhgr1_ (fun hk => by (first | (have := HSHOgr0_1.out _ hk; dsimp only at this; omega)))).trans hgr1_0
  replace hgr1_1 := (t.cellAt (p := ⟨w6.heap.size + 1, 1, none⟩) hlhgr1_ (fun hk => by (first | (have := HSHOgr0_1.out _ hk; dsimp only at this; omega)))).trans hgr1_1
  replace hlhpp1_ : w.heap.size < w13.heap.size := Nat.lt_of_lt_of_le hlhpp1_ t.size
  replace hlhwr0_ : w4.heap.size < w13.heap.size := Nat.lt_of_lt_of_le hlhwr0_ t.size
  replace hlhwr1_ : w4.heap.size + 1 < w13.heap.size := Nat.lt_of_lt_of_le hlhwr1_ t.size
  replace hlhxp1_ : w5.heap.size < w13.heap.size := Nat.lt_of_lt_of_le hlhxp1_ t.size
  replace hlhgr0_ : w6.heap.size < w13.heap.size := Nat.lt_of_lt_of_le hlhgr0_ t.size
  replace hlhgr1_ : w6.heap.size + 1 < w13.heap.size := Nat.lt_of_lt_of_le hlhgr1_ t.size
  replace HOwr0_1 := Lib.hid (HOwr0_1.out.blocks (w' := w13) (fun q hq hql => t.block q hql (fun hx => by (first | (have := HSHOgr0_1.out q hx; have := HSHOwr0_1.out q hq; omega)))))
  replace HOwr1_1 := Lib.hid (HOwr1_1.out.blocks (w' := w13) (fun q hq hql => t.block q hql (fun hx => by (first | (have := HSHOgr0_1.out q hx; have := HSHOwr1_1.out q hq; omega)))))
  replace HOgr1_1 := Lib.hid (HOgr1_1.out.blocks (w' := w13) (fun q hq hql => t.block q hql (fun hx => by (first | exact HDgr0_1_gr1_1.out q hx hq))))
  replace HBN := Lib.hid (HBN.out.trans (t.below HBN.out.size (fun k hk => by (first | (have := HSHOgr0_1.out k hk; have := HBN.out.size; omega)))))
  have hzw13 : w12.heap.size ≤ w13.heap.size := t.size
  replace HOgr0_1 := Lib.hid om0
  clear t om0
  obtain ⟨mr0_, HMr0_, hmr0_a, hmr0_b, rfl⟩ : ∃ z : Int, Hid (1 + ((cntG r0_1 : Nat) : Int) = z) ∧ 0 ≤ z ∧ z ≤ 1 + 1099511627776 * 1 ∧ e = .returned (.int .i64 z) := ⟨_, Lib.hid rfl, by omega, by omega, h2⟩
  clear h2
  go_wp2_with fail
  refine (markMatrix_ok _ r1_0 r1_1 _ SHOgr1_1 mr0_ (HOgr1_1.out) (by omega) (by omega)).mono ?_
  rintro e w14 ⟨h2, t, om0⟩
  replace hpp1_0 := (t.cellAt (p := ⟨w.heap.size, 0, none⟩) hlhpp1_ (fun hk => by (first | (have := HSHOgr1_1.out _ hk; dsimp only at this; omega)))).trans hpp1_0
  replace hpp1_1 := (t.cellAt (p := ⟨w.heap.size, 1, none⟩) hlhpp1_ (fun hk => by (first | (have := HSHOgr1_1.out _ hk; dsimp only at this; omega)))).trans hpp1_1
  replace hwr0_0 := (t.cellAt (p := ⟨w4.heap.size, 0, none⟩) hlhwr0_ (fun hk => by (first | (have := HSHOgr1_1.out _ hk; dsimp only at this; omega)))).trans hwr0_0
  replace hwr0_1 := (t.cellAt (p := ⟨w4.heap.size, 1, none⟩) hlhwr0_ (fun hk => by (first | (have := HSHOgr1_1.out _ hk; dsimp only at this; omega)))).trans hwr0_1
  replace hwr1_0 := (t.cellAt (p := ⟨w4.heap.size + 1, 0, none⟩) hlhwr1_ (fun hk => by (first | (have := HSHOgr1_1.out _ hk; dsimp only at this; omega)))).trans hwr1_0
  replace hwr1_1 := (t.cellAt (p := ⟨w4.heap.size + 1, 1, none⟩) hlhwr1_ (fun hk => by (first | (have := HSHOgr1_1.out _ hk; dsimp only at this; omega)))).trans hwr1_1
  replace hxp1_0 := (t.cellAt (p := ⟨w5.heap.size, 0, none⟩) hlhxp1_ (fun hk => by (first | (have := HSHOgr1_1.out _ hk; dsimp only at this; omega)))).trans hxp1_0
  replace hxp1_1 := (t.cellAt (p := ⟨w5.heap.size, 1, none⟩) hlhxp1_ (fun hk => by (first | (have := HSHOgr1_1.out _ hk; dsimp only at this; omega)))).trans hxp1_1
  replace hgr0_0 := (t.cellAt (p := ⟨w6.heap.size, 0, none⟩) hlhgr0_ (fun hk => by (first | (have := HSHOgr1_1.out _ hk; dsimp only at this; omega)))).trans hgr0_0
  replace hgr0_1 := (t.cellAt (p := ⟨w6.heap.size, 1, none⟩) hlhgr0_ (fun hk => by (first | (have := HSHOgr1_1.out _ hk; dsimp only at this; omega)))).trans hgr0_1
  replace hgr1_0 := (t.cellAt (p := ⟨w6.heap.size + 1, 0, none⟩) hlhgr1_ (fun hk => by (first | (have := HSHOgr1_1.out _ hk; dsimp only at this; omega)))).trans hgr1_0
  replace hgr1_1 := (t.cellAt (p := ⟨w6.heap.size + 1, 1, none⟩) hlhgr1_ (fun hk => by (first | (have := HSHOgr1_1.out _ hk; dsimp only at this; omega)))).trans hgr1_1
  replace hlhpp1_ : w.heap.size < w14.heap.size := Nat.lt_of_lt_of_le hlhpp1_ t.size
  replace hlhwr0_ : w4.heap.size < w14.heap.size := Nat.lt_of_lt_of_le hlhwr0_ t.size
  replace hlhwr1_ : w4.heap.size + 1 < w14.heap.size := Nat.lt_of_lt_of_le hlhwr1_ t.size
  replace hlhxp1_ : w5.heap.size < w14.heap.size := Nat.lt_of_lt_of_le hlhxp1_ t.size
  replace hlhgr0_ : w6.heap.size < w14.heap.size := Nat.lt_of_lt_of_le hlhgr0_ t.size
  replace hlhgr1_ : w6.heap.size + 1 < w14.heap.size := Nat.lt_of_lt_of_le hlhgr1_ t.size
  replace HOwr0_1 := Lib.hid (HOwr0_1.out.blocks (w' := w14) (fun q hq hql => t.block q hql (fun hx => by (first | (have := HSHOgr1_1.out q hx; have := HSHOwr0_1.out q hq; omega)))))
  replace HOwr1_1 := Lib.hid (HOwr1_1.out.blocks (w' := w14) (fun q hq hql => t.block q hql (fun hx => by (first | (have := HSHOgr1_1.out q hx; have := HSHOwr1_1.out q hq; omega)))))
  replace HOgr0_1 := Lib.hid (HOgr0_1.out.blocks (w' := w14) (fun q hq hql => t.block q hql (fun hx => by (first | exact HDgr0_1_gr1_1.out q hq hx))))
  replace HBN := Lib.hid (HBN.out.trans (t.below HBN.out.size (fun k hk => by (first | (have := HSHOgr1_1.out k hk; have := HBN.out.size; omega)))))
  have hzw14 : w13.heap.size ≤ w14.heap.size := t.size
  replace HOgr1_1 := Lib.hid om0
  clear t om0
  obtain ⟨mr1_, HMr1_, hmr1_a, hmr1_b, rfl⟩ : ∃ z : Int, Hid (mr0_ + ((cntG r1_1 : Nat) : Int) = z) ∧ 0 ≤ z ∧ z ≤ mr0_ + 1099511627776 * 1 ∧ e = .returned (.int .i64 z) := ⟨_, Lib.hid rfl, by omega, by omega, h2⟩
  clear h2
  have hmm : (mr1_ != mr1_) = false := by simp
  go_wp2_with fail
  refine (heldMatrix_ok _ w14.heap.size r0_0 r0_1 _ 1 ?_ ?_ (by omega) (by omega)).mono ?_
  · exact (HOgr0_1.out.rd).below (B' := w14.heap.size) (by repeat' (first | exact Below.refl _ _ | apply Below.drew | apply Below.setCell | apply Below.alloc | (simp; done) | omega | (simp; omega))) (Nat.le_refl _)
  · (first | exact Nat.le_refl _ | (simp; done) | (simp; omega))
  rintro e w15 ⟨h2, b⟩
  have hstep : Below w14.heap.size w14 w15 := Below.trans (by repeat' (first | exact Below.refl _ _ | apply Below.drew | apply Below.setCell | apply Below.alloc | (simp; done) | omega | (simp; omega))) (b.mono (by (first | exact Nat.le_refl _ | (simp; done) | (simp; omega))))
  replace hpp1_0 := (hstep.cell (p := ⟨w.heap.size, 0, none⟩) hlhpp1_).trans hpp1_0
  replace hpp1_1 := (hstep.cell (p := ⟨w.heap.size, 1, none⟩) hlhpp1_).trans hpp1_1
  replace hlhpp1_ : w.heap.size < w15.heap.size := Nat.lt_of_lt_of_le hlhpp1_ hstep.size
  replace hwr0_0 := (hstep.cell (p := ⟨w4.heap.size, 0, none⟩) hlhwr0_).trans hwr0_0
  replace hwr0_1 := (hstep.cell (p := ⟨w4.heap.size, 1, none⟩) hlhwr0_).trans hwr0_1
  replace hlhwr0_ : w4.heap.size < w15.heap.size := Nat.lt_of_lt_of_le hlhwr0_ hstep.size
  replace hwr1_0 := (hstep.cell (p := ⟨w4.heap.size + 1, 0, none⟩) hlhwr1_).trans hwr1_0
  replace hwr1_1 := (hstep.cell (p := ⟨w4.heap.size + 1, 1, none⟩) hlhwr1_).trans hwr1_1
  replace hlhwr1_ : w4.heap.size + 1 < w15.heap.size := Nat.lt_of_lt_of_le hlhwr1_ hstep.size
  replace hxp1_0 := (hstep.cell (p := ⟨w5.heap.size, 0, none⟩) hlhxp1_).trans hxp1_0
  replace hxp1_1 := (hstep.cell (p := ⟨w5.heap.size, 1, none⟩) hlhxp1_).trans hxp1_1
  replace hlhxp1_ : w5.heap.size < w15.heap.size := Nat.lt_of_lt_of_le hlhxp1_ hstep.size
  replace hgr0_0 := (hstep.cell (p := ⟨w6.heap.size, 0, none⟩) hlhgr0_).trans hgr0_0
  replace hgr0_1 := (hstep.cell (p := ⟨w6.heap.size, 1, none⟩) hlhgr0_).trans hgr0_1
  replace hlhgr0_ : w6.heap.size < w15.heap.size := Nat.lt_of_lt_of_le hlhgr0_ hstep.size
  replace hgr1_0 := (hstep.cell (p := ⟨w6.heap.size + 1, 0, none⟩) hlhgr1_).trans hgr1_0
  replace hgr1_1 := (hstep.cell (p := ⟨w6.heap.size + 1, 1, none⟩) hlhgr1_).trans hgr1_1
  replace hlhgr1_ : w6.heap.size + 1 < w15.heap.size := Nat.lt_of_lt_of_le hlhgr1_ hstep.size
  replace HOwr0_1 := Lib.hid (HOwr0_1.out.below hstep (fun _ _ hq => hq))
  replace HOwr1_1 := Lib.hid (HOwr1_1.out.below hstep (fun _ _ hq => hq))
  replace HOgr0_1 := Lib.hid (HOgr0_1.out.below hstep (fun _ _ hq => hq))
  replace HOgr1_1 := Lib.hid (HOgr1_1.out.below hstep (fun _ _ hq => hq))
  replace HBN := Lib.hid (HBN.out.trans (hstep.mono HBN.out.size))
  have hzw15 : w14.heap.size ≤ w15.heap.size := hstep.size
  clear b hstep 
  rw [HMr0_.out] at h2
  subst h2
  have hmneg : ¬ mr0_ < 0 := by omega
  go_wp2_with fail
  refine (heldMatrix_ok _ w15.heap.size r1_0 r1_1 _ mr0_ ?_ ?_ (by omega) (by omega)).mono ?_
  · exact (HOgr1_1.out.rd).below (B' := w15.heap.size) (by repeat' (first | exact Below.refl _ _ | apply Below.drew | apply Below.setCell | apply Below.alloc | (simp; done) | omega | (simp; omega))) (Nat.le_refl _)
  · (first | exact Nat.le_refl _ | (simp; done) | (simp; omega))
  rintro e w16 ⟨h2, b⟩
  have hstep : Below w15.heap.size w15 w16 := Below.trans (by repeat' (first | exact Below.refl _ _ | apply Below.drew | apply Below.setCell | apply Below.alloc | (simp; done) | omega | (simp; omega))) (b.mono (by (first | exact Nat.le_refl _ | (simp; done) | (simp; omega))))
  replace hpp1_0 := (hstep.cell (p := ⟨w.heap.size, 0, none⟩) hlhpp1_).trans hpp1_0
  replace hpp1_1 := (hstep.cell (p := ⟨w.heap.size, 1, none⟩) hlhpp1_).trans hpp1_1
  replace hlhpp1_ : w.heap.size < w16.heap.size := Nat.lt_of_lt_of_le hlhpp1_ hstep.size
  replace hwr0_0 := (hstep.cell (p := ⟨w4.heap.size, 0, none⟩) hlhwr0_).trans hwr0_0
  replace hwr0_1 := (hstep.cell (p := ⟨w4.heap.size, 1, none⟩) hlhwr0_).trans hwr0_1
  replace hlhwr0_ : w4.heap.size < w16.heap.size := Nat.lt_of_lt_of_le hlhwr0_ hstep.size
  replace hwr1_0 := (hstep.cell (p := ⟨w4.heap.size + 1, 0, none⟩) hlhwr1_).trans hwr1_0
  replace hwr1_1 := (hstep.cell (p := ⟨w4.heap.size + 1, 1, none⟩) hlhwr1_).trans hwr1_1
  replace hlhwr1_ : w4.heap.size + 1 < w16.heap.size := Nat.lt_of_lt_of_le hlhwr1_ hstep.size
  replace hxp1_0 := (hstep.cell (p := ⟨w5.heap.size, 0, none⟩) hlhxp1_).trans hxp1_0
  replace hxp1_1 := (hstep.cell (p := ⟨w5.heap.size, 1, none⟩) hlhxp1_).trans hxp1_1
  replace hlhxp1_ : w5.heap.size < w16.heap.size := Nat.lt_of_lt_of_le hlhxp1_ hstep.size
  replace hgr0_0 := (hstep.cell (p := ⟨w6.heap.size, 0, none⟩) hlhgr0_).trans hgr0_0
  replace hgr0_1 := (hstep.cell (p := ⟨w6.heap.size, 1, none⟩) hlhgr0_).trans hgr0_1
  replace hlhgr0_ : w6.heap.size < w16.heap.size := Nat.lt_of_lt_of_le hlhgr0_ hstep.size
  replace hgr1_0 := (hstep.cell (p := ⟨w6.heap.size + 1, 0, none⟩) hlhgr1_).trans hgr1_0
  replace hgr1_1 := (hstep.cell (p := ⟨w6.heap.size + 1, 1, none⟩) hlhgr1_).trans hgr1_1
  replace hlhgr1_ : w6.heap.size + 1 < w16.heap.size := Nat.lt_of_lt_of_le hlhgr1_ hstep.size
  replace HOwr0_1 := Lib.hid (HOwr0_1.out.below hstep (fun _ _ hq => hq))
  replace HOwr1_1 := Lib.hid (HOwr1_1.out.below hstep (fun _ _ hq => hq))
  replace HOgr0_1 := Lib.hid (HOgr0_1.out.below hstep (fun _ _ hq => hq))
  replace HOgr1_1 := Lib.hid (HOgr1_1.out.below hstep (fun _ _ hq => hq))
  replace HBN := Lib.hid (HBN.out.trans (hstep.mono HBN.out.size))
  have hzw16 : w15.heap.size ≤ w16.heap.size := hstep.size
  clear b hstep 
  rw [HMr1_.out] at h2
  subst h2
  have hmneg : ¬ mr1_ < 0 := by omega
  go_wp2_with fail
  refine (toMatrix_ok _ w.heap.size p1_0 p1_1 _ ?_ ?_ hsp1_1).mono ?_
  · exact (HVp1_1.out.below HBN.out (Nat.le_refl _)).below (B' := w16.heap.size) (by repeat' (first | exact Below.refl _ _ | apply Below.drew | apply Below.setCell | apply Below.alloc | (simp; done) | omega | (simp; omega))) HBN.out.size
  · (have := HBN.out.size; first | exact this | (simp; done) | (simp; omega))
  rintro e w17 ⟨vyp1_1, rfl, b, oyp1_1⟩
  obtain ⟨Ayp1_1, cyp1_1, rfl⟩ := oyp1_1.len
  have hstep : Below w16.heap.size w16 w17 := Below.trans (by repeat' (first | exact Below.refl _ _ | apply Below.drew | apply Below.setCell | apply Below.alloc | (simp; done) | omega | (simp; omega))) (b.mono (by (first | exact Nat.le_refl _ | (simp; done) | (simp; omega))))
  replace hpp1_0 := (hstep.cell (p := ⟨w.heap.size, 0, none⟩) hlhpp1_).trans hpp1_0
  replace hpp1_1 := (hstep.cell (p := ⟨w.heap.size, 1, none⟩) hlhpp1_).trans hpp1_1
  replace hlhpp1_ : w.heap.size < w17.heap.size := Nat.lt_of_lt_of_le hlhpp1_ hstep.size
  replace hwr0_0 := (hstep.cell (p := ⟨w4.heap.size, 0, none⟩) hlhwr0_).trans hwr0_0
  replace hwr0_1 := (hstep.cell (p := ⟨w4.heap.size, 1, none⟩) hlhwr0_).trans hwr0_1
  replace hlhwr0_ : w4.heap.size < w17.heap.size := Nat.lt_of_lt_of_le hlhwr0_ hstep.size
  replace hwr1_0 := (hstep.cell (p := ⟨w4.heap.size + 1, 0, none⟩) hlhwr1_).trans hwr1_0
  replace hwr1_1 := (hstep.cell (p := ⟨w4.heap.size + 1, 1, none⟩) hlhwr1_).trans hwr1_1
  replace hlhwr1_ : w4.heap.size + 1 < w17.heap.size := Nat.lt_of_lt_of_le hlhwr1_ hstep.size
  replace hxp1_0 := (hstep.cell (p := ⟨w5.heap.size, 0, none⟩) hlhxp1_).trans hxp1_0
  replace hxp1_1 := (hstep.cell (p := ⟨w5.heap.size, 1, none⟩) hlhxp1_).trans hxp1_1
  replace hlhxp1_ : w5.heap.size < w17.heap.size := Nat.lt_of_lt_of_le hlhxp1_ hstep.size
  replace hgr0_0 := (hstep.cell (p := ⟨w6.heap.size, 0, none⟩) hlhgr0_).trans hgr0_0
  replace hgr0_1 := (hstep.cell (p := ⟨w6.heap.size, 1, none⟩) hlhgr0_).trans hgr0_1
  replace hlhgr0_ : w6.heap.size < w17.heap.size := Nat.lt_of_lt_of_le hlhgr0_ hstep.size
  replace hgr1_0 := (hstep.cell (p := ⟨w6.heap.size + 1, 0, none⟩) hlhgr1_).trans hgr1_0
  replace hgr1_1 := (hstep.cell (p := ⟨w6.heap.size + 1, 1, none⟩) hlhgr1_).trans hgr1_1
  replace hlhgr1_ : w6.heap.size + 1 < w17.heap.size := Nat.lt_of_lt_of_le hlhgr1_ hstep.size
  replace HOwr0_1 := Lib.hid (HOwr0_1.out.below hstep (fun _ _ hq => hq))
  replace HOwr1_1 := Lib.hid (HOwr1_1.out.below hstep (fun _ _ hq => hq))
  replace HOgr0_1 := Lib.hid (HOgr0_1.out.below hstep (fun _ _ hq => hq))
  replace HOgr1_1 := Lib.hid (HOgr1_1.out.below hstep (fun _ _ hq => hq))
  replace HBN := Lib.hid (HBN.out.trans (hstep.mono HBN.out.size))
  have hzw17 : w16.heap.size ≤ w17.heap.size := hstep.size
  obtain ⟨SHOyp1_1, HSHOyp1_1, HOyp1_1⟩ : ∃ S : Nat → Prop, Hid (∀ k, S k → w16.heap.size + 0 ≤ k ∧ k < w17.heap.size) ∧ Hid (OwnG w17 S (.slice Ayp1_1 p1_1.length cyp1_1) p1_1) := ⟨fun k => w16.heap.size + 0 ≤ k ∧ k < w17.heap.size, Lib.hid (fun k hk => hk), Lib.hid (oyp1_1.mono (fun k hk hk2 => ⟨by have hk3 := hk; (try simp at hk3); omega, hk2⟩))⟩
  clear b hstep oyp1_1
  go_wp2_with fail
  refine (HIM.out _ w17.heap.size _ ?_ ?_ ?_ hsp1_1).mono ?_
  · exact (HT.out.below HBN.out).below (by repeat' (first | exact Below.refl _ _ | apply Below.drew | apply Below.setCell | apply Below.alloc | (simp; done) | omega | (simp; omega)))
  · exact (HOyp1_1.out.rd).below (B' := w17.heap.size) (by repeat' (first | exact Below.refl _ _ | apply Below.drew | apply Below.setCell | apply Below.alloc | (simp; done) | omega | (simp; omega))) (Nat.le_refl _)
  · (first | exact Nat.le_refl _ | (simp; done) | (simp; omega))
  rintro e w18 ⟨vhr0_1, vhr1_1, Thr0_1, Thr1_1, rfl, b, lohr0_1, lohr1_1, dishr0_1_hr1_1, ohr0_1, ohr1_1⟩
  obtain ⟨Ahr0_1, chr0_1, rfl⟩ := ohr0_1.len
  obtain ⟨Ahr1_1, chr1_1, rfl⟩ := ohr1_1.len
  have hstep : Below w17.heap.size w17 w18 := Below.trans (by repeat' (first | exact Below.refl _ _ | apply Below.drew | apply Below.setCell | apply Below.alloc | (simp; done) | omega | (simp; omega))) (b.mono (by (first | exact Nat.le_refl _ | (simp; done) | (simp; omega))))
  replace hpp1_0 := (hstep.cell (p := ⟨w.heap.size, 0, none⟩) hlhpp1_).trans hpp1_0
  replace hpp1_1 := (hstep.cell (p := ⟨w.heap.size, 1, none⟩) hlhpp1_).trans hpp1_1
  replace hlhpp1_ : w.heap.size < w18.heap.size := Nat.lt_of_lt_of_le hlhpp1_ hstep.size
  replace hwr0_0 := (hstep.cell (p := ⟨w4.heap.size, 0, none⟩) hlhwr0_).trans hwr0_0
  replace hwr0_1 := (hstep.cell (p := ⟨w4.heap.size, 1, none⟩) hlhwr0_).trans hwr0_1
  replace hlhwr0_ : w4.heap.size < w18.heap.size := Nat.lt_of_lt_of_le hlhwr0_ hstep.size
  replace hwr1_0 := (hstep.cell (p := ⟨w4.heap.size + 1, 0, none⟩) hlhwr1_).trans hwr1_0
  replace hwr1_1 := (hstep.cell (p := ⟨w4.heap.size + 1, 1, none⟩) hlhwr1_).trans hwr1_1
  replace hlhwr1_ : w4.heap.size + 1 < w18.heap.size := Nat.lt_of_lt_of_le hlhwr1_ hstep.size
  replace hxp1_0 := (hstep.cell (p := ⟨w5.heap.size, 0, none⟩) hlhxp1_).trans hxp1_0
  replace hxp1_1 := (hstep.cell (p := ⟨w5.heap.size, 1, none⟩) hlhxp1_).trans hxp1_1
  replace hlhxp1_ : w5.heap.size < w18.heap.size := Nat.lt_of_lt_of_le hlhxp1_ hstep.size
  replace hgr0_0 := (hstep.cell (p := ⟨w6.heap.size, 0, none⟩) hlhgr0_).trans hgr0_0
  replace hgr0_1 := (hstep.cell (p := ⟨w6.heap.size, 1, none⟩) hlhgr0_).trans hgr0_1
  replace hlhgr0_ : w6.heap.size < w18.heap.size := Nat.lt_of_lt_of_le hlhgr0_ hstep.size
  replace hgr1_0 := (hstep.cell (p := ⟨w6.heap.size + 1, 0, none⟩) hlhgr1_).trans hgr1_0
  replace hgr1_1 := (hstep.cell (p := ⟨w6.heap.size + 1, 1, none⟩) hlhgr1_).trans hgr1_1
  replace hlhgr1_ : w6.heap.size + 1 < w18.heap.size := Nat.lt_of_lt_of_le hlhgr1_ hstep.size
  replace HOwr0_1 := Lib.hid (HOwr0_1.out.below hstep (fun _ _ hq => hq))
  replace HOwr1_1 := Lib.hid (HOwr1_1.out.below hstep (fun _ _ hq => hq))
  replace HOgr0_1 := Lib.hid (HOgr0_1.out.below hstep (fun _ _ hq => hq))
  replace HOgr1_1 := Lib.hid (HOgr1_1.out.below hstep (fun _ _ hq => hq))
  replace HOyp1_1 := Lib.hid (HOyp1_1.out.below hstep (fun _ _ hq => hq))
  replace HBN := Lib.hid (HBN.out.trans (hstep.mono HBN.out.size))
  have hzw18 : w17.heap.size ≤ w18.heap.size := hstep.size
  obtain ⟨SHOhr0_1, HSHOhr0_1, HTHOhr0_1, HOhr0_1⟩ : ∃ S : Nat → Prop, Hid (∀ k, S k → w17.heap.size + 0 ≤ k ∧ k < w18.heap.size) ∧ Hid (∀ k, S k → Thr0_1 k) ∧ Hid (OwnG w18 S (.slice Ahr0_1 r0_1.length chr0_1) r0_1) := ⟨fun k => Thr0_1 k ∧ k < w18.heap.size, Lib.hid (fun k hk => ⟨by have hk3 := lohr0_1 k hk.1; (try simp at hk3); omega, hk.2⟩), Lib.hid (fun k hk => hk.1), Lib.hid (ohr0_1.mono (fun k hk hk2 => ⟨hk, hk2⟩))⟩
  obtain ⟨SHOhr1_1, HSHOhr1_1, HTHOhr1_1, HOhr1_1⟩ : ∃ S : Nat → Prop, Hid (∀ k, S k → w17.heap.size + 0 ≤ k ∧ k < w18.heap.size) ∧ Hid (∀ k, S k → Thr1_1 k) ∧ Hid (OwnG w18 S (.slice Ahr1_1 r1_1.length chr1_1) r1_1) := ⟨fun k => Thr1_1 k ∧ k < w18.heap.size, Lib.hid (fun k hk => ⟨by have hk3 := lohr1_1 k hk.1; (try simp at hk3); omega, hk.2⟩), Lib.hid (fun k hk => hk.1), Lib.hid (ohr1_1.mono (fun k hk hk2 => ⟨hk, hk2⟩))⟩
  have HDhr0_1_hr1_1 := Lib.hid (show ∀ k, SHOhr0_1 k → SHOhr1_1 k → False from fun k h1 h2 => dishr0_1_hr1_1 k (HTHOhr0_1.out k h1) (HTHOhr1_1.out k h2))
  clear HTHOhr0_1 HTHOhr1_1
  clear b hstep ohr0_1 ohr1_1 lohr0_1 lohr1_1 dishr0_1_hr1_1
  clear HOyp1_1 HSHOyp1_1
  go_wp2_with fail
  refine (eqMatrix_ok _ w18.heap.size r0_0 r0_1 _ _ ?_ ?_ ?_).mono ?_
  · exact (HOhr0_1.out.rd).below (B' := w18.heap.size) (by repeat' (first | exact Below.refl _ _ | apply Below.drew | apply Below.setCell | apply Below.alloc | (simp; done) | omega | (simp; omega))) (Nat.le_refl _)
  · exact (HOwr0_1.out.rd).below (B' := w18.heap.size) (by repeat' (first | exact Below.refl _ _ | apply Below.drew | apply Below.setCell | apply Below.alloc | (simp; done) | omega | (simp; omega))) (Nat.le_refl _)
  · (first | exact Nat.le_refl _ | (simp; done) | (simp; omega))
  rintro e w19 ⟨rfl, b⟩
  have hstep : Below w18.heap.size w18 w19 := Below.trans (by repeat' (first | exact Below.refl _ _ | apply Below.drew | apply Below.setCell | apply Below.alloc | (simp; done) | omega | (simp; omega))) (b.mono (by (first | exact Nat.le_refl _ | (simp; done) | (simp; omega))))
  replace hpp1_0 := (hstep.cell (p := ⟨w.heap.size, 0, none⟩) hlhpp1_).trans hpp1_0
  replace hpp1_1 := (hstep.cell (p := ⟨w.heap.size, 1, none⟩) hlhpp1_).trans hpp1_1
  replace hlhpp1_ : w.heap.size < w19.heap.size := Nat.lt_of_lt_of_le hlhpp1_ hstep.size
  replace hwr0_0 := (hstep.cell (p := ⟨w4.heap.size, 0, none⟩) hlhwr0_).trans hwr0_0
  replace hwr0_1 := (hstep.cell (p := ⟨w4.heap.size, 1, none⟩) hlhwr0_).trans hwr0_1
  replace hlhwr0_ : w4.heap.size < w19.heap.size := Nat.lt_of_lt_of_le hlhwr0_ hstep.size
  replace hwr1_0 := (hstep.cell (p := ⟨w4.heap.size + 1, 0, none⟩) hlhwr1_).trans hwr1_0
  replace hwr1_1 := (hstep.cell (p := ⟨w4.heap.size + 1, 1, none⟩) hlhwr1_).trans hwr1_1
  replace hlhwr1_ : w4.heap.size + 1 < w19.heap.size := Nat.lt_of_lt_of_le hlhwr1_ hstep.size
  replace hxp1_0 := (hstep.cell (p := ⟨w5.heap.size, 0, none⟩) hlhxp1_).trans hxp1_0
  replace hxp1_1 := (hstep.cell (p := ⟨w5.heap.size, 1, none⟩) hlhxp1_).trans hxp1_1
  replace hlhxp1_ : w5.heap.size < w19.heap.size := Nat.lt_of_lt_of_le hlhxp1_ hstep.size
  replace hgr0_0 := (hstep.cell (p := ⟨w6.heap.size, 0, none⟩) hlhgr0_).trans hgr0_0
  replace hgr0_1 := (hstep.cell (p := ⟨w6.heap.size, 1, none⟩) hlhgr0_).trans hgr0_1
  replace hlhgr0_ : w6.heap.size < w19.heap.size := Nat.lt_of_lt_of_le hlhgr0_ hstep.size
  replace hgr1_0 := (hstep.cell (p := ⟨w6.heap.size + 1, 0, none⟩) hlhgr1_).trans hgr1_0
  replace hgr1_1 := (hstep.cell (p := ⟨w6.heap.size + 1, 1, none⟩) hlhgr1_).trans hgr1_1
  replace hlhgr1_ : w6.heap.size + 1 < w19.heap.size := Nat.lt_of_lt_of_le hlhgr1_ hstep.size
  replace HOwr0_1 := Lib.hid (HOwr0_1.out.below hstep (fun _ _ hq => hq))
  replace HOwr1_1 := Lib.hid (HOwr1_1.out.below hstep (fun _ _ hq => hq))
  replace HOgr0_1 := Lib.hid (HOgr0_1.out.below hstep (fun _ _ hq => hq))
  replace HOgr1_1 := Lib.hid (HOgr1_1.out.below hstep (fun _ _ hq => hq))
  replace HOhr0_1 := Lib.hid (HOhr0_1.out.below hstep (fun _ _ hq => hq))
  replace HOhr1_1 := Lib.hid (HOhr1_1.out.below hstep (fun _ _ hq => hq))
  replace HBN := Lib.hid (HBN.out.trans (hstep.mono HBN.out.size))
  have hzw19 : w18.heap.size ≤ w19.heap.size := hstep.size
  have hhr0_0 : w19.cell? ⟨w18.heap.size, 0, none⟩ = some (.int .i64 r0_0) := by have := b.cell (p := ⟨w18.heap.size, 0, none⟩) (by first | (simp; done) | (simp; omega)); simpa [go_sem] using this
  have hhr0_1 : w19.cell? ⟨w18.heap.size, 1, none⟩ = some (.slice Ahr0_1 r0_1.length chr0_1) := by have := b.cell (p := ⟨w18.heap.size, 1, none⟩) (by first | (simp; done) | (simp; omega)); simpa [go_sem] using this
  have hlhhr0_ : w18.heap.size < w19.heap.size := by have := b.size; simp at this; omega
  have hlhhr0_q := hlhhr0_
  have hhr1_0 : w19.cell? ⟨w18.heap.size + 1, 0, none⟩ = some (.int .i64 r1_0) := by have := b.cell (p := ⟨w18.heap.size + 1, 0, none⟩) (by first | (simp; done) | (simp; omega)); simpa [go_sem] using this
  have hhr1_1 : w19.cell? ⟨w18.heap.size + 1, 1, none⟩ = some (.slice Ahr1_1 r1_1.length chr1_1) := by have := b.cell (p := ⟨w18.heap.size + 1, 1, none⟩) (by first | (simp; done) | (simp; omega)); simpa [go_sem] using this
  have hlhhr1_ : w18.heap.size + 1 < w19.heap.size := by have := b.size; simp at this; omega
  have hlhhr1_q := hlhhr1_
  clear b hstep 
  go_wp2_with fail
  refine (eqMatrix_ok _ w19.heap.size r1_0 r1_1 _ _ ?_ ?_ ?_).mono ?_
  · exact (HOhr1_1.out.rd).below (B' := w19.heap.size) (by repeat' (first | exact Below.refl _ _ | apply Below.drew | apply Below.setCell | apply Below.alloc | (simp; done) | omega | (simp; omega))) (Nat.le_refl _)
  · exact (HOwr1_1.out.rd).below (B' := w19.heap.size) (by repeat' (first | exact Below.refl _ _ | apply Below.drew | apply Below.setCell | apply Below.alloc | (simp; done) | omega | (simp; omega))) (Nat.le_refl _)
  · (first | exact Nat.le_refl _ | (simp; done) | (simp; omega))
  rintro e w20 ⟨rfl, b⟩
  have hstep : Below w19.heap.size w19 w20 := Below.trans (by repeat' (first | exact Below.refl _ _ | apply Below.drew | apply Below.setCell | apply Below.alloc | (simp; done) | omega | (simp; omega))) (b.mono (by (first | exact Nat.le_refl _ | (simp; done) | (simp; omega))))
  replace hpp1_0 := (hstep.cell (p := ⟨w.heap.size, 0, none⟩) hlhpp1_).trans hpp1_0
  replace hpp1_1 := (hstep.cell (p := ⟨w.heap.size, 1, none⟩) hlhpp1_).trans hpp1_1
  replace hlhpp1_ : w.heap.size < w20.heap.size := Nat.lt_of_lt_of_le hlhpp1_ hstep.size
  replace hwr0_0 := (hstep.cell (p := ⟨w4.heap.size, 0, none⟩) hlhwr0_).trans hwr0_0
  replace hwr0_1 := (hstep.cell (p := ⟨w4.heap.size, 1, none⟩) hlhwr0_).trans hwr0_1
  replace hlhwr0_ : w4.heap.size < w20.heap.size := Nat.lt_of_lt_of_le hlhwr0_ hstep.size
  replace hwr1_0 := (hstep.cell (p := ⟨w4.heap.size + 1, 0, none⟩) hlhwr1_).trans hwr1_0
  replace hwr1_1 := (hstep.cell (p := ⟨w4.heap.size + 1, 1, none⟩) hlhwr1_).trans hwr1_1
  replace hlhwr1_ : w4.heap.size + 1 < w20.heap.size := Nat.lt_of_lt_of_le hlhwr1_ hstep.size
  replace hxp1_0 := (hstep.cell (p := ⟨w5.heap.size, 0, none⟩) hlhxp1_).trans hxp1_0
  replace hxp1_1 := (hstep.cell (p := ⟨w5.heap.size, 1, none⟩) hlhxp1_).trans hxp1_1
  replace hlhxp1_ : w5.heap.size < w20.heap.size := Nat.lt_of_lt_of_le hlhxp1_ hstep.size
  replace hgr0_0 := (hstep.cell (p := ⟨w6.heap.size, 0, none⟩) hlhgr0_).trans hgr0_0
  replace hgr0_1 := (hstep.cell (p := ⟨w6.heap.size, 1, none⟩) hlhgr0_).trans hgr0_1
  replace hlhgr0_ : w6.heap.size < w20.heap.size := Nat.lt_of_lt_of_le hlhgr0_ hstep.size
  replace hgr1_0 := (hstep.cell (p := ⟨w6.heap.size + 1, 0, none⟩) hlhgr1_).trans hgr1_0
  replace hgr1_1 := (hstep.cell (p := ⟨w6.heap.size + 1, 1, none⟩) hlhgr1_).trans hgr1_1
  replace hlhgr1_ : w6.heap.size + 1 < w20.heap.size := Nat.lt_of_lt_of_le hlhgr1_ hstep.size
  replace hhr0_0 := (hstep.cell (p := ⟨w18.heap.size, 0, none⟩) hlhhr0_).trans hhr0_0
  replace hhr0_1 := (hstep.cell (p := ⟨w18.heap.size, 1, none⟩) hlhhr0_).trans hhr0_1
  replace hlhhr0_ : w18.heap.size < w20.heap.size := Nat.lt_of_lt_of_le hlhhr0_ hstep.size
  replace hhr1_0 := (hstep.cell (p := ⟨w18.heap.size + 1, 0, none⟩) hlhhr1_).trans hhr1_0
  replace hhr1_1 := (hstep.cell (p := ⟨w18.heap.size + 1, 1, none⟩) hlhhr1_).trans hhr1_1
  replace hlhhr1_ : w18.heap.size + 1 < w20.heap.size := Nat.lt_of_lt_of_le hlhhr1_ hstep.size
  replace HOwr0_1 := Lib.hid (HOwr0_1.out.below hstep (fun _ _ hq => hq))
  replace HOwr1_1 := Lib.hid (HOwr1_1.out.below hstep (fun _ _ hq => hq))
  replace HOgr0_1 := Lib.hid (HOgr0_1.out.below hstep (fun _ _ hq => hq))
  replace HOgr1_1 := Lib.hid (HOgr1_1.out.below hstep (fun _ _ hq => hq))
  replace HOhr0_1 := Lib.hid (HOhr0_1.out.below hstep (fun _ _ hq => hq))
  replace HOhr1_1 := Lib.hid (HOhr1_1.out.below hstep (fun _ _ hq => hq))
  replace HBN := Lib.hid (HBN.out.trans (hstep.mono HBN.out.size))
  have hzw20 : w19.heap.size ≤ w20.heap.size := hstep.size
  clear b hstep 
  go_wp2_with fail
  refine (heldMatrix_ok _ w20.heap.size r0_0 r0_1 _ 1 ?_ ?_ (by omega) (by omega)).mono ?_
  · exact (HOgr0_1.out.rd).below (B' := w20.heap.size) (by repeat' (first | exact Below.refl _ _ | apply Below.drew | apply Below.setCell | apply Below.alloc | (simp; done) | omega | (simp; omega))) (Nat.le_refl _)
  · (first | exact Nat.le_refl _ | (simp; done) | (simp; omega))
  rintro e w21 ⟨h2, b⟩
  have hstep : Below w20.heap.size w20 w21 := Below.trans (by repeat' (first | exact Below.refl _ _ | apply Below.drew | apply Below.setCell | apply Below.alloc | (simp; done) | omega | (simp; omega))) (b.mono (by (first | exact Nat.le_refl _ | (simp; done) | (simp; omega))))
  replace hpp1_0 := (hstep.cell (p := ⟨w.heap.size, 0, none⟩) hlhpp1_).trans hpp1_0
  replace hpp1_1 := (hstep.cell (p := ⟨w.heap.size, 1, none⟩) hlhpp1_).trans hpp1_1
  replace hlhpp1_ : w.heap.size < w21.heap.size := Nat.lt_of_lt_of_le hlhpp1_ hstep.size
  replace hwr0_0 := (hstep.cell (p := ⟨w4.heap.size, 0, none⟩) hlhwr0_).trans hwr0_0
  replace hwr0_1 := (hstep.cell (p := ⟨w4.heap.size, 1, none⟩) hlhwr0_).trans hwr0_1
  replace hlhwr0_ : w4.heap.size < w21.heap.size := Nat.lt_of_lt_of_le hlhwr0_ hstep.size
  replace hwr1_0 := (hstep.cell (p := ⟨w4.heap.size + 1, 0, none⟩) hlhwr1_).trans hwr1_0
  replace hwr1_1 := (hstep.cell (p := ⟨w4.heap.size + 1, 1, none⟩) hlhwr1_).trans hwr1_1
  replace hlhwr1_ : w4.heap.size + 1 < w21.heap.size := Nat.lt_of_lt_of_le hlhwr1_ hstep.size
  replace hxp1_0 := (hstep.cell (p := ⟨w5.heap.size, 0, none⟩) hlhxp1_).trans hxp1_0
  replace hxp1_1 := (hstep.cell (p := ⟨w5.heap.size, 1, none⟩) hlhxp1_).trans hxp1_1
  replace hlhxp1_ : w5.heap.size < w21.heap.size := Nat.lt_of_lt_of_le hlhxp1_ hstep.size
  replace hgr0_0 := (hstep.cell (p := ⟨w6.heap.size, 0, none⟩) hlhgr0_).trans hgr0_0
  replace hgr0_1 := (hstep.cell (p := ⟨w6.heap.size, 1, none⟩) hlhgr0_).trans hgr0_1
  replace hlhgr0_ : w6.heap.size < w21.heap.size := Nat.lt_of_lt_of_le hlhgr0_ hstep.size
  replace hgr1_0 := (hstep.cell (p := ⟨w6.heap.size + 1, 0, none⟩) hlhgr1_).trans hgr1_0
  replace hgr1_1 := (hstep.cell (p := ⟨w6.heap.size + 1, 1, none⟩) hlhgr1_).trans hgr1_1
  replace hlhgr1_ : w6.heap.size + 1 < w21.heap.size := Nat.lt_of_lt_of_le hlhgr1_ hstep.size
  replace hhr0_0 := (hstep.cell (p := ⟨w18.heap.size, 0, none⟩) hlhhr0_).trans hhr0_0
  replace hhr0_1 := (hstep.cell (p := ⟨w18.heap.size, 1, none⟩) hlhhr0_).trans hhr0_1
  replace hlhhr0_ : w18.heap.size < w21.heap.size := Nat.lt_of_lt_of_le hlhhr0_ hstep.size
  replace hhr1_0 := (hstep.cell (p := ⟨w18.heap.size + 1, 0, none⟩) hlhhr1_).trans hhr1_0
  replace hhr1_1 := (hstep.cell (p := ⟨w18.heap.size + 1, 1, none⟩) hlhhr1_).trans hhr1_1
  replace hlhhr1_ : w18.heap.size + 1 < w21.heap.size := Nat.lt_of_lt_of_le hlhhr1_ hstep.size
  replace HOwr0_1 := Lib.hid (HOwr0_1.out.below hstep (fun _ _ hq => hq))
  replace HOwr1_1 := Lib.hid (HOwr1_1.out.below hstep (fun _ _ hq => hq))
  replace HOgr0_1 := Lib.hid (HOgr0_1.out.below hstep (fun _ _ hq => hq))
  replace HOgr1_1 := Lib.hid (HOgr1_1.out.below hstep (fun _ _ hq => hq))
  replace HOhr0_1 := Lib.hid (HOhr0_1.out.below hstep (fun _ _ hq => hq))
  replace HOhr1_1 := Lib.hid (HOhr1_1.out.below hstep (fun _ _ hq => hq))
  replace HBN := Lib.hid (HBN.out.trans (hstep.mono HBN.out.size))
  have hzw21 : w20.heap.size ≤ w21.heap.size := hstep.size
  clear b hstep 
  rw [HMr0_.out] at h2
  subst h2
  have hmneg : ¬ mr0_ < 0 := by omega
  go_wp2_with fail
  refine (heldMatrix_ok _ w21.heap.size r1_0 r1_1 _ mr0_ ?_ ?_ (by omega) (by omega)).mono ?_
  · exact (HOgr1_1.out.rd).below (B' := w21.heap.size) (by repeat' (first | exact Below.refl _ _ | apply Below.drew | apply Below.setCell | apply Below.alloc | (simp; done) | omega | (simp; omega))) (Nat.le_refl _)
  · (first | exact Nat.le_refl _ | (simp; done) | (simp; omega))
  rintro e w22 ⟨h2, b⟩
  have hstep : Below w21.heap.size w21 w22 := Below.trans (by repeat' (first | exact Below.refl _ _ | apply Below.drew | apply Below.setCell | apply Below.alloc | (simp; done) | omega | (simp; omega))) (b.mono (by (first | exact Nat.le_refl _ | (simp; done) | (simp; omega))))
  replace hpp1_0 := (hstep.cell (p := ⟨w.heap.size, 0, none⟩) hlhpp1_).trans hpp1_0
  replace hpp1_1 := (hstep.cell (p := ⟨w.heap.size, 1, none⟩) hlhpp1_).trans hpp1_1
  replace hlhpp1_ : w.heap.size < w22.heap.size := Nat.lt_of_lt_of_le hlhpp1_ hstep.size
  replace hwr0_0 := (hstep.cell (p := ⟨w4.heap.size, 0, none⟩) hlhwr0_).trans hwr0_0
  replace hwr0_1 := (hstep.cell (p := ⟨w4.heap.size, 1, none⟩) hlhwr0_).trans hwr0_1
  replace hlhwr0_ : w4.heap.size < w22.heap.size := Nat.lt_of_lt_of_le hlhwr0_ hstep.size
  replace hwr1_0 := (hstep.cell (p := ⟨w4.heap.size + 1, 0, none⟩) hlhwr1_).trans hwr1_0
  replace hwr1_1 := (hstep.cell (p := ⟨w4.heap.size + 1, 1, none⟩) hlhwr1_).trans hwr1_1
  replace hlhwr1_ : w4.heap.size + 1 < w22.heap.size := Nat.lt_of_lt_of_le hlhwr1_ hstep.size
  replace hxp1_0 := (hstep.cell (p := ⟨w5.heap.size, 0, none⟩) hlhxp1_).trans hxp1_0
  replace hxp1_1 := (hstep.cell (p := ⟨w5.heap.size, 1, none⟩) hlhxp1_).trans hxp1_1
  replace hlhxp1_ : w5.heap.size < w22.heap.size := Nat.lt_of_lt_of_le hlhxp1_ hstep.size
  replace hgr0_0 := (hstep.cell (p := ⟨w6.heap.size, 0, none⟩) hlhgr0_).trans hgr0_0
  replace hgr0_1 := (hstep.cell (p := ⟨w6.heap.size, 1, none⟩) hlhgr0_).trans hgr0_1
  replace hlhgr0_ : w6.heap.size < w22.heap.size := Nat.lt_of_lt_of_le hlhgr0_ hstep.size
  replace hgr1_0 := (hstep.cell (p := ⟨w6.heap.size + 1, 0, none⟩) hlhgr1_).trans hgr1_0
  replace hgr1_1 := (hstep.cell (p := ⟨w6.heap.size + 1, 1, none⟩) hlhgr1_).trans hgr1_1
  replace hlhgr1_ : w6.heap.size + 1 < w22.heap.size := Nat.lt_of_lt_of_le hlhgr1_ hstep.size
  replace hhr0_0 := (hstep.cell (p := ⟨w18.heap.size, 0, none⟩) hlhhr0_).trans hhr0_0
  replace hhr0_1 := (hstep.cell (p := ⟨w18.heap.size, 1, none⟩) hlhhr0_).trans hhr0_1
  replace hlhhr0_ : w18.heap.size < w22.heap.size := Nat.lt_of_lt_of_le hlhhr0_ hstep.size
  replace hhr1_0 := (hstep.cell (p := ⟨w18.heap.size + 1, 0, none⟩) hlhhr1_).trans hhr1_0
  replace hhr1_1 := (hstep.cell (p := ⟨w18.heap.size + 1, 1, none⟩) hlhhr1_).trans hhr1_1
  replace hlhhr1_ : w18.heap.size + 1 < w22.heap.size := Nat.lt_of_lt_of_le hlhhr1_ hstep.size
  replace HOwr0_1 := Lib.hid (HOwr0_1.out.below hstep (fun _ _ hq => hq))
  replace HOwr1_1 := Lib.hid (HOwr1_1.out.below hstep (fun _ _ hq => hq))
  replace HOgr0_1 := Lib.hid (HOgr0_1.out.below hstep (fun _ _ hq => hq))
  replace HOgr1_1 := Lib.hid (HOgr1_1.out.below hstep (fun _ _ hq => hq))
  replace HOhr0_1 := Lib.hid (HOhr0_1.out.below hstep (fun _ _ hq => hq))
  replace HOhr1_1 := Lib.hid (HOhr1_1.out.below hstep (fun _ _ hq => hq))
  replace HBN := Lib.hid (HBN.out.trans (hstep.mono HBN.out.size))
  have hzw22 : w21.heap.size ≤ w22.heap.size := hstep.size
  clear b hstep 
  rw [HMr1_.out] at h2
  subst h2
  have hmneg : ¬ mr1_ < 0 := by omega
  go_wp2
  go_ret
  exact ⟨rfl, HBN.out⟩
end Go.Proofs.YtgncgihneemmcaaDoor
