/- The harness of the law FnExactFunctionOf: it returns true if both functions return what they should. -/
import Derived.Test.YtiiloioobmkicaaDoorTMatrix
import Derived.Test.YtiiloioobmkicaaDoorTRelation
import Derived.Test.YtiiloioobmkicaaDoorRetMatrixB
import Derived.Test.YtiiloioobmkicaaDoorFdWalks
import Derived.Deep.Cut
import Derived.Deep.QuietTactic
namespace Go.Proofs.YtiiloioobmkicaaDoor
set_option maxRecDepth 100000
open Go Go.RowKit Go.Deep

set_option maxHeartbeats 6400000 in
set_option maxRecDepth 100000 in
theorem harness_FunctionOf (p0_0 : Int) (p1_0 : Int) (p1_1 : Int) (p1_2 : List (List Int)) (up1_2 : Value) (w : World) (r0_0 : Int) (r0_1 : List (List Int)) (r1_0 : Bool) (ht : Tab w) (hvp1_2 : LfG w w.heap.size up1_2 p1_2) 
    (hspec : ∀ (w : World) (B : Nat) (vp1_2 : Value) , LfG w B vp1_2 p1_2 → B ≤ w.heap.size → szG p1_2 ≤ 1048576 → Calls Tryd.prog 19 #[.int .i64 p0_0, .agg #[.int .i64 p1_0, .int .i64 p1_1, vp1_2]] w (SRetMatrixB w r0_0 r0_1 r1_0))
    (himpl : ∀ (w : World) (B : Nat) (vp1_2 : Value) , Tab w → LfG w B vp1_2 p1_2 → B ≤ w.heap.size → szG p1_2 ≤ 1048576 → Calls Tryd.prog 20 #[.int .i64 p0_0, .agg #[.int .i64 p1_0, .int .i64 p1_1, vp1_2]] w (IRetMatrixB w r0_0 r0_1 r1_0)) :
    Calls Tryd.prog 6 #[.int .i64 p0_0, .agg #[.int .i64 p1_0, .int .i64 p1_1, up1_2]] w fun e w' => e = .returned (.bool true) ∧ Below w.heap.size w w' := by
  have HBN := Lib.hid (Below.refl w.heap.size w)
  have HT := Lib.hid ht
  have HSP := Lib.hid hspec
  have HIM := Lib.hid himpl
  clear ht hspec himpl
  obtain ⟨Aup1_2, cup1_2, rfl⟩ := hvp1_2.len
  have HVp1_2 := Lib.hid hvp1_2
  clear hvp1_2
  have hbbr0_0 : (r0_0 != r0_0) = false := by simp
  have hbbr1_0 : (r1_0 != r1_0) = false := by simp
  go_enter Tryd.func6, Tryd.ntmps6
  go_wp2_with fail
  refine (szRelation_ok _ w.heap.size p1_0 p1_1 p1_2 _ 1048576 ?_ ?_ (by omega) (by omega)).mono ?_
  · exact (HVp1_2.out.below HBN.out (Nat.le_refl _)).below (B' := w.heap.size) (by repeat' (first | exact Below.refl _ _ | apply Below.drew | apply Below.setCell | apply Below.alloc | (simp; done) | omega | (simp; omega))) HBN.out.size
  · (have := HBN.out.size; first | exact this | (simp; done) | (simp; omega))
  rintro e w2 ⟨b, h2⟩
  have hstep : Below w.heap.size w w2 := Below.trans (by repeat' (first | exact Below.refl _ _ | apply Below.drew | apply Below.setCell | apply Below.alloc | (simp; done) | omega | (simp; omega))) (b.mono (by (first | exact Nat.le_refl _ | (simp; done) | (simp; omega))))
  replace HBN := Lib.hid (HBN.out.trans (hstep.mono HBN.out.size))
  have hzw2 : w.heap.size ≤ w2.heap.size := hstep.size
  have hpp1_0 : w2.cell? ⟨w.heap.size, 0, none⟩ = some (.int .i64 p1_0) := by have := b.cell (p := ⟨w.heap.size, 0, none⟩) (by first | (simp; done) | (simp; omega)); simpa [go_sem] using this
  have hpp1_1 : w2.cell? ⟨w.heap.size, 1, none⟩ = some (.int .i64 p1_1) := by have := b.cell (p := ⟨w.heap.size, 1, none⟩) (by first | (simp; done) | (simp; omega)); simpa [go_sem] using this
  have hpp1_2 : w2.cell? ⟨w.heap.size, 2, none⟩ = some (.slice Aup1_2 p1_2.length cup1_2) := by have := b.cell (p := ⟨w.heap.size, 2, none⟩) (by first | (simp; done) | (simp; omega)); simpa [go_sem] using this
  have hlhpp1_ : w.heap.size < w2.heap.size := by have := b.size; simp at this; omega
  have hlhpp1_q := hlhpp1_
  clear b hstep 
  rcases h2 with rfl | ⟨hle, h2⟩
  · go_wp2
    go_ret
    exact ⟨rfl, HBN.out⟩
  obtain ⟨zp1_, hzp1_a, hzp1_b, rfl⟩ : ∃ z : Int, 0 ≤ z ∧ z ≤ 1048576 ∧ e = .returned (.int .i64 z) := ⟨_, by omega, by omega, h2⟩
  have hsp1_2 : szG p1_2 ≤ 1048576 := by omega
  clear h2 hle
  go_wp2_with fail
  refine (toRelation_ok _ w.heap.size p1_0 p1_1 p1_2 _ ?_ ?_ hsp1_2).mono ?_
  · exact (HVp1_2.out.below HBN.out (Nat.le_refl _)).below (B' := w2.heap.size) (by repeat' (first | exact Below.refl _ _ | apply Below.drew | apply Below.setCell | apply Below.alloc | (simp; done) | omega | (simp; omega))) HBN.out.size
  · (have := HBN.out.size; first | exact this | (simp; done) | (simp; omega))
  rintro e w3 ⟨vap1_2, rfl, b, oap1_2⟩
  obtain ⟨Aap1_2, cap1_2, rfl⟩ := oap1_2.len
  have hstep : Below w2.heap.size w2 w3 := Below.trans (by repeat' (first | exact Below.refl _ _ | apply Below.drew | apply Below.setCell | apply Below.alloc | (simp; done) | omega | (simp; omega))) (b.mono (by (first | exact Nat.le_refl _ | (simp; done) | (simp; omega))))
  replace hpp1_0 := (hstep.cell (p := ⟨w.heap.size, 0, none⟩) hlhpp1_).trans hpp1_0
  replace hpp1_1 := (hstep.cell (p := ⟨w.heap.size, 1, none⟩) hlhpp1_).trans hpp1_1
  replace hpp1_2 := (hstep.cell (p := ⟨w.heap.size, 2, none⟩) hlhpp1_).trans hpp1_2
  replace hlhpp1_ : w.heap.size < w3.heap.size := Nat.lt_of_lt_of_le hlhpp1_ hstep.size
  replace HBN := Lib.hid (HBN.out.trans (hstep.mono HBN.out.size))
  have hzw3 : w2.heap.size ≤ w3.heap.size := hstep.size
  obtain ⟨SHOap1_2, HSHOap1_2, HOap1_2⟩ : ∃ S : Nat → Prop, Hid (∀ k, S k → w2.heap.size + 0 ≤ k ∧ k < w3.heap.size) ∧ Hid (OwnG w3 S (.slice Aap1_2 p1_2.length cap1_2) p1_2) := ⟨fun k => w2.heap.size + 0 ≤ k ∧ k < w3.heap.size, Lib.hid (fun k hk => hk), Lib.hid (oap1_2.mono (fun k hk hk2 => ⟨by have hk3 := hk; (try simp at hk3); omega, hk2⟩))⟩
  clear b hstep oap1_2
  go_wp2_with fail
  refine (HSP.out _ w3.heap.size _ ?_ ?_ hsp1_2).mono ?_
  · exact (HOap1_2.out.rd).below (B' := w3.heap.size) (by repeat' (first | exact Below.refl _ _ | apply Below.drew | apply Below.setCell | apply Below.alloc | (simp; done) | omega | (simp; omega))) (Nat.le_refl _)
  · (first | exact Nat.le_refl _ | (simp; done) | (simp; omega))
  rintro e w4 ⟨vwr0_1, rfl, b, owr0_1⟩
  obtain ⟨Awr0_1, cwr0_1, rfl⟩ := owr0_1.len
  have hstep : Below w3.heap.size w3 w4 := Below.trans (by repeat' (first | exact Below.refl _ _ | apply Below.drew | apply Below.setCell | apply Below.alloc | (simp; done) | omega | (simp; omega))) (b.mono (by (first | exact Nat.le_refl _ | (simp; done) | (simp; omega))))
  replace hpp1_0 := (hstep.cell (p := ⟨w.heap.size, 0, none⟩) hlhpp1_).trans hpp1_0
  replace hpp1_1 := (hstep.cell (p := ⟨w.heap.size, 1, none⟩) hlhpp1_).trans hpp1_1
  replace hpp1_2 := (hstep.cell (p := ⟨w.heap.size, 2, none⟩) hlhpp1_).trans hpp1_2
  replace hlhpp1_ : w.heap.size < w4.heap.size := Nat.lt_of_lt_of_le hlhpp1_ hstep.size
  replace HOap1_2 := Lib.hid (HOap1_2.out.below hstep (fun _ _ hq => hq))
  replace HBN := Lib.hid (HBN.out.trans (hstep.mono HBN.out.size))
  have hzw4 : w3.heap.size ≤ w4.heap.size := hstep.size
  obtain ⟨SHOwr0_1, HSHOwr0_1, HOwr0_1⟩ : ∃ S : Nat → Prop, Hid (∀ k, S k → w3.heap.size + 0 ≤ k ∧ k < w4.heap.size) ∧ Hid (OwnG w4 S (.slice Awr0_1 r0_1.length cwr0_1) r0_1) := ⟨fun k => w3.heap.size + 0 ≤ k ∧ k < w4.heap.size, Lib.hid (fun k hk => hk), Lib.hid (owr0_1.mono (fun k hk hk2 => ⟨by have hk3 := hk; (try simp at hk3); omega, hk2⟩))⟩
  clear b hstep owr0_1
  clear HOap1_2 HSHOap1_2
  go_wp2_with fail
  refine (toRelation_ok _ w.heap.size p1_0 p1_1 p1_2 _ ?_ ?_ hsp1_2).mono ?_
  · exact (HVp1_2.out.below HBN.out (Nat.le_refl _)).below (B' := w4.heap.size) (by repeat' (first | exact Below.refl _ _ | apply Below.drew | apply Below.setCell | apply Below.alloc | (simp; done) | omega | (simp; omega))) HBN.out.size
  · (have := HBN.out.size; first | exact this | (simp; done) | (simp; omega))
  rintro e w5 ⟨vxp1_2, rfl, b, oxp1_2⟩
  obtain ⟨Axp1_2, cxp1_2, rfl⟩ := oxp1_2.len
  have hstep : Below w4.heap.size w4 w5 := Below.trans (by repeat' (first | exact Below.refl _ _ | apply Below.drew | apply Below.setCell | apply Below.alloc | (simp; done) | omega | (simp; omega))) (b.mono (by (first | exact Nat.le_refl _ | (simp; done) | (simp; omega))))
  replace hpp1_0 := (hstep.cell (p := ⟨w.heap.size, 0, none⟩) hlhpp1_).trans hpp1_0
  replace hpp1_1 := (hstep.cell (p := ⟨w.heap.size, 1, none⟩) hlhpp1_).trans hpp1_1
  replace hpp1_2 := (hstep.cell (p := ⟨w.heap.size, 2, none⟩) hlhpp1_).trans hpp1_2
  replace hlhpp1_ : w.heap.size < w5.heap.size := Nat.lt_of_lt_of_le hlhpp1_ hstep.size
  replace HOwr0_1 := Lib.hid (HOwr0_1.out.below hstep (fun _ _ hq => hq))
  replace HBN := Lib.hid (HBN.out.trans (hstep.mono HBN.out.size))
  have hzw5 : w4.heap.size ≤ w5.heap.size := hstep.size
  have hwr0_0 : w5.cell? ⟨w4.heap.size, 0, none⟩ = some (.int .i64 r0_0) := by have := b.cell (p := ⟨w4.heap.size, 0, none⟩) (by first | (simp; done) | (simp; omega)); simpa [go_sem] using this
  have hwr0_1 : w5.cell? ⟨w4.heap.size, 1, none⟩ = some (.slice Awr0_1 r0_1.length cwr0_1) := by have := b.cell (p := ⟨w4.heap.size, 1, none⟩) (by first | (simp; done) | (simp; omega)); simpa [go_sem] using this
  have hlhwr0_ : w4.heap.size < w5.heap.size := by have := b.size; simp at this; omega
  have hlhwr0_q := hlhwr0_
  obtain ⟨SHOxp1_2, HSHOxp1_2, HOxp1_2⟩ : ∃ S : Nat → Prop, Hid (∀ k, S k → w4.heap.size + 1 ≤ k ∧ k < w5.heap.size) ∧ Hid (OwnG w5 S (.slice Axp1_2 p1_2.length cxp1_2) p1_2) := ⟨fun k => w4.heap.size + 1 ≤ k ∧ k < w5.heap.size, Lib.hid (fun k hk => hk), Lib.hid (oxp1_2.mono (fun k hk hk2 => ⟨by have hk3 := hk; (try simp at hk3); omega, hk2⟩))⟩
  clear b hstep oxp1_2
  go_wp2_with fail
  refine (HIM.out _ w5.heap.size _ ?_ ?_ ?_ hsp1_2).mono ?_
  · exact (HT.out.below HBN.out).below (by repeat' (first | exact Below.refl _ _ | apply Below.drew | apply Below.setCell | apply Below.alloc | (simp; done) | omega | (simp; omega)))
  · exact (HOxp1_2.out.rd).below (B' := w5.heap.size) (by repeat' (first | exact Below.refl _ _ | apply Below.drew | apply Below.setCell | apply Below.alloc | (simp; done) | omega | (simp; omega))) (Nat.le_refl _)
  · (first | exact Nat.le_refl _ | (simp; done) | (simp; omega))
  rintro e w6 ⟨vgr0_1, rfl, b, ogr0_1⟩
  obtain ⟨Agr0_1, cgr0_1, rfl⟩ := ogr0_1.len
  have hstep : Below w5.heap.size w5 w6 := Below.trans (by repeat' (first | exact Below.refl _ _ | apply Below.drew | apply Below.setCell | apply Below.alloc | (simp; done) | omega | (simp; omega))) (b.mono (by (first | exact Nat.le_refl _ | (simp; done) | (simp; omega))))
  replace hpp1_0 := (hstep.cell (p := ⟨w.heap.size, 0, none⟩) hlhpp1_).trans hpp1_0
  replace hpp1_1 := (hstep.cell (p := ⟨w.heap.size, 1, none⟩) hlhpp1_).trans hpp1_1
  replace hpp1_2 := (hstep.cell (p := ⟨w.heap.size, 2, none⟩) hlhpp1_).trans hpp1_2
  replace hlhpp1_ : w.heap.size < w6.heap.size := Nat.lt_of_lt_of_le hlhpp1_ hstep.size
  replace hwr0_0 := (hstep.cell (p := ⟨w4.heap.size, 0, none⟩) hlhwr0_).trans hwr0_0
  replace hwr0_1 := (hstep.cell (p := ⟨w4.heap.size, 1, none⟩) hlhwr0_).trans hwr0_1
  replace hlhwr0_ : w4.heap.size < w6.heap.size := Nat.lt_of_lt_of_le hlhwr0_ hstep.size
  replace HOwr0_1 := Lib.hid (HOwr0_1.out.below hstep (fun _ _ hq => hq))
  replace HOxp1_2 := Lib.hid (HOxp1_2.out.below hstep (fun _ _ hq => hq))
  replace HBN := Lib.hid (HBN.out.trans (hstep.mono HBN.out.size))
  have hzw6 : w5.heap.size ≤ w6.heap.size := hstep.size
  have hxp1_0 : w6.cell? ⟨w5.heap.size, 0, none⟩ = some (.int .i64 p1_0) := by have := b.cell (p := ⟨w5.heap.size, 0, none⟩) (by first | (simp; done) | (simp; omega)); simpa [go_sem] using this
  have hxp1_1 : w6.cell? ⟨w5.heap.size, 1, none⟩ = some (.int .i64 p1_1) := by have := b.cell (p := ⟨w5.heap.size, 1, none⟩) (by first | (simp; done) | (simp; omega)); simpa [go_sem] using this
  have hxp1_2 : w6.cell? ⟨w5.heap.size, 2, none⟩ = some (.slice Axp1_2 p1_2.length cxp1_2) := by have := b.cell (p := ⟨w5.heap.size, 2, none⟩) (by first | (simp; done) | (simp; omega)); simpa [go_sem] using this
  have hlhxp1_ : w5.heap.size < w6.heap.size := by have := b.size; simp at this; omega
  have hlhxp1_q := hlhxp1_
  obtain ⟨SHOgr0_1, HSHOgr0_1, HOgr0_1⟩ : ∃ S : Nat → Prop, Hid (∀ k, S k → w5.heap.size + 1 ≤ k ∧ k < w6.heap.size) ∧ Hid (OwnG w6 S (.slice Agr0_1 r0_1.length cgr0_1) r0_1) := ⟨fun k => w5.heap.size + 1 ≤ k ∧ k < w6.heap.size, Lib.hid (fun k hk => hk), Lib.hid (ogr0_1.mono (fun k hk hk2 => ⟨by have hk3 := hk; (try simp at hk3); omega, hk2⟩))⟩
  clear b hstep ogr0_1
  go_wp2_with fail
  refine (eqMatrix_ok _ w6.heap.size r0_0 r0_1 _ _ ?_ ?_ ?_).mono ?_
  · exact (HOgr0_1.out.rd).below (B' := w6.heap.size) (by repeat' (first | exact Below.refl _ _ | apply Below.drew | apply Below.setCell | apply Below.alloc | (simp; done) | omega | (simp; omega))) (Nat.le_refl _)
  · exact (HOwr0_1.out.rd).below (B' := w6.heap.size) (by repeat' (first | exact Below.refl _ _ | apply Below.drew | apply Below.setCell | apply Below.alloc | (simp; done) | omega | (simp; omega))) (Nat.le_refl _)
  · (first | exact Nat.le_refl _ | (simp; done) | (simp; omega))
  rintro e w7 ⟨rfl, b⟩
  have hstep : Below w6.heap.size w6 w7 := Below.trans (by repeat' (first | exact Below.refl _ _ | apply Below.drew | apply Below.setCell | apply Below.alloc | (simp; done) | omega | (simp; omega))) (b.mono (by (first | exact Nat.le_refl _ | (simp; done) | (simp; omega))))
  replace hpp1_0 := (hstep.cell (p := ⟨w.heap.size, 0, none⟩) hlhpp1_).trans hpp1_0
  replace hpp1_1 := (hstep.cell (p := ⟨w.heap.size, 1, none⟩) hlhpp1_).trans hpp1_1
  replace hpp1_2 := (hstep.cell (p := ⟨w.heap.size, 2, none⟩) hlhpp1_).trans hpp1_2
  replace hlhpp1_ : w.heap.size < w7.heap.size := Nat.lt_of_lt_of_le hlhpp1_ hstep.size
  replace hwr0_0 := (hstep.cell (p := ⟨w4.heap.size, 0, none⟩) hlhwr0_).trans hwr0_0
  replace hwr0_1 := (hstep.cell (p := ⟨w4.heap.size, 1, none⟩) hlhwr0_).trans hwr0_1
  replace hlhwr0_ : w4.heap.size < w7.heap.size := Nat.lt_of_lt_of_le hlhwr0_ hstep.size
  replace hxp1_0 := (hstep.cell (p := ⟨w5.heap.size, 0, none⟩) hlhxp1_).trans hxp1_0
  replace hxp1_1 := (hstep.cell (p := ⟨w5.heap.size, 1, none⟩) hlhxp1_).trans hxp1_1
  replace hxp1_2 := (hstep.cell (p := ⟨w5.heap.size, 2, none⟩) hlhxp1_).trans hxp1_2
  replace hlhxp1_ : w5.heap.size < w7.heap.size := Nat.lt_of_lt_of_le hlhxp1_ hstep.size
  replace HOwr0_1 := Lib.hid (HOwr0_1.out.below hstep (fun _ _ hq => hq))
  replace HOxp1_2 := Lib.hid (HOxp1_2.out.below hstep (fun _ _ hq => hq))
  replace HOgr0_1 := Lib.hid (HOgr0_1.out.below hstep (fun _ _ hq => hq))
  replace HBN := Lib.hid (HBN.out.trans (hstep.mono HBN.out.size))
  have hzw7 : w6.heap.size ≤ w7.heap.size := hstep.size
  have hgr0_0 : w7.cell? ⟨w6.heap.size, 0, none⟩ = some (.int .i64 r0_0) := by have := b.cell (p := ⟨w6.heap.size, 0, none⟩) (by first | (simp; done) | (simp; omega)); simpa [go_sem] using this
  have hgr0_1 : w7.cell? ⟨w6.heap.size, 1, none⟩ = some (.slice Agr0_1 r0_1.length cgr0_1) := by have := b.cell (p := ⟨w6.heap.size, 1, none⟩) (by first | (simp; done) | (simp; omega)); simpa [go_sem] using this
  have hlhgr0_ : w6.heap.size < w7.heap.size := by have := b.size; simp at this; omega
  have hlhgr0_q := hlhgr0_
  clear b hstep 
  have HD : Hid (Below w7.heap.size w7 w7.drew) := Lib.hid (Below.refl _ _).drew
  have HV62 := Lib.hid ((HVp1_2.out.below HBN.out (Nat.le_refl _)).mono HBN.out.size)
  have HG62 := Lib.hid (HOxp1_2.out.rd)
  have HELD : Hid (∀ w' : World, Hid (Below w7.heap.size w7 w') → w'.cell? ⟨w.heap.size, 0, none⟩ = some (.int .i64 p1_0) ∧ w'.cell? ⟨w.heap.size, 1, none⟩ = some (.int .i64 p1_1) ∧ w'.cell? ⟨w.heap.size, 2, none⟩ = some (.slice Aup1_2 p1_2.length cup1_2) ∧ w'.cell? ⟨w5.heap.size, 0, none⟩ = some (.int .i64 p1_0) ∧ w'.cell? ⟨w5.heap.size, 1, none⟩ = some (.int .i64 p1_1) ∧ w'.cell? ⟨w5.heap.size, 2, none⟩ = some (.slice Axp1_2 p1_2.length cxp1_2) ∧ Hid (Below w7.heap.size w7 w')) := Lib.hid (fun w' H => ⟨(H.out.cell (p := ⟨w.heap.size, 0, none⟩) hlhpp1_).trans hpp1_0, (H.out.cell (p := ⟨w.heap.size, 1, none⟩) hlhpp1_).trans hpp1_1, (H.out.cell (p := ⟨w.heap.size, 2, none⟩) hlhpp1_).trans hpp1_2, (H.out.cell (p := ⟨w5.heap.size, 0, none⟩) hlhxp1_).trans hxp1_0, (H.out.cell (p := ⟨w5.heap.size, 1, none⟩) hlhxp1_).trans hxp1_1, (H.out.cell (p := ⟨w5.heap.size, 2, none⟩) hlhxp1_).trans hxp1_2, H⟩)
  go_wp2_with fail
  go_region_held3 (fun w' => w'.cell? ⟨w.heap.size, 0, none⟩ = some (.int .i64 p1_0) ∧ w'.cell? ⟨w.heap.size, 1, none⟩ = some (.int .i64 p1_1) ∧ w'.cell? ⟨w.heap.size, 2, none⟩ = some (.slice Aup1_2 p1_2.length cup1_2) ∧ w'.cell? ⟨w5.heap.size, 0, none⟩ = some (.int .i64 p1_0) ∧ w'.cell? ⟨w5.heap.size, 1, none⟩ = some (.int .i64 p1_1) ∧ w'.cell? ⟨w5.heap.size, 2, none⟩ = some (.slice Axp1_2 p1_2.length cxp1_2) ∧ Hid (Below w7.heap.size w7 w'))
    (exact HELD.out _ (by assumption))
    (first
      | (go_at_call 10; go_split_ands; refine (toRelation_fr w7 _ (by assumption) p1_0 p1_1 p1_2 _ HV62.out hsp1_2).mono ?_; rintro e wa ⟨vyp1_2, rfl, ba, bb, oyp1_2⟩)
      | (go_at_call 12; go_split_ands; refine (eqRelation_fr w7 _ (by assumption) p1_0 p1_1 p1_2 _ _ HG62.out (by assumption)).mono ?_; rintro e w8 ⟨rfl, bc⟩))
  have hstep := bc.out
  clear HD HELD HV62 HG62 oyp1_2 ba bb bc
  replace hpp1_0 := (hstep.cell (p := ⟨w.heap.size, 0, none⟩) hlhpp1_).trans hpp1_0
  replace hpp1_1 := (hstep.cell (p := ⟨w.heap.size, 1, none⟩) hlhpp1_).trans hpp1_1
  replace hpp1_2 := (hstep.cell (p := ⟨w.heap.size, 2, none⟩) hlhpp1_).trans hpp1_2
  replace hlhpp1_ : w.heap.size < w8.heap.size := Nat.lt_of_lt_of_le hlhpp1_ hstep.size
  replace hwr0_0 := (hstep.cell (p := ⟨w4.heap.size, 0, none⟩) hlhwr0_).trans hwr0_0
  replace hwr0_1 := (hstep.cell (p := ⟨w4.heap.size, 1, none⟩) hlhwr0_).trans hwr0_1
  replace hlhwr0_ : w4.heap.size < w8.heap.size := Nat.lt_of_lt_of_le hlhwr0_ hstep.size
  replace hxp1_0 := (hstep.cell (p := ⟨w5.heap.size, 0, none⟩) hlhxp1_).trans hxp1_0
  replace hxp1_1 := (hstep.cell (p := ⟨w5.heap.size, 1, none⟩) hlhxp1_).trans hxp1_1
  replace hxp1_2 := (hstep.cell (p := ⟨w5.heap.size, 2, none⟩) hlhxp1_).trans hxp1_2
  replace hlhxp1_ : w5.heap.size < w8.heap.size := Nat.lt_of_lt_of_le hlhxp1_ hstep.size
  replace hgr0_0 := (hstep.cell (p := ⟨w6.heap.size, 0, none⟩) hlhgr0_).trans hgr0_0
  replace hgr0_1 := (hstep.cell (p := ⟨w6.heap.size, 1, none⟩) hlhgr0_).trans hgr0_1
  replace hlhgr0_ : w6.heap.size < w8.heap.size := Nat.lt_of_lt_of_le hlhgr0_ hstep.size
  replace HOwr0_1 := Lib.hid (HOwr0_1.out.below hstep (fun _ _ hq => hq))
  replace HOxp1_2 := Lib.hid (HOxp1_2.out.below hstep (fun _ _ hq => hq))
  replace HOgr0_1 := Lib.hid (HOgr0_1.out.below hstep (fun _ _ hq => hq))
  replace HBN := Lib.hid (HBN.out.trans (hstep.mono HBN.out.size))
  have hzw8 : w7.heap.size ≤ w8.heap.size := hstep.size
  clear hstep
  have := cntG_le p1_2
  go_wp2_with fail
  refine (markRelation_ok _ p1_0 p1_1 p1_2 _ SHOxp1_2 1 (HOxp1_2.out) (by omega) (by omega)).mono ?_
  rintro e w9 ⟨h2, t, om0⟩
  replace hpp1_0 := (t.cellAt (p := ⟨w.heap.size, 0, none⟩) hlhpp1_ (fun hk => by (first | (have := HSHOxp1_2.out _ hk; dsimp only at this; omega)))).trans hpp1_0
  replace hpp1_1 := (t.cellAt (p := ⟨w.heap.size, 1, none⟩) hlhpp1_ (fun hk => by (first | (have := HSHOxp1_2.out _ hk; dsimp only at this; omega)))).trans hpp1_1
  replace hpp1_2 := (t.cellAt (p := ⟨w.heap.size, 2, none⟩) hlhpp1_ (fun hk => by (first | (have := HSHOxp1_2.out _ hk; dsimp only at this; omega)))).trans hpp1_2
  replace hwr0_0 := (t.cellAt (p := ⟨w4.heap.size, 0, none⟩) hlhwr0_ (fun hk => by (first | (have := HSHOxp1_2.out _ hk; dsimp only at this; omega)))).trans hwr0_0
  replace hwr0_1 := (t.cellAt (p := ⟨w4.heap.size, 1, none⟩) hlhwr0_ (fun hk => by (first | (have := HSHOxp1_2.out _ hk; dsimp only at this; omega)))).trans hwr0_1
  replace hxp1_0 := (t.cellAt (p := ⟨w5.heap.size, 0, none⟩) hlhxp1_ (fun hk => by (first | (have := HSHOxp1_2.out _ hk; dsimp only at this; omega)))).trans hxp1_0
  replace hxp1_1 := (t.cellAt (p := ⟨w5.heap.size, 1, none⟩) hlhxp1_ (fun hk => by (first | (have := HSHOxp1_2.out _ hk; dsimp only at this; omega)))).trans hxp1_1
  replace hxp1_2 := (t.cellAt (p := ⟨w5.heap.size, 2, none⟩) hlhxp1_ (fun hk => by (first | (have := HSHOxp1_2.out _ hk; dsimp only at this; omega)))).trans hxp1_2
  replace hgr0_0 := (t.cellAt (p := ⟨w6.heap.size, 0, none⟩) hlhgr0_ (fun hk => by (first | (have := HSHOxp1_2.out _ hk; dsimp only at this; omega)))).trans hgr0_0
  replace hgr0_1 := (t.cellAt (p := ⟨w6.heap.size, 1, none⟩) hlhgr0_ (fun hk => by (first | (have := HSHOxp1_2.out _ hk; dsimp only at this; omega)))).trans hgr0_1
  replace hlhpp1_ : w.heap.size < w9.heap.size := Nat.lt_of_lt_of_le hlhpp1_ t.size
  replace hlhwr0_ : w4.heap.size < w9.heap.size := Nat.lt_of_lt_of_le hlhwr0_ t.size
  replace hlhxp1_ : w5.heap.size < w9.heap.size := Nat.lt_of_lt_of_le hlhxp1_ t.size
  replace hlhgr0_ : w6.heap.size < w9.heap.size := Nat.lt_of_lt_of_le hlhgr0_ t.size
  replace HOwr0_1 := Lib.hid (HOwr0_1.out.blocks (w' := w9) (fun q hq hql => t.block q hql (fun hx => by (first | (have := HSHOxp1_2.out q hx; have := HSHOwr0_1.out q hq; omega)))))
  replace HOgr0_1 := Lib.hid (HOgr0_1.out.blocks (w' := w9) (fun q hq hql => t.block q hql (fun hx => by (first | (have := HSHOxp1_2.out q hx; have := HSHOgr0_1.out q hq; omega)))))
  replace HBN := Lib.hid (HBN.out.trans (t.below HBN.out.size (fun k hk => by (first | (have := HSHOxp1_2.out k hk; have := HBN.out.size; omega)))))
  have hzw9 : w8.heap.size ≤ w9.heap.size := t.size
  replace HOxp1_2 := Lib.hid om0
  clear t om0
  obtain ⟨kp1_, hkp1_a, hkp1_b, rfl⟩ : ∃ z : Int, 0 ≤ z ∧ z ≤ 1 + 1048576 * 1 ∧ e = .returned (.int .i64 z) := ⟨_, by omega, by omega, h2⟩
  clear h2
  clear HOxp1_2 HSHOxp1_2
  have hkneg : ¬ kp1_ < 0 := by omega
  go_wp2_with fail
  refine (eqMatrix_ok _ w9.heap.size r0_0 r0_1 _ _ ?_ ?_ ?_).mono ?_
  · exact (HOgr0_1.out.rd).below (B' := w9.heap.size) (by repeat' (first | exact Below.refl _ _ | apply Below.drew | apply Below.setCell | apply Below.alloc | (simp; done) | omega | (simp; omega))) (Nat.le_refl _)
  · exact (HOwr0_1.out.rd).below (B' := w9.heap.size) (by repeat' (first | exact Below.refl _ _ | apply Below.drew | apply Below.setCell | apply Below.alloc | (simp; done) | omega | (simp; omega))) (Nat.le_refl _)
  · (first | exact Nat.le_refl _ | (simp; done) | (simp; omega))
  rintro e w10 ⟨rfl, b⟩
  have hstep : Below w9.heap.size w9 w10 := Below.trans (by repeat' (first | exact Below.refl _ _ | apply Below.drew | apply Below.setCell | apply Below.alloc | (simp; done) | omega | (simp; omega))) (b.mono (by (first | exact Nat.le_refl _ | (simp; done) | (simp; omega))))
  replace hpp1_0 := (hstep.cell (p := ⟨w.heap.size, 0, none⟩) hlhpp1_).trans hpp1_0
  replace hpp1_1 := (hstep.cell (p := ⟨w.heap.size, 1, none⟩) hlhpp1_).trans hpp1_1
  replace hpp1_2 := (hstep.cell (p := ⟨w.heap.size, 2, none⟩) hlhpp1_).trans hpp1_2
  replace hlhpp1_ : w.heap.size < w10.heap.size := Nat.lt_of_lt_of_le hlhpp1_ hstep.size
  replace hwr0_0 := (hstep.cell (p := ⟨w4.heap.size, 0, none⟩) hlhwr0_).trans hwr0_0
  replace hwr0_1 := (hstep.cell (p := ⟨w4.heap.size, 1, none⟩) hlhwr0_).trans hwr0_1
  replace hlhwr0_ : w4.heap.size < w10.heap.size := Nat.lt_of_lt_of_le hlhwr0_ hstep.size
  replace hxp1_0 := (hstep.cell (p := ⟨w5.heap.size, 0, none⟩) hlhxp1_).trans hxp1_0
  replace hxp1_1 := (hstep.cell (p := ⟨w5.heap.size, 1, none⟩) hlhxp1_).trans hxp1_1
  replace hxp1_2 := (hstep.cell (p := ⟨w5.heap.size, 2, none⟩) hlhxp1_).trans hxp1_2
  replace hlhxp1_ : w5.heap.size < w10.heap.size := Nat.lt_of_lt_of_le hlhxp1_ hstep.size
  replace hgr0_0 := (hstep.cell (p := ⟨w6.heap.size, 0, none⟩) hlhgr0_).trans hgr0_0
  replace hgr0_1 := (hstep.cell (p := ⟨w6.heap.size, 1, none⟩) hlhgr0_).trans hgr0_1
  replace hlhgr0_ : w6.heap.size < w10.heap.size := Nat.lt_of_lt_of_le hlhgr0_ hstep.size
  replace HOwr0_1 := Lib.hid (HOwr0_1.out.below hstep (fun _ _ hq => hq))
  replace HOgr0_1 := Lib.hid (HOgr0_1.out.below hstep (fun _ _ hq => hq))
  replace HBN := Lib.hid (HBN.out.trans (hstep.mono HBN.out.size))
  have hzw10 : w9.heap.size ≤ w10.heap.size := hstep.size
  clear b hstep 
  have hcbr0_1 : cntG r0_1 ≤ 1099511627776 := Nat.le_trans (cntG_le _) HOgr0_1.out.2
  go_wp2_with fail
  refine (markMatrix_ok _ r0_0 r0_1 _ SHOgr0_1 1 (HOgr0_1.out) (by omega) (by omega)).mono ?_
  rintro e w11 ⟨h2, t, om0⟩
  replace hpp1_0 := (t.cellAt (p := ⟨w.heap.size, 0, none⟩) hlhpp1_ (fun hk => by (first | (have := HSHOgr0_1.out _ hk; dsimp only at this; omega)))).trans hpp1_0
  replace hpp1_1 := (t.cellAt (p := ⟨w.heap.size, 1, none⟩) hlhpp1_ (fun hk => by (first | (have := HSHOgr0_1.out _ hk; dsimp only at this; omega)))).trans hpp1_1
  replace hpp1_2 := (t.cellAt (p := ⟨w.heap.size, 2, none⟩) hlhpp1_ (fun hk => by (first | (have := HSHOgr0_1.out _ hk; dsimp only at this; omega)))).trans hpp1_2
  replace hwr0_0 := (t.cellAt (p := ⟨w4.heap.size, 0, none⟩) hlhwr0_ (fun hk => by (first | (have := HSHOgr0_1.out _ hk; dsimp only at this; omega)))).trans hwr0_0
  replace hwr0_1 := (t.cellAt (p := ⟨w4.heap.size, 1, none⟩) hlhwr0_ (fun hk => by (first | (have := HSHOgr0_1.out _ hk; dsimp only at this; omega)))).trans hwr0_1
  replace hxp1_0 := (t.cellAt (p := ⟨w5.heap.size, 0, none⟩) hlhxp1_ (fun hk => by (first | (have := HSHOgr0_1.out _ hk; dsimp only at this; omega)))).trans hxp1_0
  replace hxp1_1 := (t.cellAt (p := ⟨w5.heap.size, 1, none⟩) hlhxp1_ (fun hk => by (first | (have := HSHOgr0_1.out _ hk; dsimp only at this; omega)))).trans hxp1_1
  replace hxp1_2 := (t.cellAt (p := ⟨w5.heap.size, 2, none⟩) hlhxp1_ (fun hk => by (first | (have := HSHOgr0_1.out _ hk; dsimp only at this; omega)))).trans hxp1_2
  replace hgr0_0 := (t.cellAt (p := ⟨w6.heap.size, 0, none⟩) hlhgr0_ (fun hk => by (first | (have := HSHOgr0_1.out _ hk; dsimp only at this; omega)))).trans hgr0_0
  replace hgr0_1 := (t.cellAt (p := ⟨w6.heap.size, 1, none⟩) hlhgr0_ (fun hk => by (first | (have := HSHOgr0_1.out _ hk; dsimp only at this; omega)))).trans hgr0_1
  replace hlhpp1_ : w.heap.size < w11.heap.size := Nat.lt_of_lt_of_le hlhpp1_ t.size
  replace hlhwr0_ : w4.heap.size < w11.heap.size := Nat.lt_of_lt_of_le hlhwr0_ t.size
  replace hlhxp1_ : w5.heap.size < w11.heap.size := Nat.lt_of_lt_of_le hlhxp1_ t.size
  replace hlhgr0_ : w6.heap.size < w11.heap.size := Nat.lt_of_lt_of_le hlhgr0_ t.size
  replace HOwr0_1 := Lib.hid (HOwr0_1.out.blocks (w' := w11) (fun q hq hql => t.block q hql (fun hx => by (first | (have := HSHOgr0_1.out q hx; have := HSHOwr0_1.out q hq; omega)))))
  replace HBN := Lib.hid (HBN.out.trans (t.below HBN.out.size (fun k hk => by (first | (have := HSHOgr0_1.out k hk; have := HBN.out.size; omega)))))
  have hzw11 : w10.heap.size ≤ w11.heap.size := t.size
  replace HOgr0_1 := Lib.hid om0
  clear t om0
  obtain ⟨mr0_, HMr0_, hmr0_a, hmr0_b, rfl⟩ : ∃ z : Int, Hid (1 + ((cntG r0_1 : Nat) : Int) = z) ∧ 0 ≤ z ∧ z ≤ 1 + 1099511627776 * 1 ∧ e = .returned (.int .i64 z) := ⟨_, Lib.hid rfl, by omega, by omega, h2⟩
  clear h2
  have hmm : (mr0_ != mr0_) = false := by simp
  go_wp2_with fail
  refine (heldMatrix_ok _ w11.heap.size r0_0 r0_1 _ 1 ?_ ?_ (by omega) (by omega)).mono ?_
  · exact (HOgr0_1.out.rd).below (B' := w11.heap.size) (by repeat' (first | exact Below.refl _ _ | apply Below.drew | apply Below.setCell | apply Below.alloc | (simp; done) | omega | (simp; omega))) (Nat.le_refl _)
  · (first | exact Nat.le_refl _ | (simp; done) | (simp; omega))
  rintro e w12 ⟨h2, b⟩
  have hstep : Below w11.heap.size w11 w12 := Below.trans (by repeat' (first | exact Below.refl _ _ | apply Below.drew | apply Below.setCell | apply Below.alloc | (simp; done) | omega | (simp; omega))) (b.mono (by (first | exact Nat.le_refl _ | (simp; done) | (simp; omega))))
  replace hpp1_0 := (hstep.cell (p := ⟨w.heap.size, 0, none⟩) hlhpp1_).trans hpp1_0
  replace hpp1_1 := (hstep.cell (p := ⟨w.heap.size, 1, none⟩) hlhpp1_).trans hpp1_1
  replace hpp1_2 := (hstep.cell (p := ⟨w.heap.size, 2, none⟩) hlhpp1_).trans hpp1_2
  replace hlhpp1_ : w.heap.size < w12.heap.size := Nat.lt_of_lt_of_le hlhpp1_ hstep.size
  replace hwr0_0 := (hstep.cell (p := ⟨w4.heap.size, 0, none⟩) hlhwr0_).trans hwr0_0
  replace hwr0_1 := (hstep.cell (p := ⟨w4.heap.size, 1, none⟩) hlhwr0_).trans hwr0_1
  replace hlhwr0_ : w4.heap.size < w12.heap.size := Nat.lt_of_lt_of_le hlhwr0_ hstep.size
  replace hxp1_0 := (hstep.cell (p := ⟨w5.heap.size, 0, none⟩) hlhxp1_).trans hxp1_0
  replace hxp1_1 := (hstep.cell (p := ⟨w5.heap.size, 1, none⟩) hlhxp1_).trans hxp1_1
  replace hxp1_2 := (hstep.cell (p := ⟨w5.heap.size, 2, none⟩) hlhxp1_).trans hxp1_2
  replace hlhxp1_ : w5.heap.size < w12.heap.size := Nat.lt_of_lt_of_le hlhxp1_ hstep.size
  replace hgr0_0 := (hstep.cell (p := ⟨w6.heap.size, 0, none⟩) hlhgr0_).trans hgr0_0
  replace hgr0_1 := (hstep.cell (p := ⟨w6.heap.size, 1, none⟩) hlhgr0_).trans hgr0_1
  replace hlhgr0_ : w6.heap.size < w12.heap.size := Nat.lt_of_lt_of_le hlhgr0_ hstep.size
  replace HOwr0_1 := Lib.hid (HOwr0_1.out.below hstep (fun _ _ hq => hq))
  replace HOgr0_1 := Lib.hid (HOgr0_1.out.below hstep (fun _ _ hq => hq))
  replace HBN := Lib.hid (HBN.out.trans (hstep.mono HBN.out.size))
  have hzw12 : w11.heap.size ≤ w12.heap.size := hstep.size
  clear b hstep 
  rw [HMr0_.out] at h2
  subst h2
  have hmneg : ¬ mr0_ < 0 := by omega
  go_wp2_with fail
  refine (toRelation_ok _ w.heap.size p1_0 p1_1 p1_2 _ ?_ ?_ hsp1_2).mono ?_
  · exact (HVp1_2.out.below HBN.out (Nat.le_refl _)).below (B' := w12.heap.size) (by repeat' (first | exact Below.refl _ _ | apply Below.drew | apply Below.setCell | apply Below.alloc | (simp; done) | omega | (simp; omega))) HBN.out.size
  · (have := HBN.out.size; first | exact this | (simp; done) | (simp; omega))
  rintro e w13 ⟨vyp1_2, rfl, b, oyp1_2⟩
  obtain ⟨Ayp1_2, cyp1_2, rfl⟩ := oyp1_2.len
  have hstep : Below w12.heap.size w12 w13 := Below.trans (by repeat' (first | exact Below.refl _ _ | apply Below.drew | apply Below.setCell | apply Below.alloc | (simp; done) | omega | (simp; omega))) (b.mono (by (first | exact Nat.le_refl _ | (simp; done) | (simp; omega))))
  replace hpp1_0 := (hstep.cell (p := ⟨w.heap.size, 0, none⟩) hlhpp1_).trans hpp1_0
  replace hpp1_1 := (hstep.cell (p := ⟨w.heap.size, 1, none⟩) hlhpp1_).trans hpp1_1
  replace hpp1_2 := (hstep.cell (p := ⟨w.heap.size, 2, none⟩) hlhpp1_).trans hpp1_2
  replace hlhpp1_ : w.heap.size < w13.heap.size := Nat.lt_of_lt_of_le hlhpp1_ hstep.size
  replace hwr0_0 := (hstep.cell (p := ⟨w4.heap.size, 0, none⟩) hlhwr0_).trans hwr0_0
  replace hwr0_1 := (hstep.cell (p := ⟨w4.heap.size, 1, none⟩) hlhwr0_).trans hwr0_1
  replace hlhwr0_ : w4.heap.size < w13.heap.size := Nat.lt_of_lt_of_le hlhwr0_ hstep.size
  replace hxp1_0 := (hstep.cell (p := ⟨w5.heap.size, 0, none⟩) hlhxp1_).trans hxp1_0
  replace hxp1_1 := (hstep.cell (p := ⟨w5.heap.size, 1, none⟩) hlhxp1_).trans hxp1_1
  replace hxp1_2 := (hstep.cell (p := ⟨w5.heap.size, 2, none⟩) hlhxp1_).trans hxp1_2
  replace hlhxp1_ : w5.heap.size < w13.heap.size := Nat.lt_of_lt_of_le hlhxp1_ hstep.size
  replace hgr0_0 := (hstep.cell (p := ⟨w6.heap.size, 0, none⟩) hlhgr0_).trans hgr0_0
  replace hgr0_1 := (hstep.cell (p := ⟨w6.heap.size, 1, none⟩) hlhgr0_).trans hgr0_1
  replace hlhgr0_ : w6.heap.size < w13.heap.size := Nat.lt_of_lt_of_le hlhgr0_ hstep.size
  replace HOwr0_1 := Lib.hid (HOwr0_1.out.below hstep (fun _ _ hq => hq))
  replace HOgr0_1 := Lib.hid (HOgr0_1.out.below hstep (fun _ _ hq => hq))
  replace HBN := Lib.hid (HBN.out.trans (hstep.mono HBN.out.size))
  have hzw13 : w12.heap.size ≤ w13.heap.size := hstep.size
  obtain ⟨SHOyp1_2, HSHOyp1_2, HOyp1_2⟩ : ∃ S : Nat → Prop, Hid (∀ k, S k → w12.heap.size + 0 ≤ k ∧ k < w13.heap.size) ∧ Hid (OwnG w13 S (.slice Ayp1_2 p1_2.length cyp1_2) p1_2) := ⟨fun k => w12.heap.size + 0 ≤ k ∧ k < w13.heap.size, Lib.hid (fun k hk => hk), Lib.hid (oyp1_2.mono (fun k hk hk2 => ⟨by have hk3 := hk; (try simp at hk3); omega, hk2⟩))⟩
  clear b hstep oyp1_2
  go_wp2_with fail
  refine (HIM.out _ w13.heap.size _ ?_ ?_ ?_ hsp1_2).mono ?_
  · exact (HT.out.below HBN.out).below (by repeat' (first | exact Below.refl _ _ | apply Below.drew | apply Below.setCell | apply Below.alloc | (simp; done) | omega | (simp; omega)))
  · exact (HOyp1_2.out.rd).below (B' := w13.heap.size) (by repeat' (first | exact Below.refl _ _ | apply Below.drew | apply Below.setCell | apply Below.alloc | (simp; done) | omega | (simp; omega))) (Nat.le_refl _)
  · (first | exact Nat.le_refl _ | (simp; done) | (simp; omega))
  rintro e w14 ⟨vhr0_1, rfl, b, ohr0_1⟩
  obtain ⟨Ahr0_1, chr0_1, rfl⟩ := ohr0_1.len
  have hstep : Below w13.heap.size w13 w14 := Below.trans (by repeat' (first | exact Below.refl _ _ | apply Below.drew | apply Below.setCell | apply Below.alloc | (simp; done) | omega | (simp; omega))) (b.mono (by (first | exact Nat.le_refl _ | (simp; done) | (simp; omega))))
  replace hpp1_0 := (hstep.cell (p := ⟨w.heap.size, 0, none⟩) hlhpp1_).trans hpp1_0
  replace hpp1_1 := (hstep.cell (p := ⟨w.heap.size, 1, none⟩) hlhpp1_).trans hpp1_1
  replace hpp1_2 := (hstep.cell (p := ⟨w.heap.size, 2, none⟩) hlhpp1_).trans hpp1_2
  replace hlhpp1_ : w.heap.size < w14.heap.size := Nat.lt_of_lt_of_le hlhpp1_ hstep.size
  replace hwr0_0 := (hstep.cell (p := ⟨w4.heap.size, 0, none⟩) hlhwr0_).trans hwr0_0
  replace hwr0_1 := (hstep.cell (p := ⟨w4.heap.size, 1, none⟩) hlhwr0_).trans hwr0_1
  replace hlhwr0_ : w4.heap.size < w14.heap.size := Nat.lt_of_lt_of_le hlhwr0_ hstep.size
  replace hxp1_0 := (hstep.cell (p := ⟨w5.heap.size, 0, none⟩) hlhxp1_).trans hxp1_0
  replace hxp1_1 := (hstep.cell (p := ⟨w5.heap.size, 1, none⟩) hlhxp1_).trans hxp1_1
  replace hxp1_2 := (hstep.cell (p := ⟨w5.heap.size, 2, none⟩) hlhxp1_).trans hxp1_2
  replace hlhxp1_ : w5.heap.size < w14.heap.size := Nat.lt_of_lt_of_le hlhxp1_ hstep.size
  replace hgr0_0 := (hstep.cell (p := ⟨w6.heap.size, 0, none⟩) hlhgr0_).trans hgr0_0
  replace hgr0_1 := (hstep.cell (p := ⟨w6.heap.size, 1, none⟩) hlhgr0_).trans hgr0_1
  replace hlhgr0_ : w6.heap.size < w14.heap.size := Nat.lt_of_lt_of_le hlhgr0_ hstep.size
  replace HOwr0_1 := Lib.hid (HOwr0_1.out.below hstep (fun _ _ hq => hq))
  replace HOgr0_1 := Lib.hid (HOgr0_1.out.below hstep (fun _ _ hq => hq))
  replace HOyp1_2 := Lib.hid (HOyp1_2.out.below hstep (fun _ _ hq => hq))
  replace HBN := Lib.hid (HBN.out.trans (hstep.mono HBN.out.size))
  have hzw14 : w13.heap.size ≤ w14.heap.size := hstep.size
  obtain ⟨SHOhr0_1, HSHOhr0_1, HOhr0_1⟩ : ∃ S : Nat → Prop, Hid (∀ k, S k → w13.heap.size + 0 ≤ k ∧ k < w14.heap.size) ∧ Hid (OwnG w14 S (.slice Ahr0_1 r0_1.length chr0_1) r0_1) := ⟨fun k => w13.heap.size + 0 ≤ k ∧ k < w14.heap.size, Lib.hid (fun k hk => hk), Lib.hid (ohr0_1.mono (fun k hk hk2 => ⟨by have hk3 := hk; (try simp at hk3); omega, hk2⟩))⟩
  clear b hstep ohr0_1
  clear HOyp1_2 HSHOyp1_2
  go_wp2_with fail
  refine (eqMatrix_ok _ w14.heap.size r0_0 r0_1 _ _ ?_ ?_ ?_).mono ?_
  · exact (HOhr0_1.out.rd).below (B' := w14.heap.size) (by repeat' (first | exact Below.refl _ _ | apply Below.drew | apply Below.setCell | apply Below.alloc | (simp; done) | omega | (simp; omega))) (Nat.le_refl _)
  · exact (HOwr0_1.out.rd).below (B' := w14.heap.size) (by repeat' (first | exact Below.refl _ _ | apply Below.drew | apply Below.setCell | apply Below.alloc | (simp; done) | omega | (simp; omega))) (Nat.le_refl _)
  · (first | exact Nat.le_refl _ | (simp; done) | (simp; omega))
  rintro e w15 ⟨rfl, b⟩
  have hstep : Below w14.heap.size w14 w15 := Below.trans (by repeat' (first | exact Below.refl _ _ | apply Below.drew | apply Below.setCell | apply Below.alloc | (simp; done) | omega | (simp; omega))) (b.mono (by (first | exact Nat.le_refl _ | (simp; done) | (simp; omega))))
  replace hpp1_0 := (hstep.cell (p := ⟨w.heap.size, 0, none⟩) hlhpp1_).trans hpp1_0
  replace hpp1_1 := (hstep.cell (p := ⟨w.heap.size, 1, none⟩) hlhpp1_).trans hpp1_1
  replace hpp1_2 := (hstep.cell (p := ⟨w.heap.size, 2, none⟩) hlhpp1_).trans hpp1_2
  replace hlhpp1_ : w.heap.size < w15.heap.size := Nat.lt_of_lt_of_le hlhpp1_ hstep.size
  replace hwr0_0 := (hstep.cell (p := ⟨w4.heap.size, 0, none⟩) hlhwr0_).trans hwr0_0
  replace hwr0_1 := (hstep.cell (p := ⟨w4.heap.size, 1, none⟩) hlhwr0_).trans hwr0_1
  replace hlhwr0_ : w4.heap.size < w15.heap.size := Nat.lt_of_lt_of_le hlhwr0_ hstep.size
  replace hxp1_0 := (hstep.cell (p := ⟨w5.heap.size, 0, none⟩) hlhxp1_).trans hxp1_0
  replace hxp1_1 := (hstep.cell (p := ⟨w5.heap.size, 1, none⟩) hlhxp1_).trans hxp1_1
  replace hxp1_2 := (hstep.cell (p := ⟨w5.heap.size, 2, none⟩) hlhxp1_).trans hxp1_2
  replace hlhxp1_ : w5.heap.size < w15.heap.size := Nat.lt_of_lt_of_le hlhxp1_ hstep.size
  replace hgr0_0 := (hstep.cell (p := ⟨w6.heap.size, 0, none⟩) hlhgr0_).trans hgr0_0
  replace hgr0_1 := (hstep.cell (p := ⟨w6.heap.size, 1, none⟩) hlhgr0_).trans hgr0_1
  replace hlhgr0_ : w6.heap.size < w15.heap.size := Nat.lt_of_lt_of_le hlhgr0_ hstep.size
  replace HOwr0_1 := Lib.hid (HOwr0_1.out.below hstep (fun _ _ hq => hq))
  replace HOgr0_1 := Lib.hid (HOgr0_1.out.below hstep (fun _ _ hq => hq))
  replace HOhr0_1 := Lib.hid (HOhr0_1.out.below hstep (fun _ _ hq => hq))
  replace HBN := Lib.hid (HBN.out.trans (hstep.mono HBN.out.size))
  have hzw15 : w14.heap.size ≤ w15.heap.size := hstep.size
  have hhr0_0 : w15.cell? ⟨w14.heap.size, 0, none⟩ = some (.int .i64 r0_0) := by have := b.cell (p := ⟨w14.heap.size, 0, none⟩) (by first | (simp; done) | (simp; omega)); simpa [go_sem] using this
  have hhr0_1 : w15.cell? ⟨w14.heap.size, 1, none⟩ = some (.slice Ahr0_1 r0_1.length chr0_1) := by have := b.cell (p := ⟨w14.heap.size, 1, none⟩) (by first | (simp; done) | (simp; omega)); simpa [go_sem] using this
  have hlhhr0_ : w14.heap.size < w15.heap.size := by have := b.size; simp at this; omega
  have hlhhr0_q := hlhhr0_
  clear b hstep 
  go_wp2_with fail
  refine (heldMatrix_ok _ w15.heap.size r0_0 r0_1 _ 1 ?_ ?_ (by omega) (by omega)).mono ?_
  · exact (HOgr0_1.out.rd).below (B' := w15.heap.size) (by repeat' (first | exact Below.refl _ _ | apply Below.drew | apply Below.setCell | apply Below.alloc | (simp; done) | omega | (simp; omega))) (Nat.le_refl _)
  · (first | exact Nat.le_refl _ | (simp; done) | (simp; omega))
  rintro e w16 ⟨h2, b⟩
  have hstep : Below w15.heap.size w15 w16 := Below.trans (by repeat' (first | exact Below.refl _ _ | apply Below.drew | apply Below.setCell | apply Below.alloc | (simp; done) | omega | (simp; omega))) (b.mono (by (first | exact Nat.le_refl _ | (simp; done) | (simp; omega))))
  replace hpp1_0 := (hstep.cell (p := ⟨w.heap.size, 0, none⟩) hlhpp1_).trans hpp1_0
  replace hpp1_1 := (hstep.cell (p := ⟨w.heap.size, 1, none⟩) hlhpp1_).trans hpp1_1
  replace hpp1_2 := (hstep.cell (p := ⟨w.heap.size, 2, none⟩) hlhpp1_).trans hpp1_2
  replace hlhpp1_ : w.heap.size < w16.heap.size := Nat.lt_of_lt_of_le hlhpp1_ hstep.size
  replace hwr0_0 := (hstep.cell (p := ⟨w4.heap.size, 0, none⟩) hlhwr0_).trans hwr0_0
  replace hwr0_1 := (hstep.cell (p := ⟨w4.heap.size, 1, none⟩) hlhwr0_).trans hwr0_1
  replace hlhwr0_ : w4.heap.size < w16.heap.size := Nat.lt_of_lt_of_le hlhwr0_ hstep.size
  replace hxp1_0 := (hstep.cell (p := ⟨w5.heap.size, 0, none⟩) hlhxp1_).trans hxp1_0
  replace hxp1_1 := (hstep.cell (p := ⟨w5.heap.size, 1, none⟩) hlhxp1_).trans hxp1_1
  replace hxp1_2 := (hstep.cell (p := ⟨w5.heap.size, 2, none⟩) hlhxp1_).trans hxp1_2
  replace hlhxp1_ : w5.heap.size < w16.heap.size := Nat.lt_of_lt_of_le hlhxp1_ hstep.size
  replace hgr0_0 := (hstep.cell (p := ⟨w6.heap.size, 0, none⟩) hlhgr0_).trans hgr0_0
  replace hgr0_1 := (hstep.cell (p := ⟨w6.heap.size, 1, none⟩) hlhgr0_).trans hgr0_1
  replace hlhgr0_ : w6.heap.size < w16.heap.size := Nat.lt_of_lt_of_le hlhgr0_ hstep.size
  replace hhr0_0 := (hstep.cell (p := ⟨w14.heap.size, 0, none⟩) hlhhr0_).trans hhr0_0
  replace hhr0_1 := (hstep.cell (p := ⟨w14.heap.size, 1, none⟩) hlhhr0_).trans hhr0_1
  replace hlhhr0_ : w14.heap.size < w16.heap.size := Nat.lt_of_lt_of_le hlhhr0_ hstep.size
  replace HOwr0_1 := Lib.hid (HOwr0_1.out.below hstep (fun _ _ hq => hq))
  replace HOgr0_1 := Lib.hid (HOgr0_1.out.below hstep (fun _ _ hq => hq))
  replace HOhr0_1 := Lib.hid (HOhr0_1.out.below hstep (fun _ _ hq => hq))
  replace HBN := Lib.hid (HBN.out.trans (hstep.mono HBN.out.size))
  have hzw16 : w15.heap.size ≤ w16.heap.size := hstep.size
  clear b hstep 
  rw [HMr0_.out] at h2
  subst h2
  have hmneg : ¬ mr0_ < 0 := by omega
  go_wp2
  go_ret
  exact ⟨rfl, HBN.out⟩
end Go.Proofs.YtiiloioobmkicaaDoor
