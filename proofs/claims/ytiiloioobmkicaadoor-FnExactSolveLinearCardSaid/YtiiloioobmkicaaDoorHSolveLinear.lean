/- The harness of the law FnExactSolveLinear: it returns true if both functions return what they should. -/
import Derived.Test.YtiiloioobmkicaaDoorTMatrix
import Derived.Test.YtiiloioobmkicaaDoorRetRB
import Derived.Test.YtiiloioobmkicaaDoorFdWalks
import Derived.Deep.Cut
import Derived.Deep.QuietTactic
namespace Go.Proofs.YtiiloioobmkicaaDoor
set_option maxRecDepth 100000
open Go Go.RowKit Go.Deep

set_option maxHeartbeats 6400000 in
set_option maxRecDepth 100000 in
theorem harness_SolveLinear (p0_0 : Int) (p1_0 : Int) (p1_1 : List (List Int)) (p2_0 : List Int) (up1_1 : Value) (up2_0 : Value) (w : World) (r0_0 : List Int) (r1_0 : Bool) (ht : Tab w) (hvp1_1 : LfG w w.heap.size up1_1 p1_1) (hvp2_0 : LfR w w.heap.size up2_0 p2_0) 
    (hspec : ∀ (w : World) (B : Nat) (vp1_1 : Value) (vp2_0 : Value) , LfG w B vp1_1 p1_1 → LfR w B vp2_0 p2_0 → B ≤ w.heap.size → szG p1_1 ≤ 1048576 → szR p2_0 ≤ 1048576 → Calls Tryd.prog 25 #[.int .i64 p0_0, .agg #[.int .i64 p1_0, vp1_1], vp2_0] w (SRetRB w r0_0 r1_0))
    (himpl : ∀ (w : World) (B : Nat) (vp1_1 : Value) (vp2_0 : Value) , Tab w → LfG w B vp1_1 p1_1 → LfR w B vp2_0 p2_0 → B ≤ w.heap.size → szG p1_1 ≤ 1048576 → szR p2_0 ≤ 1048576 → Calls Tryd.prog 28 #[.int .i64 p0_0, .agg #[.int .i64 p1_0, vp1_1], vp2_0] w (IRetRB w r0_0 r1_0)) :
    Calls Tryd.prog 7 #[.int .i64 p0_0, .agg #[.int .i64 p1_0, up1_1], up2_0] w fun e w' => e = .returned (.bool true) ∧ Below w.heap.size w w' := by
  have HBN := Lib.hid (Below.refl w.heap.size w)
  have HT := Lib.hid ht
  have HSP := Lib.hid hspec
  have HIM := Lib.hid himpl
  clear ht hspec himpl
  obtain ⟨Aup1_1, cup1_1, rfl⟩ := hvp1_1.len
  have HVp1_1 := Lib.hid hvp1_1
  clear hvp1_1
  obtain ⟨Aup2_0, cup2_0, rfl⟩ := hvp2_0.len
  have HVp2_0 := Lib.hid hvp2_0
  clear hvp2_0
  have hbbr1_0 : (r1_0 != r1_0) = false := by simp
  go_enter Tryd.func7, Tryd.ntmps7
  by_cases hbig : (1048576 : Int) < p2_0.length
  · go_wp2
    go_ret
    exact ⟨rfl, by repeat' (first | exact Below.refl _ _ | apply Below.drew | apply Below.setCell | apply Below.alloc | (simp; done) | omega | (simp; omega))⟩
  have hsp2_0 : szR p2_0 ≤ 1048576 := by unfold szR; omega
  have hbp2_0 : (p2_0.length : Int) ≤ 1048576 := by omega
  clear hbig
  go_wp2_with fail
  refine (szMatrix_ok _ w.heap.size p1_0 p1_1 _ 1048576 ?_ ?_ (by omega) (by omega)).mono ?_
  · exact (HVp1_1.out.below HBN.out (Nat.le_refl _)).below (B' := w.heap.size) (by repeat' (first | exact Below.refl _ _ | apply Below.drew | apply Below.setCell | apply Below.alloc | (simp; done) | omega | (simp; omega))) HBN.out.size
  · (have := HBN.out.size; first | exact this | (simp; done) | (simp; omega))
  rintro e w2 ⟨b, h2⟩
  have hstep : Below w.heap.size w w2 := Below.trans (by repeat' (first | exact Below.refl _ _ | apply Below.drew | apply Below.setCell | apply Below.alloc | (simp; done) | omega | (simp; omega))) (b.mono (by (first | exact Nat.le_refl _ | (simp; done) | (simp; omega))))
  replace HBN := Lib.hid (HBN.out.trans (hstep.mono HBN.out.size))
  have hzw2 : w.heap.size ≤ w2.heap.size := hstep.size
  have hpp1_0 : w2.cell? ⟨w.heap.size, 0, none⟩ = some (.int .i64 p1_0) := by have := b.cell (p := ⟨w.heap.size, 0, none⟩) (by first | (simp; done) | (simp; omega)); simpa [go_sem] using this
  have hpp1_1 : w2.cell? ⟨w.heap.size, 1, none⟩ = some (.slice Aup1_1 p1_1.length cup1_1) := by have := b.cell (p := ⟨w.heap.size, 1, none⟩) (by first | (simp; done) | (simp; omega)); simpa [go_sem] using this
  have hlhpp1_ : w.heap.size < w2.heap.size := by have := b.size; simp at this; omega
  have hlhpp1_q := hlhpp1_
  clear b hstep 
  rcases h2 with rfl | ⟨hle, h2⟩
  · go_wp2
    go_ret
    exact ⟨rfl, HBN.out⟩
  obtain ⟨zp1_, hzp1_a, hzp1_b, rfl⟩ : ∃ z : Int, 0 ≤ z ∧ z ≤ 1048576 ∧ e = .returned (.int .i64 z) := ⟨_, by omega, by omega, h2⟩
  have hsp1_1 : szG p1_1 ≤ 1048576 := by omega
  clear h2 hle
  go_wp2_with fail
  refine (toMatrix_ok _ w.heap.size p1_0 p1_1 _ ?_ ?_ hsp1_1).mono ?_
  · exact (HVp1_1.out.below HBN.out (Nat.le_refl _)).below (B' := w2.heap.size) (by repeat' (first | exact Below.refl _ _ | apply Below.drew | apply Below.setCell | apply Below.alloc | (simp; done) | omega | (simp; omega))) HBN.out.size
  · (have := HBN.out.size; first | exact this | (simp; done) | (simp; omega))
  rintro e w3 ⟨vap1_1, rfl, b, oap1_1⟩
  obtain ⟨Aap1_1, cap1_1, rfl⟩ := oap1_1.len
  have hstep : Below w2.heap.size w2 w3 := Below.trans (by repeat' (first | exact Below.refl _ _ | apply Below.drew | apply Below.setCell | apply Below.alloc | (simp; done) | omega | (simp; omega))) (b.mono (by (first | exact Nat.le_refl _ | (simp; done) | (simp; omega))))
  replace hpp1_0 := (hstep.cell (p := ⟨w.heap.size, 0, none⟩) hlhpp1_).trans hpp1_0
  replace hpp1_1 := (hstep.cell (p := ⟨w.heap.size, 1, none⟩) hlhpp1_).trans hpp1_1
  replace hlhpp1_ : w.heap.size < w3.heap.size := Nat.lt_of_lt_of_le hlhpp1_ hstep.size
  replace HBN := Lib.hid (HBN.out.trans (hstep.mono HBN.out.size))
  have hzw3 : w2.heap.size ≤ w3.heap.size := hstep.size
  obtain ⟨SHOap1_1, HSHOap1_1, HOap1_1⟩ : ∃ S : Nat → Prop, Hid (∀ k, S k → w2.heap.size + 0 ≤ k ∧ k < w3.heap.size) ∧ Hid (OwnG w3 S (.slice Aap1_1 p1_1.length cap1_1) p1_1) := ⟨fun k => w2.heap.size + 0 ≤ k ∧ k < w3.heap.size, Lib.hid (fun k hk => hk), Lib.hid (oap1_1.mono (fun k hk hk2 => ⟨by have hk3 := hk; (try simp at hk3); omega, hk2⟩))⟩
  clear b hstep oap1_1
  go_wp2_with fail
  refine (toR_any _ w.heap.size _ p2_0 ?_ ?_ hsp2_0).mono ?_
  · exact (HVp2_0.out.below HBN.out (Nat.le_refl _)).below (B' := w3.heap.size) (by repeat' (first | exact Below.refl _ _ | apply Below.drew | apply Below.setCell | apply Below.alloc | (simp; done) | omega | (simp; omega))) HBN.out.size
  · (have := HBN.out.size; first | exact this | (simp; done) | (simp; omega))
  rintro e w4 ⟨vap2_0, rfl, b, oap2_0⟩
  obtain ⟨Aap2_0, cap2_0, rfl⟩ := oap2_0.len
  have hstep : Below w3.heap.size w3 w4 := Below.trans (by repeat' (first | exact Below.refl _ _ | apply Below.drew | apply Below.setCell | apply Below.alloc | (simp; done) | omega | (simp; omega))) (b.mono (by (first | exact Nat.le_refl _ | (simp; done) | (simp; omega))))
  replace hpp1_0 := (hstep.cell (p := ⟨w.heap.size, 0, none⟩) hlhpp1_).trans hpp1_0
  replace hpp1_1 := (hstep.cell (p := ⟨w.heap.size, 1, none⟩) hlhpp1_).trans hpp1_1
  replace hlhpp1_ : w.heap.size < w4.heap.size := Nat.lt_of_lt_of_le hlhpp1_ hstep.size
  replace HOap1_1 := Lib.hid (HOap1_1.out.below hstep (fun _ _ hq => hq))
  replace HBN := Lib.hid (HBN.out.trans (hstep.mono HBN.out.size))
  have hzw4 : w3.heap.size ≤ w4.heap.size := hstep.size
  obtain ⟨SHOap2_0, HSHOap2_0, HOap2_0⟩ : ∃ S : Nat → Prop, Hid (∀ k, S k → w3.heap.size + 0 ≤ k ∧ k < w4.heap.size) ∧ Hid (OwnR w4 S (.slice Aap2_0 p2_0.length cap2_0) p2_0) := ⟨fun k => w3.heap.size + 0 ≤ k ∧ k < w4.heap.size, Lib.hid (fun k hk => hk), Lib.hid (oap2_0.mono (fun k hk hk2 => ⟨by have hk3 := hk; (try simp at hk3); omega, hk2⟩))⟩
  clear b hstep oap2_0
  go_wp2_with fail
  refine (HSP.out _ w4.heap.size _ _ ?_ ?_ ?_ hsp1_1 hsp2_0).mono ?_
  · exact (HOap1_1.out.rd).below (B' := w4.heap.size) (by repeat' (first | exact Below.refl _ _ | apply Below.drew | apply Below.setCell | apply Below.alloc | (simp; done) | omega | (simp; omega))) (Nat.le_refl _)
  · exact (HOap2_0.out.rd).below (B' := w4.heap.size) (by repeat' (first | exact Below.refl _ _ | apply Below.drew | apply Below.setCell | apply Below.alloc | (simp; done) | omega | (simp; omega))) (Nat.le_refl _)
  · (first | exact Nat.le_refl _ | (simp; done) | (simp; omega))
  rintro e w5 ⟨vwr0_0, rfl, b, owr0_0⟩
  obtain ⟨Awr0_0, cwr0_0, rfl⟩ := owr0_0.len
  have hstep : Below w4.heap.size w4 w5 := Below.trans (by repeat' (first | exact Below.refl _ _ | apply Below.drew | apply Below.setCell | apply Below.alloc | (simp; done) | omega | (simp; omega))) (b.mono (by (first | exact Nat.le_refl _ | (simp; done) | (simp; omega))))
  replace hpp1_0 := (hstep.cell (p := ⟨w.heap.size, 0, none⟩) hlhpp1_).trans hpp1_0
  replace hpp1_1 := (hstep.cell (p := ⟨w.heap.size, 1, none⟩) hlhpp1_).trans hpp1_1
  replace hlhpp1_ : w.heap.size < w5.heap.size := Nat.lt_of_lt_of_le hlhpp1_ hstep.size
  replace HOap1_1 := Lib.hid (HOap1_1.out.below hstep (fun _ _ hq => hq))
  replace HOap2_0 := Lib.hid (HOap2_0.out.below hstep (fun _ _ hq => hq))
  replace HBN := Lib.hid (HBN.out.trans (hstep.mono HBN.out.size))
  have hzw5 : w4.heap.size ≤ w5.heap.size := hstep.size
  obtain ⟨SHOwr0_0, HSHOwr0_0, HOwr0_0⟩ : ∃ S : Nat → Prop, Hid (∀ k, S k → w4.heap.size + 0 ≤ k ∧ k < w5.heap.size) ∧ Hid (OwnR w5 S (.slice Awr0_0 r0_0.length cwr0_0) r0_0) := ⟨fun k => w4.heap.size + 0 ≤ k ∧ k < w5.heap.size, Lib.hid (fun k hk => hk), Lib.hid (owr0_0.mono (fun k hk hk2 => ⟨by have hk3 := hk; (try simp at hk3); omega, hk2⟩))⟩
  clear b hstep owr0_0
  clear HOap1_1 HSHOap1_1
  clear HOap2_0 HSHOap2_0
  go_wp2_with fail
  refine (toMatrix_ok _ w.heap.size p1_0 p1_1 _ ?_ ?_ hsp1_1).mono ?_
  · exact (HVp1_1.out.below HBN.out (Nat.le_refl _)).below (B' := w5.heap.size) (by repeat' (first | exact Below.refl _ _ | apply Below.drew | apply Below.setCell | apply Below.alloc | (simp; done) | omega | (simp; omega))) HBN.out.size
  · (have := HBN.out.size; first | exact this | (simp; done) | (simp; omega))
  rintro e w6 ⟨vxp1_1, rfl, b, oxp1_1⟩
  obtain ⟨Axp1_1, cxp1_1, rfl⟩ := oxp1_1.len
  have hstep : Below w5.heap.size w5 w6 := Below.trans (by repeat' (first | exact Below.refl _ _ | apply Below.drew | apply Below.setCell | apply Below.alloc | (simp; done) | omega | (simp; omega))) (b.mono (by (first | exact Nat.le_refl _ | (simp; done) | (simp; omega))))
  replace hpp1_0 := (hstep.cell (p := ⟨w.heap.size, 0, none⟩) hlhpp1_).trans hpp1_0
  replace hpp1_1 := (hstep.cell (p := ⟨w.heap.size, 1, none⟩) hlhpp1_).trans hpp1_1
  replace hlhpp1_ : w.heap.size < w6.heap.size := Nat.lt_of_lt_of_le hlhpp1_ hstep.size
  replace HOwr0_0 := Lib.hid (HOwr0_0.out.below hstep (fun _ _ hq => hq))
  replace HBN := Lib.hid (HBN.out.trans (hstep.mono HBN.out.size))
  have hzw6 : w5.heap.size ≤ w6.heap.size := hstep.size
  obtain ⟨SHOxp1_1, HSHOxp1_1, HOxp1_1⟩ : ∃ S : Nat → Prop, Hid (∀ k, S k → w5.heap.size + 0 ≤ k ∧ k < w6.heap.size) ∧ Hid (OwnG w6 S (.slice Axp1_1 p1_1.length cxp1_1) p1_1) := ⟨fun k => w5.heap.size + 0 ≤ k ∧ k < w6.heap.size, Lib.hid (fun k hk => hk), Lib.hid (oxp1_1.mono (fun k hk hk2 => ⟨by have hk3 := hk; (try simp at hk3); omega, hk2⟩))⟩
  clear b hstep oxp1_1
  go_wp2_with fail
  refine (toR_any _ w.heap.size _ p2_0 ?_ ?_ hsp2_0).mono ?_
  · exact (HVp2_0.out.below HBN.out (Nat.le_refl _)).below (B' := w6.heap.size) (by repeat' (first | exact Below.refl _ _ | apply Below.drew | apply Below.setCell | apply Below.alloc | (simp; done) | omega | (simp; omega))) HBN.out.size
  · (have := HBN.out.size; first | exact this | (simp; done) | (simp; omega))
  rintro e w7 ⟨vxp2_0, rfl, b, oxp2_0⟩
  obtain ⟨Axp2_0, cxp2_0, rfl⟩ := oxp2_0.len
  have hstep : Below w6.heap.size w6 w7 := Below.trans (by repeat' (first | exact Below.refl _ _ | apply Below.drew | apply Below.setCell | apply Below.alloc | (simp; done) | omega | (simp; omega))) (b.mono (by (first | exact Nat.le_refl _ | (simp; done) | (simp; omega))))
  replace hpp1_0 := (hstep.cell (p := ⟨w.heap.size, 0, none⟩) hlhpp1_).trans hpp1_0
  replace hpp1_1 := (hstep.cell (p := ⟨w.heap.size, 1, none⟩) hlhpp1_).trans hpp1_1
  replace hlhpp1_ : w.heap.size < w7.heap.size := Nat.lt_of_lt_of_le hlhpp1_ hstep.size
  replace HOwr0_0 := Lib.hid (HOwr0_0.out.below hstep (fun _ _ hq => hq))
  replace HOxp1_1 := Lib.hid (HOxp1_1.out.below hstep (fun _ _ hq => hq))
  replace HBN := Lib.hid (HBN.out.trans (hstep.mono HBN.out.size))
  have hzw7 : w6.heap.size ≤ w7.heap.size := hstep.size
  have hxp1_0 : w7.cell? ⟨w6.heap.size, 0, none⟩ = some (.int .i64 p1_0) := by have := b.cell (p := ⟨w6.heap.size, 0, none⟩) (by first | (simp; done) | (simp; omega)); simpa [go_sem] using this
  have hxp1_1 : w7.cell? ⟨w6.heap.size, 1, none⟩ = some (.slice Axp1_1 p1_1.length cxp1_1) := by have := b.cell (p := ⟨w6.heap.size, 1, none⟩) (by first | (simp; done) | (simp; omega)); simpa [go_sem] using this
  have hlhxp1_ : w6.heap.size < w7.heap.size := by have := b.size; simp at this; omega
  have hlhxp1_q := hlhxp1_
  obtain ⟨SHOxp2_0, HSHOxp2_0, HOxp2_0⟩ : ∃ S : Nat → Prop, Hid (∀ k, S k → w6.heap.size + 1 ≤ k ∧ k < w7.heap.size) ∧ Hid (OwnR w7 S (.slice Axp2_0 p2_0.length cxp2_0) p2_0) := ⟨fun k => w6.heap.size + 1 ≤ k ∧ k < w7.heap.size, Lib.hid (fun k hk => hk), Lib.hid (oxp2_0.mono (fun k hk hk2 => ⟨by have hk3 := hk; (try simp at hk3); omega, hk2⟩))⟩
  clear b hstep oxp2_0
  go_wp2_with fail
  refine (HIM.out _ w7.heap.size _ _ ?_ ?_ ?_ ?_ hsp1_1 hsp2_0).mono ?_
  · exact (HT.out.below HBN.out).below (by repeat' (first | exact Below.refl _ _ | apply Below.drew | apply Below.setCell | apply Below.alloc | (simp; done) | omega | (simp; omega)))
  · exact (HOxp1_1.out.rd).below (B' := w7.heap.size) (by repeat' (first | exact Below.refl _ _ | apply Below.drew | apply Below.setCell | apply Below.alloc | (simp; done) | omega | (simp; omega))) (Nat.le_refl _)
  · exact (HOxp2_0.out.rd).below (B' := w7.heap.size) (by repeat' (first | exact Below.refl _ _ | apply Below.drew | apply Below.setCell | apply Below.alloc | (simp; done) | omega | (simp; omega))) (Nat.le_refl _)
  · (first | exact Nat.le_refl _ | (simp; done) | (simp; omega))
  rintro e w8 ⟨vgr0_0, rfl, b, ogr0_0⟩
  obtain ⟨Agr0_0, cgr0_0, rfl⟩ := ogr0_0.len
  have hstep : Below w7.heap.size w7 w8 := Below.trans (by repeat' (first | exact Below.refl _ _ | apply Below.drew | apply Below.setCell | apply Below.alloc | (simp; done) | omega | (simp; omega))) (b.mono (by (first | exact Nat.le_refl _ | (simp; done) | (simp; omega))))
  replace hpp1_0 := (hstep.cell (p := ⟨w.heap.size, 0, none⟩) hlhpp1_).trans hpp1_0
  replace hpp1_1 := (hstep.cell (p := ⟨w.heap.size, 1, none⟩) hlhpp1_).trans hpp1_1
  replace hlhpp1_ : w.heap.size < w8.heap.size := Nat.lt_of_lt_of_le hlhpp1_ hstep.size
  replace hxp1_0 := (hstep.cell (p := ⟨w6.heap.size, 0, none⟩) hlhxp1_).trans hxp1_0
  replace hxp1_1 := (hstep.cell (p := ⟨w6.heap.size, 1, none⟩) hlhxp1_).trans hxp1_1
  replace hlhxp1_ : w6.heap.size < w8.heap.size := Nat.lt_of_lt_of_le hlhxp1_ hstep.size
  replace HOwr0_0 := Lib.hid (HOwr0_0.out.below hstep (fun _ _ hq => hq))
  replace HOxp1_1 := Lib.hid (HOxp1_1.out.below hstep (fun _ _ hq => hq))
  replace HOxp2_0 := Lib.hid (HOxp2_0.out.below hstep (fun _ _ hq => hq))
  replace HBN := Lib.hid (HBN.out.trans (hstep.mono HBN.out.size))
  have hzw8 : w7.heap.size ≤ w8.heap.size := hstep.size
  obtain ⟨SHOgr0_0, HSHOgr0_0, HOgr0_0⟩ : ∃ S : Nat → Prop, Hid (∀ k, S k → w7.heap.size + 0 ≤ k ∧ k < w8.heap.size) ∧ Hid (OwnR w8 S (.slice Agr0_0 r0_0.length cgr0_0) r0_0) := ⟨fun k => w7.heap.size + 0 ≤ k ∧ k < w8.heap.size, Lib.hid (fun k hk => hk), Lib.hid (ogr0_0.mono (fun k hk hk2 => ⟨by have hk3 := hk; (try simp at hk3); omega, hk2⟩))⟩
  clear b hstep ogr0_0
  go_wp2_with fail
  refine (eqR_any _ w8.heap.size _ _ r0_0 ?_ ?_).mono ?_
  · exact (HOgr0_0.out.rd).below (B' := w8.heap.size) (by repeat' (first | exact Below.refl _ _ | apply Below.drew | apply Below.setCell | apply Below.alloc | (simp; done) | omega | (simp; omega))) (Nat.le_refl _)
  · exact (HOwr0_0.out.rd).below (B' := w8.heap.size) (by repeat' (first | exact Below.refl _ _ | apply Below.drew | apply Below.setCell | apply Below.alloc | (simp; done) | omega | (simp; omega))) (Nat.le_refl _)
  rintro e w9 ⟨rfl, b⟩
  have hstep : Below w8.heap.size w8 w9 := Below.trans (by repeat' (first | exact Below.refl _ _ | apply Below.drew | apply Below.setCell | apply Below.alloc | (simp; done) | omega | (simp; omega))) (b.mono (by (first | exact Nat.le_refl _ | (simp; done) | (simp; omega))))
  replace hpp1_0 := (hstep.cell (p := ⟨w.heap.size, 0, none⟩) hlhpp1_).trans hpp1_0
  replace hpp1_1 := (hstep.cell (p := ⟨w.heap.size, 1, none⟩) hlhpp1_).trans hpp1_1
  replace hlhpp1_ : w.heap.size < w9.heap.size := Nat.lt_of_lt_of_le hlhpp1_ hstep.size
  replace hxp1_0 := (hstep.cell (p := ⟨w6.heap.size, 0, none⟩) hlhxp1_).trans hxp1_0
  replace hxp1_1 := (hstep.cell (p := ⟨w6.heap.size, 1, none⟩) hlhxp1_).trans hxp1_1
  replace hlhxp1_ : w6.heap.size < w9.heap.size := Nat.lt_of_lt_of_le hlhxp1_ hstep.size
  replace HOwr0_0 := Lib.hid (HOwr0_0.out.below hstep (fun _ _ hq => hq))
  replace HOxp1_1 := Lib.hid (HOxp1_1.out.below hstep (fun _ _ hq => hq))
  replace HOxp2_0 := Lib.hid (HOxp2_0.out.below hstep (fun _ _ hq => hq))
  replace HOgr0_0 := Lib.hid (HOgr0_0.out.below hstep (fun _ _ hq => hq))
  replace HBN := Lib.hid (HBN.out.trans (hstep.mono HBN.out.size))
  have hzw9 : w8.heap.size ≤ w9.heap.size := hstep.size
  clear b hstep 
  have HD : Hid (Below w9.heap.size w9 w9.drew) := Lib.hid (Below.refl _ _).drew
  have HV61 := Lib.hid ((HVp1_1.out.below HBN.out (Nat.le_refl _)).mono HBN.out.size)
  have HG61 := Lib.hid (HOxp1_1.out.rd)
  have HELD : Hid (∀ w' : World, Hid (Below w9.heap.size w9 w') → w'.cell? ⟨w.heap.size, 0, none⟩ = some (.int .i64 p1_0) ∧ w'.cell? ⟨w.heap.size, 1, none⟩ = some (.slice Aup1_1 p1_1.length cup1_1) ∧ w'.cell? ⟨w6.heap.size, 0, none⟩ = some (.int .i64 p1_0) ∧ w'.cell? ⟨w6.heap.size, 1, none⟩ = some (.slice Axp1_1 p1_1.length cxp1_1) ∧ Hid (Below w9.heap.size w9 w')) := Lib.hid (fun w' H => ⟨(H.out.cell (p := ⟨w.heap.size, 0, none⟩) hlhpp1_).trans hpp1_0, (H.out.cell (p := ⟨w.heap.size, 1, none⟩) hlhpp1_).trans hpp1_1, (H.out.cell (p := ⟨w6.heap.size, 0, none⟩) hlhxp1_).trans hxp1_0, (H.out.cell (p := ⟨w6.heap.size, 1, none⟩) hlhxp1_).trans hxp1_1, H⟩)
  go_wp2_with fail
  go_region_held3 (fun w' => w'.cell? ⟨w.heap.size, 0, none⟩ = some (.int .i64 p1_0) ∧ w'.cell? ⟨w.heap.size, 1, none⟩ = some (.slice Aup1_1 p1_1.length cup1_1) ∧ w'.cell? ⟨w6.heap.size, 0, none⟩ = some (.int .i64 p1_0) ∧ w'.cell? ⟨w6.heap.size, 1, none⟩ = some (.slice Axp1_1 p1_1.length cxp1_1) ∧ Hid (Below w9.heap.size w9 w'))
    (exact HELD.out _ (by assumption))
    (first
      | (go_at_call 26; go_split_ands; refine (toMatrix_fr w9 _ (by assumption) p1_0 p1_1 _ HV61.out hsp1_1).mono ?_; rintro e wa ⟨vyp1_1, rfl, ba, bb, oyp1_1⟩)
      | (go_at_call 21; go_split_ands; refine (eqMatrix_fr w9 _ (by assumption) p1_0 p1_1 _ _ HG61.out (by assumption)).mono ?_; rintro e w10 ⟨rfl, bc⟩))
  have hstep := bc.out
  clear HD HELD HV61 HG61 oyp1_1 ba bb bc
  replace hpp1_0 := (hstep.cell (p := ⟨w.heap.size, 0, none⟩) hlhpp1_).trans hpp1_0
  replace hpp1_1 := (hstep.cell (p := ⟨w.heap.size, 1, none⟩) hlhpp1_).trans hpp1_1
  replace hlhpp1_ : w.heap.size < w10.heap.size := Nat.lt_of_lt_of_le hlhpp1_ hstep.size
  replace hxp1_0 := (hstep.cell (p := ⟨w6.heap.size, 0, none⟩) hlhxp1_).trans hxp1_0
  replace hxp1_1 := (hstep.cell (p := ⟨w6.heap.size, 1, none⟩) hlhxp1_).trans hxp1_1
  replace hlhxp1_ : w6.heap.size < w10.heap.size := Nat.lt_of_lt_of_le hlhxp1_ hstep.size
  replace HOwr0_0 := Lib.hid (HOwr0_0.out.below hstep (fun _ _ hq => hq))
  replace HOxp1_1 := Lib.hid (HOxp1_1.out.below hstep (fun _ _ hq => hq))
  replace HOxp2_0 := Lib.hid (HOxp2_0.out.below hstep (fun _ _ hq => hq))
  replace HOgr0_0 := Lib.hid (HOgr0_0.out.below hstep (fun _ _ hq => hq))
  replace HBN := Lib.hid (HBN.out.trans (hstep.mono HBN.out.size))
  have hzw10 : w9.heap.size ≤ w10.heap.size := hstep.size
  clear hstep
  go_wp2_with fail
  refine (toR_any _ w.heap.size _ p2_0 ?_ ?_ hsp2_0).mono ?_
  · exact (HVp2_0.out.below HBN.out (Nat.le_refl _)).below (B' := w10.heap.size) (by repeat' (first | exact Below.refl _ _ | apply Below.drew | apply Below.setCell | apply Below.alloc | (simp; done) | omega | (simp; omega))) HBN.out.size
  · (have := HBN.out.size; first | exact this | (simp; done) | (simp; omega))
  rintro e w11 ⟨vyp2_0, rfl, b, oyp2_0⟩
  obtain ⟨Ayp2_0, cyp2_0, rfl⟩ := oyp2_0.len
  have hstep : Below w10.heap.size w10 w11 := Below.trans (by repeat' (first | exact Below.refl _ _ | apply Below.drew | apply Below.setCell | apply Below.alloc | (simp; done) | omega | (simp; omega))) (b.mono (by (first | exact Nat.le_refl _ | (simp; done) | (simp; omega))))
  replace hpp1_0 := (hstep.cell (p := ⟨w.heap.size, 0, none⟩) hlhpp1_).trans hpp1_0
  replace hpp1_1 := (hstep.cell (p := ⟨w.heap.size, 1, none⟩) hlhpp1_).trans hpp1_1
  replace hlhpp1_ : w.heap.size < w11.heap.size := Nat.lt_of_lt_of_le hlhpp1_ hstep.size
  replace hxp1_0 := (hstep.cell (p := ⟨w6.heap.size, 0, none⟩) hlhxp1_).trans hxp1_0
  replace hxp1_1 := (hstep.cell (p := ⟨w6.heap.size, 1, none⟩) hlhxp1_).trans hxp1_1
  replace hlhxp1_ : w6.heap.size < w11.heap.size := Nat.lt_of_lt_of_le hlhxp1_ hstep.size
  replace HOwr0_0 := Lib.hid (HOwr0_0.out.below hstep (fun _ _ hq => hq))
  replace HOxp1_1 := Lib.hid (HOxp1_1.out.below hstep (fun _ _ hq => hq))
  replace HOxp2_0 := Lib.hid (HOxp2_0.out.below hstep (fun _ _ hq => hq))
  replace HOgr0_0 := Lib.hid (HOgr0_0.out.below hstep (fun _ _ hq => hq))
  replace HBN := Lib.hid (HBN.out.trans (hstep.mono HBN.out.size))
  have hzw11 : w10.heap.size ≤ w11.heap.size := hstep.size
  obtain ⟨SHOyp2_0, HSHOyp2_0, HOyp2_0⟩ : ∃ S : Nat → Prop, Hid (∀ k, S k → w10.heap.size + 0 ≤ k ∧ k < w11.heap.size) ∧ Hid (OwnR w11 S (.slice Ayp2_0 p2_0.length cyp2_0) p2_0) := ⟨fun k => w10.heap.size + 0 ≤ k ∧ k < w11.heap.size, Lib.hid (fun k hk => hk), Lib.hid (oyp2_0.mono (fun k hk hk2 => ⟨by have hk3 := hk; (try simp at hk3); omega, hk2⟩))⟩
  clear b hstep oyp2_0
  go_wp2_with fail
  refine (eqR_any _ w11.heap.size _ _ p2_0 (HOxp2_0.out.rd) (HOyp2_0.out.rd)).mono ?_
  rintro e w12 ⟨rfl, b⟩
  have hstep : Below w11.heap.size w11 w12 := Below.trans (by repeat' (first | exact Below.refl _ _ | apply Below.drew | apply Below.setCell | apply Below.alloc | (simp; done) | omega | (simp; omega))) (b.mono (by (first | exact Nat.le_refl _ | (simp; done) | (simp; omega))))
  replace hpp1_0 := (hstep.cell (p := ⟨w.heap.size, 0, none⟩) hlhpp1_).trans hpp1_0
  replace hpp1_1 := (hstep.cell (p := ⟨w.heap.size, 1, none⟩) hlhpp1_).trans hpp1_1
  replace hlhpp1_ : w.heap.size < w12.heap.size := Nat.lt_of_lt_of_le hlhpp1_ hstep.size
  replace hxp1_0 := (hstep.cell (p := ⟨w6.heap.size, 0, none⟩) hlhxp1_).trans hxp1_0
  replace hxp1_1 := (hstep.cell (p := ⟨w6.heap.size, 1, none⟩) hlhxp1_).trans hxp1_1
  replace hlhxp1_ : w6.heap.size < w12.heap.size := Nat.lt_of_lt_of_le hlhxp1_ hstep.size
  replace HOwr0_0 := Lib.hid (HOwr0_0.out.below hstep (fun _ _ hq => hq))
  replace HOxp1_1 := Lib.hid (HOxp1_1.out.below hstep (fun _ _ hq => hq))
  replace HOxp2_0 := Lib.hid (HOxp2_0.out.below hstep (fun _ _ hq => hq))
  replace HOgr0_0 := Lib.hid (HOgr0_0.out.below hstep (fun _ _ hq => hq))
  replace HOyp2_0 := Lib.hid (HOyp2_0.out.below hstep (fun _ _ hq => hq))
  replace HBN := Lib.hid (HBN.out.trans (hstep.mono HBN.out.size))
  have hzw12 : w11.heap.size ≤ w12.heap.size := hstep.size
  clear b hstep 
  clear HOyp2_0 HSHOyp2_0
  have := cntG_le p1_1
  go_wp2_with fail
  refine (markMatrix_ok _ p1_0 p1_1 _ SHOxp1_1 1 (HOxp1_1.out) (by omega) (by omega)).mono ?_
  rintro e w13 ⟨h2, t, om0⟩
  replace hpp1_0 := (t.cellAt (p := ⟨w.heap.size, 0, none⟩) hlhpp1_ (fun hk => by (first | (have := HSHOxp1_1.out _ hk; dsimp only at this; omega)))).trans hpp1_0
  replace hpp1_1 := (t.cellAt (p := ⟨w.heap.size, 1, none⟩) hlhpp1_ (fun hk => by (first | (have := HSHOxp1_1.out _ hk; dsimp only at this; omega)))).trans hpp1_1
  replace hxp1_0 := (t.cellAt (p := ⟨w6.heap.size, 0, none⟩) hlhxp1_ (fun hk => by (first | (have := HSHOxp1_1.out _ hk; dsimp only at this; omega)))).trans hxp1_0
  replace hxp1_1 := (t.cellAt (p := ⟨w6.heap.size, 1, none⟩) hlhxp1_ (fun hk => by (first | (have := HSHOxp1_1.out _ hk; dsimp only at this; omega)))).trans hxp1_1
  replace hlhpp1_ : w.heap.size < w13.heap.size := Nat.lt_of_lt_of_le hlhpp1_ t.size
  replace hlhxp1_ : w6.heap.size < w13.heap.size := Nat.lt_of_lt_of_le hlhxp1_ t.size
  replace HOwr0_0 := Lib.hid (HOwr0_0.out.blocks (w' := w13) (fun q hq hql => t.block q hql (fun hx => by (first | (have := HSHOxp1_1.out q hx; have := HSHOwr0_0.out q hq; omega)))))
  replace HOxp2_0 := Lib.hid (HOxp2_0.out.blocks (w' := w13) (fun q hq hql => t.block q hql (fun hx => by (first | (have := HSHOxp1_1.out q hx; have := HSHOxp2_0.out q hq; omega)))))
  replace HOgr0_0 := Lib.hid (HOgr0_0.out.blocks (w' := w13) (fun q hq hql => t.block q hql (fun hx => by (first | (have := HSHOxp1_1.out q hx; have := HSHOgr0_0.out q hq; omega)))))
  replace HBN := Lib.hid (HBN.out.trans (t.below HBN.out.size (fun k hk => by (first | (have := HSHOxp1_1.out k hk; have := HBN.out.size; omega)))))
  have hzw13 : w12.heap.size ≤ w13.heap.size := t.size
  replace HOxp1_1 := Lib.hid om0
  clear t om0
  obtain ⟨kp1_, hkp1_a, hkp1_b, rfl⟩ : ∃ z : Int, 0 ≤ z ∧ z ≤ 1 + 1048576 * 1 ∧ e = .returned (.int .i64 z) := ⟨_, by omega, by omega, h2⟩
  clear h2
  clear HOxp1_1 HSHOxp1_1
  have := cntR_le p2_0
  go_wp2_with fail
  refine (markedR_any _ SHOxp2_0 _ p2_0 kp1_ (HOxp2_0.out) (by omega) (by omega)).mono ?_
  rintro e w14 ⟨h2, t, om0⟩
  replace hpp1_0 := (t.cellAt (p := ⟨w.heap.size, 0, none⟩) hlhpp1_ (fun hk => by (first | (have := HSHOxp2_0.out _ hk; dsimp only at this; omega)))).trans hpp1_0
  replace hpp1_1 := (t.cellAt (p := ⟨w.heap.size, 1, none⟩) hlhpp1_ (fun hk => by (first | (have := HSHOxp2_0.out _ hk; dsimp only at this; omega)))).trans hpp1_1
  replace hxp1_0 := (t.cellAt (p := ⟨w6.heap.size, 0, none⟩) hlhxp1_ (fun hk => by (first | (have := HSHOxp2_0.out _ hk; dsimp only at this; omega)))).trans hxp1_0
  replace hxp1_1 := (t.cellAt (p := ⟨w6.heap.size, 1, none⟩) hlhxp1_ (fun hk => by (first | (have := HSHOxp2_0.out _ hk; dsimp only at this; omega)))).trans hxp1_1
  replace hlhpp1_ : w.heap.size < w14.heap.size := Nat.lt_of_lt_of_le hlhpp1_ t.size
  replace hlhxp1_ : w6.heap.size < w14.heap.size := Nat.lt_of_lt_of_le hlhxp1_ t.size
  replace HOwr0_0 := Lib.hid (HOwr0_0.out.blocks (w' := w14) (fun q hq hql => t.block q hql (fun hx => by (first | (have := HSHOxp2_0.out q hx; have := HSHOwr0_0.out q hq; omega)))))
  replace HOgr0_0 := Lib.hid (HOgr0_0.out.blocks (w' := w14) (fun q hq hql => t.block q hql (fun hx => by (first | (have := HSHOxp2_0.out q hx; have := HSHOgr0_0.out q hq; omega)))))
  replace HBN := Lib.hid (HBN.out.trans (t.below HBN.out.size (fun k hk => by (first | (have := HSHOxp2_0.out k hk; have := HBN.out.size; omega)))))
  have hzw14 : w13.heap.size ≤ w14.heap.size := t.size
  replace HOxp2_0 := Lib.hid om0
  clear t om0
  obtain ⟨kp2_, hkp2_a, hkp2_b, rfl⟩ : ∃ z : Int, 0 ≤ z ∧ z ≤ kp1_ + 1048576 * 1 ∧ e = .returned (.int .i64 z) := ⟨_, by omega, by omega, h2⟩
  clear h2
  clear HOxp2_0 HSHOxp2_0
  have hkneg : ¬ kp2_ < 0 := by omega
  go_wp2_with fail
  refine (eqR_any _ w14.heap.size _ _ r0_0 ?_ ?_).mono ?_
  · exact (HOgr0_0.out.rd).below (B' := w14.heap.size) (by repeat' (first | exact Below.refl _ _ | apply Below.drew | apply Below.setCell | apply Below.alloc | (simp; done) | omega | (simp; omega))) (Nat.le_refl _)
  · exact (HOwr0_0.out.rd).below (B' := w14.heap.size) (by repeat' (first | exact Below.refl _ _ | apply Below.drew | apply Below.setCell | apply Below.alloc | (simp; done) | omega | (simp; omega))) (Nat.le_refl _)
  rintro e w15 ⟨rfl, b⟩
  have hstep : Below w14.heap.size w14 w15 := Below.trans (by repeat' (first | exact Below.refl _ _ | apply Below.drew | apply Below.setCell | apply Below.alloc | (simp; done) | omega | (simp; omega))) (b.mono (by (first | exact Nat.le_refl _ | (simp; done) | (simp; omega))))
  replace hpp1_0 := (hstep.cell (p := ⟨w.heap.size, 0, none⟩) hlhpp1_).trans hpp1_0
  replace hpp1_1 := (hstep.cell (p := ⟨w.heap.size, 1, none⟩) hlhpp1_).trans hpp1_1
  replace hlhpp1_ : w.heap.size < w15.heap.size := Nat.lt_of_lt_of_le hlhpp1_ hstep.size
  replace hxp1_0 := (hstep.cell (p := ⟨w6.heap.size, 0, none⟩) hlhxp1_).trans hxp1_0
  replace hxp1_1 := (hstep.cell (p := ⟨w6.heap.size, 1, none⟩) hlhxp1_).trans hxp1_1
  replace hlhxp1_ : w6.heap.size < w15.heap.size := Nat.lt_of_lt_of_le hlhxp1_ hstep.size
  replace HOwr0_0 := Lib.hid (HOwr0_0.out.below hstep (fun _ _ hq => hq))
  replace HOgr0_0 := Lib.hid (HOgr0_0.out.below hstep (fun _ _ hq => hq))
  replace HBN := Lib.hid (HBN.out.trans (hstep.mono HBN.out.size))
  have hzw15 : w14.heap.size ≤ w15.heap.size := hstep.size
  clear b hstep 
  have hcbr0_0 : cntR r0_0 ≤ 1099511627776 := Nat.le_trans (cntR_le _) HOgr0_0.out.2
  go_wp2_with fail
  refine (markedR_any _ SHOgr0_0 _ r0_0 1 (HOgr0_0.out) (by omega) (by omega)).mono ?_
  rintro e w16 ⟨h2, t, om0⟩
  replace hpp1_0 := (t.cellAt (p := ⟨w.heap.size, 0, none⟩) hlhpp1_ (fun hk => by (first | (have := HSHOgr0_0.out _ hk; dsimp only at this; omega)))).trans hpp1_0
  replace hpp1_1 := (t.cellAt (p := ⟨w.heap.size, 1, none⟩) hlhpp1_ (fun hk => by (first | (have := HSHOgr0_0.out _ hk; dsimp only at this; omega)))).trans hpp1_1
  replace hxp1_0 := (t.cellAt (p := ⟨w6.heap.size, 0, none⟩) hlhxp1_ (fun hk => by (first | (have := HSHOgr0_0.out _ hk; dsimp only at this; omega)))).trans hxp1_0
  replace hxp1_1 := (t.cellAt (p := ⟨w6.heap.size, 1, none⟩) hlhxp1_ (fun hk => by (first | (have := HSHOgr0_0.out _ hk; dsimp only at this; omega)))).trans hxp1_1
  replace hlhpp1_ : w.heap.size < w16.heap.size := Nat.lt_of_lt_of_le hlhpp1_ t.size
  replace hlhxp1_ : w6.heap.size < w16.heap.size := Nat.lt_of_lt_of_le hlhxp1_ t.size
  replace HOwr0_0 := Lib.hid (HOwr0_0.out.blocks (w' := w16) (fun q hq hql => t.block q hql (fun hx => by (first | (have := HSHOgr0_0.out q hx; have := HSHOwr0_0.out q hq; omega)))))
  replace HBN := Lib.hid (HBN.out.trans (t.below HBN.out.size (fun k hk => by (first | (have := HSHOgr0_0.out k hk; have := HBN.out.size; omega)))))
  have hzw16 : w15.heap.size ≤ w16.heap.size := t.size
  replace HOgr0_0 := Lib.hid om0
  clear t om0
  obtain ⟨mr0_, HMr0_, hmr0_a, hmr0_b, rfl⟩ : ∃ z : Int, Hid (1 + ((cntR r0_0 : Nat) : Int) = z) ∧ 0 ≤ z ∧ z ≤ 1 + 1099511627776 * 1 ∧ e = .returned (.int .i64 z) := ⟨_, Lib.hid rfl, by omega, by omega, h2⟩
  clear h2
  have hmm : (mr0_ != mr0_) = false := by simp
  go_wp2_with fail
  refine (heldR_any _ w16.heap.size _ r0_0 1 ?_ (by omega) (by omega)).mono ?_
  · exact (HOgr0_0.out.rd).below (B' := w16.heap.size) (by repeat' (first | exact Below.refl _ _ | apply Below.drew | apply Below.setCell | apply Below.alloc | (simp; done) | omega | (simp; omega))) (Nat.le_refl _)
  rintro e w17 ⟨h2, b⟩
  have hstep : Below w16.heap.size w16 w17 := Below.trans (by repeat' (first | exact Below.refl _ _ | apply Below.drew | apply Below.setCell | apply Below.alloc | (simp; done) | omega | (simp; omega))) (b.mono (by (first | exact Nat.le_refl _ | (simp; done) | (simp; omega))))
  replace hpp1_0 := (hstep.cell (p := ⟨w.heap.size, 0, none⟩) hlhpp1_).trans hpp1_0
  replace hpp1_1 := (hstep.cell (p := ⟨w.heap.size, 1, none⟩) hlhpp1_).trans hpp1_1
  replace hlhpp1_ : w.heap.size < w17.heap.size := Nat.lt_of_lt_of_le hlhpp1_ hstep.size
  replace hxp1_0 := (hstep.cell (p := ⟨w6.heap.size, 0, none⟩) hlhxp1_).trans hxp1_0
  replace hxp1_1 := (hstep.cell (p := ⟨w6.heap.size, 1, none⟩) hlhxp1_).trans hxp1_1
  replace hlhxp1_ : w6.heap.size < w17.heap.size := Nat.lt_of_lt_of_le hlhxp1_ hstep.size
  replace HOwr0_0 := Lib.hid (HOwr0_0.out.below hstep (fun _ _ hq => hq))
  replace HOgr0_0 := Lib.hid (HOgr0_0.out.below hstep (fun _ _ hq => hq))
  replace HBN := Lib.hid (HBN.out.trans (hstep.mono HBN.out.size))
  have hzw17 : w16.heap.size ≤ w17.heap.size := hstep.size
  clear b hstep 
  rw [HMr0_.out] at h2
  subst h2
  have hmneg : ¬ mr0_ < 0 := by omega
  go_wp2_with fail
  refine (toMatrix_ok _ w.heap.size p1_0 p1_1 _ ?_ ?_ hsp1_1).mono ?_
  · exact (HVp1_1.out.below HBN.out (Nat.le_refl _)).below (B' := w17.heap.size) (by repeat' (first | exact Below.refl _ _ | apply Below.drew | apply Below.setCell | apply Below.alloc | (simp; done) | omega | (simp; omega))) HBN.out.size
  · (have := HBN.out.size; first | exact this | (simp; done) | (simp; omega))
  rintro e w18 ⟨vyp1_1, rfl, b, oyp1_1⟩
  obtain ⟨Ayp1_1, cyp1_1, rfl⟩ := oyp1_1.len
  have hstep : Below w17.heap.size w17 w18 := Below.trans (by repeat' (first | exact Below.refl _ _ | apply Below.drew | apply Below.setCell | apply Below.alloc | (simp; done) | omega | (simp; omega))) (b.mono (by (first | exact Nat.le_refl _ | (simp; done) | (simp; omega))))
  replace hpp1_0 := (hstep.cell (p := ⟨w.heap.size, 0, none⟩) hlhpp1_).trans hpp1_0
  replace hpp1_1 := (hstep.cell (p := ⟨w.heap.size, 1, none⟩) hlhpp1_).trans hpp1_1
  replace hlhpp1_ : w.heap.size < w18.heap.size := Nat.lt_of_lt_of_le hlhpp1_ hstep.size
  replace hxp1_0 := (hstep.cell (p := ⟨w6.heap.size, 0, none⟩) hlhxp1_).trans hxp1_0
  replace hxp1_1 := (hstep.cell (p := ⟨w6.heap.size, 1, none⟩) hlhxp1_).trans hxp1_1
  replace hlhxp1_ : w6.heap.size < w18.heap.size := Nat.lt_of_lt_of_le hlhxp1_ hstep.size
  replace HOwr0_0 := Lib.hid (HOwr0_0.out.below hstep (fun _ _ hq => hq))
  replace HOgr0_0 := Lib.hid (HOgr0_0.out.below hstep (fun _ _ hq => hq))
  replace HBN := Lib.hid (HBN.out.trans (hstep.mono HBN.out.size))
  have hzw18 : w17.heap.size ≤ w18.heap.size := hstep.size
  obtain ⟨SHOyp1_1, HSHOyp1_1, HOyp1_1⟩ : ∃ S : Nat → Prop, Hid (∀ k, S k → w17.heap.size + 0 ≤ k ∧ k < w18.heap.size) ∧ Hid (OwnG w18 S (.slice Ayp1_1 p1_1.length cyp1_1) p1_1) := ⟨fun k => w17.heap.size + 0 ≤ k ∧ k < w18.heap.size, Lib.hid (fun k hk => hk), Lib.hid (oyp1_1.mono (fun k hk hk2 => ⟨by have hk3 := hk; (try simp at hk3); omega, hk2⟩))⟩
  clear b hstep oyp1_1
  go_wp2_with fail
  refine (toR_any _ w.heap.size _ p2_0 ?_ ?_ hsp2_0).mono ?_
  · exact (HVp2_0.out.below HBN.out (Nat.le_refl _)).below (B' := w18.heap.size) (by repeat' (first | exact Below.refl _ _ | apply Below.drew | apply Below.setCell | apply Below.alloc | (simp; done) | omega | (simp; omega))) HBN.out.size
  · (have := HBN.out.size; first | exact this | (simp; done) | (simp; omega))
  rintro e w19 ⟨vyp2_0, rfl, b, oyp2_0⟩
  obtain ⟨Ayp2_0, cyp2_0, rfl⟩ := oyp2_0.len
  have hstep : Below w18.heap.size w18 w19 := Below.trans (by repeat' (first | exact Below.refl _ _ | apply Below.drew | apply Below.setCell | apply Below.alloc | (simp; done) | omega | (simp; omega))) (b.mono (by (first | exact Nat.le_refl _ | (simp; done) | (simp; omega))))
  replace hpp1_0 := (hstep.cell (p := ⟨w.heap.size, 0, none⟩) hlhpp1_).trans hpp1_0
  replace hpp1_1 := (hstep.cell (p := ⟨w.heap.size, 1, none⟩) hlhpp1_).trans hpp1_1
  replace hlhpp1_ : w.heap.size < w19.heap.size := Nat.lt_of_lt_of_le hlhpp1_ hstep.size
  replace hxp1_0 := (hstep.cell (p := ⟨w6.heap.size, 0, none⟩) hlhxp1_).trans hxp1_0
  replace hxp1_1 := (hstep.cell (p := ⟨w6.heap.size, 1, none⟩) hlhxp1_).trans hxp1_1
  replace hlhxp1_ : w6.heap.size < w19.heap.size := Nat.lt_of_lt_of_le hlhxp1_ hstep.size
  replace HOwr0_0 := Lib.hid (HOwr0_0.out.below hstep (fun _ _ hq => hq))
  replace HOgr0_0 := Lib.hid (HOgr0_0.out.below hstep (fun _ _ hq => hq))
  replace HOyp1_1 := Lib.hid (HOyp1_1.out.below hstep (fun _ _ hq => hq))
  replace HBN := Lib.hid (HBN.out.trans (hstep.mono HBN.out.size))
  have hzw19 : w18.heap.size ≤ w19.heap.size := hstep.size
  obtain ⟨SHOyp2_0, HSHOyp2_0, HOyp2_0⟩ : ∃ S : Nat → Prop, Hid (∀ k, S k → w18.heap.size + 0 ≤ k ∧ k < w19.heap.size) ∧ Hid (OwnR w19 S (.slice Ayp2_0 p2_0.length cyp2_0) p2_0) := ⟨fun k => w18.heap.size + 0 ≤ k ∧ k < w19.heap.size, Lib.hid (fun k hk => hk), Lib.hid (oyp2_0.mono (fun k hk hk2 => ⟨by have hk3 := hk; (try simp at hk3); omega, hk2⟩))⟩
  clear b hstep oyp2_0
  go_wp2_with fail
  refine (HIM.out _ w19.heap.size _ _ ?_ ?_ ?_ ?_ hsp1_1 hsp2_0).mono ?_
  · exact (HT.out.below HBN.out).below (by repeat' (first | exact Below.refl _ _ | apply Below.drew | apply Below.setCell | apply Below.alloc | (simp; done) | omega | (simp; omega)))
  · exact (HOyp1_1.out.rd).below (B' := w19.heap.size) (by repeat' (first | exact Below.refl _ _ | apply Below.drew | apply Below.setCell | apply Below.alloc | (simp; done) | omega | (simp; omega))) (Nat.le_refl _)
  · exact (HOyp2_0.out.rd).below (B' := w19.heap.size) (by repeat' (first | exact Below.refl _ _ | apply Below.drew | apply Below.setCell | apply Below.alloc | (simp; done) | omega | (simp; omega))) (Nat.le_refl _)
  · (first | exact Nat.le_refl _ | (simp; done) | (simp; omega))
  rintro e w20 ⟨vhr0_0, rfl, b, ohr0_0⟩
  obtain ⟨Ahr0_0, chr0_0, rfl⟩ := ohr0_0.len
  have hstep : Below w19.heap.size w19 w20 := Below.trans (by repeat' (first | exact Below.refl _ _ | apply Below.drew | apply Below.setCell | apply Below.alloc | (simp; done) | omega | (simp; omega))) (b.mono (by (first | exact Nat.le_refl _ | (simp; done) | (simp; omega))))
  replace hpp1_0 := (hstep.cell (p := ⟨w.heap.size, 0, none⟩) hlhpp1_).trans hpp1_0
  replace hpp1_1 := (hstep.cell (p := ⟨w.heap.size, 1, none⟩) hlhpp1_).trans hpp1_1
  replace hlhpp1_ : w.heap.size < w20.heap.size := Nat.lt_of_lt_of_le hlhpp1_ hstep.size
  replace hxp1_0 := (hstep.cell (p := ⟨w6.heap.size, 0, none⟩) hlhxp1_).trans hxp1_0
  replace hxp1_1 := (hstep.cell (p := ⟨w6.heap.size, 1, none⟩) hlhxp1_).trans hxp1_1
  replace hlhxp1_ : w6.heap.size < w20.heap.size := Nat.lt_of_lt_of_le hlhxp1_ hstep.size
  replace HOwr0_0 := Lib.hid (HOwr0_0.out.below hstep (fun _ _ hq => hq))
  replace HOgr0_0 := Lib.hid (HOgr0_0.out.below hstep (fun _ _ hq => hq))
  replace HOyp1_1 := Lib.hid (HOyp1_1.out.below hstep (fun _ _ hq => hq))
  replace HOyp2_0 := Lib.hid (HOyp2_0.out.below hstep (fun _ _ hq => hq))
  replace HBN := Lib.hid (HBN.out.trans (hstep.mono HBN.out.size))
  have hzw20 : w19.heap.size ≤ w20.heap.size := hstep.size
  obtain ⟨SHOhr0_0, HSHOhr0_0, HOhr0_0⟩ : ∃ S : Nat → Prop, Hid (∀ k, S k → w19.heap.size + 0 ≤ k ∧ k < w20.heap.size) ∧ Hid (OwnR w20 S (.slice Ahr0_0 r0_0.length chr0_0) r0_0) := ⟨fun k => w19.heap.size + 0 ≤ k ∧ k < w20.heap.size, Lib.hid (fun k hk => hk), Lib.hid (ohr0_0.mono (fun k hk hk2 => ⟨by have hk3 := hk; (try simp at hk3); omega, hk2⟩))⟩
  clear b hstep ohr0_0
  clear HOyp1_1 HSHOyp1_1
  clear HOyp2_0 HSHOyp2_0
  go_wp2_with fail
  refine (eqR_any _ w20.heap.size _ _ r0_0 ?_ ?_).mono ?_
  · exact (HOhr0_0.out.rd).below (B' := w20.heap.size) (by repeat' (first | exact Below.refl _ _ | apply Below.drew | apply Below.setCell | apply Below.alloc | (simp; done) | omega | (simp; omega))) (Nat.le_refl _)
  · exact (HOwr0_0.out.rd).below (B' := w20.heap.size) (by repeat' (first | exact Below.refl _ _ | apply Below.drew | apply Below.setCell | apply Below.alloc | (simp; done) | omega | (simp; omega))) (Nat.le_refl _)
  rintro e w21 ⟨rfl, b⟩
  have hstep : Below w20.heap.size w20 w21 := Below.trans (by repeat' (first | exact Below.refl _ _ | apply Below.drew | apply Below.setCell | apply Below.alloc | (simp; done) | omega | (simp; omega))) (b.mono (by (first | exact Nat.le_refl _ | (simp; done) | (simp; omega))))
  replace hpp1_0 := (hstep.cell (p := ⟨w.heap.size, 0, none⟩) hlhpp1_).trans hpp1_0
  replace hpp1_1 := (hstep.cell (p := ⟨w.heap.size, 1, none⟩) hlhpp1_).trans hpp1_1
  replace hlhpp1_ : w.heap.size < w21.heap.size := Nat.lt_of_lt_of_le hlhpp1_ hstep.size
  replace hxp1_0 := (hstep.cell (p := ⟨w6.heap.size, 0, none⟩) hlhxp1_).trans hxp1_0
  replace hxp1_1 := (hstep.cell (p := ⟨w6.heap.size, 1, none⟩) hlhxp1_).trans hxp1_1
  replace hlhxp1_ : w6.heap.size < w21.heap.size := Nat.lt_of_lt_of_le hlhxp1_ hstep.size
  replace HOwr0_0 := Lib.hid (HOwr0_0.out.below hstep (fun _ _ hq => hq))
  replace HOgr0_0 := Lib.hid (HOgr0_0.out.below hstep (fun _ _ hq => hq))
  replace HOhr0_0 := Lib.hid (HOhr0_0.out.below hstep (fun _ _ hq => hq))
  replace HBN := Lib.hid (HBN.out.trans (hstep.mono HBN.out.size))
  have hzw21 : w20.heap.size ≤ w21.heap.size := hstep.size
  clear b hstep 
  go_wp2_with fail
  refine (heldR_any _ w21.heap.size _ r0_0 1 ?_ (by omega) (by omega)).mono ?_
  · exact (HOgr0_0.out.rd).below (B' := w21.heap.size) (by repeat' (first | exact Below.refl _ _ | apply Below.drew | apply Below.setCell | apply Below.alloc | (simp; done) | omega | (simp; omega))) (Nat.le_refl _)
  rintro e w22 ⟨h2, b⟩
  have hstep : Below w21.heap.size w21 w22 := Below.trans (by repeat' (first | exact Below.refl _ _ | apply Below.drew | apply Below.setCell | apply Below.alloc | (simp; done) | omega | (simp; omega))) (b.mono (by (first | exact Nat.le_refl _ | (simp; done) | (simp; omega))))
  replace hpp1_0 := (hstep.cell (p := ⟨w.heap.size, 0, none⟩) hlhpp1_).trans hpp1_0
  replace hpp1_1 := (hstep.cell (p := ⟨w.heap.size, 1, none⟩) hlhpp1_).trans hpp1_1
  replace hlhpp1_ : w.heap.size < w22.heap.size := Nat.lt_of_lt_of_le hlhpp1_ hstep.size
  replace hxp1_0 := (hstep.cell (p := ⟨w6.heap.size, 0, none⟩) hlhxp1_).trans hxp1_0
  replace hxp1_1 := (hstep.cell (p := ⟨w6.heap.size, 1, none⟩) hlhxp1_).trans hxp1_1
  replace hlhxp1_ : w6.heap.size < w22.heap.size := Nat.lt_of_lt_of_le hlhxp1_ hstep.size
  replace HOwr0_0 := Lib.hid (HOwr0_0.out.below hstep (fun _ _ hq => hq))
  replace HOgr0_0 := Lib.hid (HOgr0_0.out.below hstep (fun _ _ hq => hq))
  replace HOhr0_0 := Lib.hid (HOhr0_0.out.below hstep (fun _ _ hq => hq))
  replace HBN := Lib.hid (HBN.out.trans (hstep.mono HBN.out.size))
  have hzw22 : w21.heap.size ≤ w22.heap.size := hstep.size
  clear b hstep 
  rw [HMr0_.out] at h2
  subst h2
  have hmneg : ¬ mr0_ < 0 := by omega
  go_wp2
  go_ret
  exact ⟨rfl, HBN.out⟩
end Go.Proofs.YtiiloioobmkicaaDoor
