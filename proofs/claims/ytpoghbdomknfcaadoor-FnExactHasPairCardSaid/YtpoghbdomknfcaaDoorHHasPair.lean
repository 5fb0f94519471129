/- The harness of the law FnExactHasPair: it returns true if both functions return what they should. -/
import Derived.Test.YtpoghbdomknfcaaDoorTRelation
import Derived.Test.YtpoghbdomknfcaaDoorRetBB
import Derived.Test.YtpoghbdomknfcaaDoorFdWalks
import Derived.Deep.Cut
import Derived.Deep.QuietTactic
namespace Go.Proofs.YtpoghbdomknfcaaDoor
set_option maxRecDepth 100000
open Go Go.RowKit Go.Deep

set_option maxHeartbeats 6400000 in
set_option maxRecDepth 100000 in
theorem harness_HasPair (p0_0 : Int) (p1_0 : Int) (p1_1 : Int) (p1_2 : List (List Int)) (p2_0 : List Int) (p3_0 : List Int) (up1_2 : Value) (up2_0 : Value) (up3_0 : Value) (w : World) (r0_0 : Bool) (r1_0 : Bool) (ht : Tab w) (hvp1_2 : LfG w w.heap.size up1_2 p1_2) (hvp2_0 : LfR w w.heap.size up2_0 p2_0) (hvp3_0 : LfR w w.heap.size up3_0 p3_0) 
    (hspec : ∀ (w : World) (B : Nat) (vp1_2 : Value) (vp2_0 : Value) (vp3_0 : Value) , LfG w B vp1_2 p1_2 → LfR w B vp2_0 p2_0 → LfR w B vp3_0 p3_0 → B ≤ w.heap.size → szG p1_2 ≤ 1048576 → szR p2_0 ≤ 1048576 → szR p3_0 ≤ 1048576 → Calls Tryd.prog 43 #[.int .i64 p0_0, .agg #[.int .i64 p1_0, .int .i64 p1_1, vp1_2], vp2_0, vp3_0] w (SRetBB w r0_0 r1_0))
    (himpl : ∀ (w : World) (B : Nat) (vp1_2 : Value) (vp2_0 : Value) (vp3_0 : Value) , Tab w → LfG w B vp1_2 p1_2 → LfR w B vp2_0 p2_0 → LfR w B vp3_0 p3_0 → B ≤ w.heap.size → szG p1_2 ≤ 1048576 → szR p2_0 ≤ 1048576 → szR p3_0 ≤ 1048576 → Calls Tryd.prog 44 #[.int .i64 p0_0, .agg #[.int .i64 p1_0, .int .i64 p1_1, vp1_2], vp2_0, vp3_0] w (IRetBB w r0_0 r1_0)) :
    Calls Tryd.prog 9 #[.int .i64 p0_0, .agg #[.int .i64 p1_0, .int .i64 p1_1, up1_2], up2_0, up3_0] w fun e w' => e = .returned (.bool true) ∧ Below w.heap.size w w' := by
  have HBN := Lib.hid (Below.refl w.heap.size w)
  have HT := Lib.hid ht
  have HSP := Lib.hid hspec
  have HIM := Lib.hid himpl
  clear ht hspec himpl
  obtain ⟨Aup1_2, cup1_2, rfl⟩ := hvp1_2.len
  have HVp1_2 := Lib.hid hvp1_2
  clear hvp1_2
  obtain ⟨Aup2_0, cup2_0, rfl⟩ := hvp2_0.len
  have HVp2_0 := Lib.hid hvp2_0
  clear hvp2_0
  obtain ⟨Aup3_0, cup3_0, rfl⟩ := hvp3_0.len
  have HVp3_0 := Lib.hid hvp3_0
  clear hvp3_0
  have hbbr0_0 : (r0_0 != r0_0) = false := by simp
  have hbbr1_0 : (r1_0 != r1_0) = false := by simp
  go_enter Tryd.func9, Tryd.ntmps9
  by_cases hbig : (1048576 : Int) < p2_0.length
  · go_wp2
    go_ret
    exact ⟨rfl, by repeat' (first | exact Below.refl _ _ | apply Below.drew | apply Below.setCell | apply Below.alloc | (simp; done) | omega | (simp; omega))⟩
  have hsp2_0 : szR p2_0 ≤ 1048576 := by unfold szR; omega
  have hbp2_0 : (p2_0.length : Int) ≤ 1048576 := by omega
  clear hbig
  by_cases hbig : (1048576 : Int) < p3_0.length
  · go_wp2
    go_ret
    exact ⟨rfl, by repeat' (first | exact Below.refl _ _ | apply Below.drew | apply Below.setCell | apply Below.alloc | (simp; done) | omega | (simp; omega))⟩
  have hsp3_0 : szR p3_0 ≤ 1048576 := by unfold szR; omega
  have hbp3_0 : (p3_0.length : Int) ≤ 1048576 := by omega
  clear hbig
  go_wp2_with fail
  refine (szRelation_ok _ w.heap.size p1_0 p1_1 p1_2 _ 1048576 ?_ ?_ (by omega) (by omega)).mono ?_
  · exact (HVp1_2.out.below HBN.out (Nat.le_refl _)).below (B' := w.heap.size) (by repeat' (first | exact Below.refl _ _ | apply Below.drew | apply Below.setCell | apply Below.alloc | (simp; done) | omega | (simp; omega))) HBN.out.size
  · (have := HBN.out.size; first | exact this | (simp; done) | (simp; omega))
  rintro e w2 ⟨b, h2⟩
  have hstep : Below w.heap.size w w2 := Below.trans (by repeat' (first | exact Below.refl _ _ | apply Below.drew | apply Below.setCell | apply Below.alloc | (simp; done) | omega | (simp; omega))) (b.mono (by (first | exact Nat.le_refl _ | (simp; done) | (simp; omega))))
  replace HBN := Lib.hid (HBN.out.trans (hstep.mono HBN.out.size))
  have hzw2 : w.heap.size ≤ w2.heap.size := hstep.size
  have hpp1_0 : w2.cell? ⟨w.heap.size, 0, none⟩ = some (.int .i64 p1_0) := by have := b.cell (p := ⟨w.heap.size, 0, none⟩) (by first | (simp; done) | (simp; omega)); simpa [go_sem] using this
  have hpp1_1 : w2.cell? ⟨w.heap.size, 1, none⟩ = some (.int .i64 p1_1) := by have := b.cell (p := ⟨w.heap.size, 1, none⟩) (by first | (simp; done) | (simp; omega)); simpa [go_sem] using this
  have hpp1_2 : w2.cell? ⟨w.heap.size, 2, none⟩ = some (.slice Aup1_2 p1_2.length cup1_2) := by have := b.cell (p := ⟨w.heap.size, 2, none⟩) (by first | (simp; done) | (simp; omega)); simpa [go_sem] using this
  have hlhpp1_ : w.heap.size < w2.heap.size := by have := b.size; simp at this; omega
  have hlhpp1_q := hlhpp1_
  clear b hstep 
  rcases h2 with rfl | ⟨hle, h2⟩
  · go_wp2
    go_ret
    exact ⟨rfl, HBN.out⟩
  obtain ⟨zp1_, hzp1_a, hzp1_b, rfl⟩ : ∃ z : Int, 0 ≤ z ∧ z ≤ 1048576 ∧ e = .returned (.int .i64 z) := ⟨_, by omega, by omega, h2⟩
  have hsp1_2 : szG p1_2 ≤ 1048576 := by omega
  clear h2 hle
  go_wp2_with fail
  refine (toRelation_ok _ w.heap.size p1_0 p1_1 p1_2 _ ?_ ?_ hsp1_2).mono ?_
  · exact (HVp1_2.out.below HBN.out (Nat.le_refl _)).below (B' := w2.heap.size) (by repeat' (first | exact Below.refl _ _ | apply Below.drew | apply Below.setCell | apply Below.alloc | (simp; done) | omega | (simp; omega))) HBN.out.size
  · (have := HBN.out.size; first | exact this | (simp; done) | (simp; omega))
  rintro e w3 ⟨vap1_2, rfl, b, oap1_2⟩
  obtain ⟨Aap1_2, cap1_2, rfl⟩ := oap1_2.len
  have hstep : Below w2.heap.size w2 w3 := Below.trans (by repeat' (first | exact Below.refl _ _ | apply Below.drew | apply Below.setCell | apply Below.alloc | (simp; done) | omega | (simp; omega))) (b.mono (by (first | exact Nat.le_refl _ | (simp; done) | (simp; omega))))
  replace hpp1_0 := (hstep.cell (p := ⟨w.heap.size, 0, none⟩) hlhpp1_).trans hpp1_0
  replace hpp1_1 := (hstep.cell (p := ⟨w.heap.size, 1, none⟩) hlhpp1_).trans hpp1_1
  replace hpp1_2 := (hstep.cell (p := ⟨w.heap.size, 2, none⟩) hlhpp1_).trans hpp1_2
  replace hlhpp1_ : w.heap.size < w3.heap.size := Nat.lt_of_lt_of_le hlhpp1_ hstep.size
  replace HBN := Lib.hid (HBN.out.trans (hstep.mono HBN.out.size))
  have hzw3 : w2.heap.size ≤ w3.heap.size := hstep.size
  obtain ⟨SHOap1_2, HSHOap1_2, HOap1_2⟩ : ∃ S : Nat → Prop, Hid (∀ k, S k → w2.heap.size + 0 ≤ k ∧ k < w3.heap.size) ∧ Hid (OwnG w3 S (.slice Aap1_2 p1_2.length cap1_2) p1_2) := ⟨fun k => w2.heap.size + 0 ≤ k ∧ k < w3.heap.size, Lib.hid (fun k hk => hk), Lib.hid (oap1_2.mono (fun k hk hk2 => ⟨by have hk3 := hk; (try simp at hk3); omega, hk2⟩))⟩
  clear b hstep oap1_2
  go_wp2_with fail
  refine (toR_any _ w.heap.size _ p2_0 ?_ ?_ hsp2_0).mono ?_
  · exact (HVp2_0.out.below HBN.out (Nat.le_refl _)).below (B' := w3.heap.size) (by repeat' (first | exact Below.refl _ _ | apply Below.drew | apply Below.setCell | apply Below.alloc | (simp; done) | omega | (simp; omega))) HBN.out.size
  · (have := HBN.out.size; first | exact this | (simp; done) | (simp; omega))
  rintro e w4 ⟨vap2_0, rfl, b, oap2_0⟩
  obtain ⟨Aap2_0, cap2_0, rfl⟩ := oap2_0.len
  have hstep : Below w3.heap.size w3 w4 := Below.trans (by repeat' (first | exact Below.refl _ _ | apply Below.drew | apply Below.setCell | apply Below.alloc | (simp; done) | omega | (simp; omega))) (b.mono (by (first | exact Nat.le_refl _ | (simp; done) | (simp; omega))))
  replace hpp1_0 := (hstep.cell (p := ⟨w.heap.size, 0, none⟩) hlhpp1_).trans hpp1_0
  replace hpp1_1 := (hstep.cell (p := ⟨w.heap.size, 1, none⟩) hlhpp1_).trans hpp1_1
  replace hpp1_2 := (hstep.cell (p := ⟨w.heap.size, 2, none⟩) hlhpp1_).trans hpp1_2
  replace hlhpp1_ : w.heap.size < w4.heap.size := Nat.lt_of_lt_of_le hlhpp1_ hstep.size
  replace HOap1_2 := Lib.hid (HOap1_2.out.below hstep (fun _ _ hq => hq))
  replace HBN := Lib.hid (HBN.out.trans (hstep.mono HBN.out.size))
  have hzw4 : w3.heap.size ≤ w4.heap.size := hstep.size
  obtain ⟨SHOap2_0, HSHOap2_0, HOap2_0⟩ : ∃ S : Nat → Prop, Hid (∀ k, S k → w3.heap.size + 0 ≤ k ∧ k < w4.heap.size) ∧ Hid (OwnR w4 S (.slice Aap2_0 p2_0.length cap2_0) p2_0) := ⟨fun k => w3.heap.size + 0 ≤ k ∧ k < w4.heap.size, Lib.hid (fun k hk => hk), Lib.hid (oap2_0.mono (fun k hk hk2 => ⟨by have hk3 := hk; (try simp at hk3); omega, hk2⟩))⟩
  clear b hstep oap2_0
  go_wp2_with fail
  refine (toR_any _ w.heap.size _ p3_0 ?_ ?_ hsp3_0).mono ?_
  · exact (HVp3_0.out.below HBN.out (Nat.le_refl _)).below (B' := w4.heap.size) (by repeat' (first | exact Below.refl _ _ | apply Below.drew | apply Below.setCell | apply Below.alloc | (simp; done) | omega | (simp; omega))) HBN.out.size
  · (have := HBN.out.size; first | exact this | (simp; done) | (simp; omega))
  rintro e w5 ⟨vap3_0, rfl, b, oap3_0⟩
  obtain ⟨Aap3_0, cap3_0, rfl⟩ := oap3_0.len
  have hstep : Below w4.heap.size w4 w5 := Below.trans (by repeat' (first | exact Below.refl _ _ | apply Below.drew | apply Below.setCell | apply Below.alloc | (simp; done) | omega | (simp; omega))) (b.mono (by (first | exact Nat.le_refl _ | (simp; done) | (simp; omega))))
  replace hpp1_0 := (hstep.cell (p := ⟨w.heap.size, 0, none⟩) hlhpp1_).trans hpp1_0
  replace hpp1_1 := (hstep.cell (p := ⟨w.heap.size, 1, none⟩) hlhpp1_).trans hpp1_1
  replace hpp1_2 := (hstep.cell (p := ⟨w.heap.size, 2, none⟩) hlhpp1_).trans hpp1_2
  replace hlhpp1_ : w.heap.size < w5.heap.size := Nat.lt_of_lt_of_le hlhpp1_ hstep.size
  replace HOap1_2 := Lib.hid (HOap1_2.out.below hstep (fun _ _ hq => hq))
  replace HOap2_0 := Lib.hid (HOap2_0.out.below hstep (fun _ _ hq => hq))
  replace HBN := Lib.hid (HBN.out.trans (hstep.mono HBN.out.size))
  have hzw5 : w4.heap.size ≤ w5.heap.size := hstep.size
  obtain ⟨SHOap3_0, HSHOap3_0, HOap3_0⟩ : ∃ S : Nat → Prop, Hid (∀ k, S k → w4.heap.size + 0 ≤ k ∧ k < w5.heap.size) ∧ Hid (OwnR w5 S (.slice Aap3_0 p3_0.length cap3_0) p3_0) := ⟨fun k => w4.heap.size + 0 ≤ k ∧ k < w5.heap.size, Lib.hid (fun k hk => hk), Lib.hid (oap3_0.mono (fun k hk hk2 => ⟨by have hk3 := hk; (try simp at hk3); omega, hk2⟩))⟩
  clear b hstep oap3_0
  go_wp2_with fail
  refine (HSP.out _ w5.heap.size _ _ _ ?_ ?_ ?_ ?_ hsp1_2 hsp2_0 hsp3_0).mono ?_
  · exact (HOap1_2.out.rd).below (B' := w5.heap.size) (by repeat' (first | exact Below.refl _ _ | apply Below.drew | apply Below.setCell | apply Below.alloc | (simp; done) | omega | (simp; omega))) (Nat.le_refl _)
  · exact (HOap2_0.out.rd).below (B' := w5.heap.size) (by repeat' (first | exact Below.refl _ _ | apply Below.drew | apply Below.setCell | apply Below.alloc | (simp; done) | omega | (simp; omega))) (Nat.le_refl _)
  · exact (HOap3_0.out.rd).below (B' := w5.heap.size) (by repeat' (first | exact Below.refl _ _ | apply Below.drew | apply Below.setCell | apply Below.alloc | (simp; done) | omega | (simp; omega))) (Nat.le_refl _)
  · (first | exact Nat.le_refl _ | (simp; done) | (simp; omega))
  rintro e w6 ⟨rfl, b⟩
  have hstep : Below w5.heap.size w5 w6 := Below.trans (by repeat' (first | exact Below.refl _ _ | apply Below.drew | apply Below.setCell | apply Below.alloc | (simp; done) | omega | (simp; omega))) (b.mono (by (first | exact Nat.le_refl _ | (simp; done) | (simp; omega))))
  replace hpp1_0 := (hstep.cell (p := ⟨w.heap.size, 0, none⟩) hlhpp1_).trans hpp1_0
  replace hpp1_1 := (hstep.cell (p := ⟨w.heap.size, 1, none⟩) hlhpp1_).trans hpp1_1
  replace hpp1_2 := (hstep.cell (p := ⟨w.heap.size, 2, none⟩) hlhpp1_).trans hpp1_2
  replace hlhpp1_ : w.heap.size < w6.heap.size := Nat.lt_of_lt_of_le hlhpp1_ hstep.size
  replace HOap1_2 := Lib.hid (HOap1_2.out.below hstep (fun _ _ hq => hq))
  replace HOap2_0 := Lib.hid (HOap2_0.out.below hstep (fun _ _ hq => hq))
  replace HOap3_0 := Lib.hid (HOap3_0.out.below hstep (fun _ _ hq => hq))
  replace HBN := Lib.hid (HBN.out.trans (hstep.mono HBN.out.size))
  have hzw6 : w5.heap.size ≤ w6.heap.size := hstep.size
  clear b hstep 
  clear HOap1_2 HSHOap1_2
  clear HOap2_0 HSHOap2_0
  clear HOap3_0 HSHOap3_0
  go_wp2_with fail
  refine (toRelation_ok _ w.heap.size p1_0 p1_1 p1_2 _ ?_ ?_ hsp1_2).mono ?_
  · exact (HVp1_2.out.below HBN.out (Nat.le_refl _)).below (B' := w6.heap.size) (by repeat' (first | exact Below.refl _ _ | apply Below.drew | apply Below.setCell | apply Below.alloc | (simp; done) | omega | (simp; omega))) HBN.out.size
  · (have := HBN.out.size; first | exact this | (simp; done) | (simp; omega))
  rintro e w7 ⟨vxp1_2, rfl, b, oxp1_2⟩
  obtain ⟨Axp1_2, cxp1_2, rfl⟩ := oxp1_2.len
  have hstep : Below w6.heap.size w6 w7 := Below.trans (by repeat' (first | exact Below.refl _ _ | apply Below.drew | apply Below.setCell | apply Below.alloc | (simp; done) | omega | (simp; omega))) (b.mono (by (first | exact Nat.le_refl _ | (simp; done) | (simp; omega))))
  replace hpp1_0 := (hstep.cell (p := ⟨w.heap.size, 0, none⟩) hlhpp1_).trans hpp1_0
  replace hpp1_1 := (hstep.cell (p := ⟨w.heap.size, 1, none⟩) hlhpp1_).trans hpp1_1
  replace hpp1_2 := (hstep.cell (p := ⟨w.heap.size, 2, none⟩) hlhpp1_).trans hpp1_2
  replace hlhpp1_ : w.heap.size < w7.heap.size := Nat.lt_of_lt_of_le hlhpp1_ hstep.size
  replace HBN := Lib.hid (HBN.out.trans (hstep.mono HBN.out.size))
  have hzw7 : w6.heap.size ≤ w7.heap.size := hstep.size
  obtain ⟨SHOxp1_2, HSHOxp1_2, HOxp1_2⟩ : ∃ S : Nat → Prop, Hid (∀ k, S k → w6.heap.size + 0 ≤ k ∧ k < w7.heap.size) ∧ Hid (OwnG w7 S (.slice Axp1_2 p1_2.length cxp1_2) p1_2) := ⟨fun k => w6.heap.size + 0 ≤ k ∧ k < w7.heap.size, Lib.hid (fun k hk => hk), Lib.hid (oxp1_2.mono (fun k hk hk2 => ⟨by have hk3 := hk; (try simp at hk3); omega, hk2⟩))⟩
  clear b hstep oxp1_2
  go_wp2_with fail
  refine (toR_any _ w.heap.size _ p2_0 ?_ ?_ hsp2_0).mono ?_
  · exact (HVp2_0.out.below HBN.out (Nat.le_refl _)).below (B' := w7.heap.size) (by repeat' (first | exact Below.refl _ _ | apply Below.drew | apply Below.setCell | apply Below.alloc | (simp; done) | omega | (simp; omega))) HBN.out.size
  · (have := HBN.out.size; first | exact this | (simp; done) | (simp; omega))
  rintro e w8 ⟨vxp2_0, rfl, b, oxp2_0⟩
  obtain ⟨Axp2_0, cxp2_0, rfl⟩ := oxp2_0.len
  have hstep : Below w7.heap.size w7 w8 := Below.trans (by repeat' (first | exact Below.refl _ _ | apply Below.drew | apply Below.setCell | apply Below.alloc | (simp; done) | omega | (simp; omega))) (b.mono (by (first | exact Nat.le_refl _ | (simp; done) | (simp; omega))))
  replace hpp1_0 := (hstep.cell (p := ⟨w.heap.size, 0, none⟩) hlhpp1_).trans hpp1_0
  replace hpp1_1 := (hstep.cell (p := ⟨w.heap.size, 1, none⟩) hlhpp1_).trans hpp1_1
  replace hpp1_2 := (hstep.cell (p := ⟨w.heap.size, 2, none⟩) hlhpp1_).trans hpp1_2
  replace hlhpp1_ : w.heap.size < w8.heap.size := Nat.lt_of_lt_of_le hlhpp1_ hstep.size
  replace HOxp1_2 := Lib.hid (HOxp1_2.out.below hstep (fun _ _ hq => hq))
  replace HBN := Lib.hid (HBN.out.trans (hstep.mono HBN.out.size))
  have hzw8 : w7.heap.size ≤ w8.heap.size := hstep.size
  have hxp1_0 : w8.cell? ⟨w7.heap.size, 0, none⟩ = some (.int .i64 p1_0) := by have := b.cell (p := ⟨w7.heap.size, 0, none⟩) (by first | (simp; done) | (simp; omega)); simpa [go_sem] using this
  have hxp1_1 : w8.cell? ⟨w7.heap.size, 1, none⟩ = some (.int .i64 p1_1) := by have := b.cell (p := ⟨w7.heap.size, 1, none⟩) (by first | (simp; done) | (simp; omega)); simpa [go_sem] using this
  have hxp1_2 : w8.cell? ⟨w7.heap.size, 2, none⟩ = some (.slice Axp1_2 p1_2.length cxp1_2) := by have := b.cell (p := ⟨w7.heap.size, 2, none⟩) (by first | (simp; done) | (simp; omega)); simpa [go_sem] using this
  have hlhxp1_ : w7.heap.size < w8.heap.size := by have := b.size; simp at this; omega
  have hlhxp1_q := hlhxp1_
  obtain ⟨SHOxp2_0, HSHOxp2_0, HOxp2_0⟩ : ∃ S : Nat → Prop, Hid (∀ k, S k → w7.heap.size + 1 ≤ k ∧ k < w8.heap.size) ∧ Hid (OwnR w8 S (.slice Axp2_0 p2_0.length cxp2_0) p2_0) := ⟨fun k => w7.heap.size + 1 ≤ k ∧ k < w8.heap.size, Lib.hid (fun k hk => hk), Lib.hid (oxp2_0.mono (fun k hk hk2 => ⟨by have hk3 := hk; (try simp at hk3); omega, hk2⟩))⟩
  clear b hstep oxp2_0
  go_wp2_with fail
  refine (toR_any _ w.heap.size _ p3_0 ?_ ?_ hsp3_0).mono ?_
  · exact (HVp3_0.out.below HBN.out (Nat.le_refl _)).below (B' := w8.heap.size) (by repeat' (first | exact Below.refl _ _ | apply Below.drew | apply Below.setCell | apply Below.alloc | (simp; done) | omega | (simp; omega))) HBN.out.size
  · (have := HBN.out.size; first | exact this | (simp; done) | (simp; omega))
  rintro e w9 ⟨vxp3_0, rfl, b, oxp3_0⟩
  obtain ⟨Axp3_0, cxp3_0, rfl⟩ := oxp3_0.len
  have hstep : Below w8.heap.size w8 w9 := Below.trans (by repeat' (first | exact Below.refl _ _ | apply Below.drew | apply Below.setCell | apply Below.alloc | (simp; done) | omega | (simp; omega))) (b.mono (by (first | exact Nat.le_refl _ | (simp; done) | (simp; omega))))
  replace hpp1_0 := (hstep.cell (p := ⟨w.heap.size, 0, none⟩) hlhpp1_).trans hpp1_0
  replace hpp1_1 := (hstep.cell (p := ⟨w.heap.size, 1, none⟩) hlhpp1_).trans hpp1_1
  replace hpp1_2 := (hstep.cell (p := ⟨w.heap.size, 2, none⟩) hlhpp1_).trans hpp1_2
  replace hlhpp1_ : w.heap.size < w9.heap.size := Nat.lt_of_lt_of_le hlhpp1_ hstep.size
  replace hxp1_0 := (hstep.cell (p := ⟨w7.heap.size, 0, none⟩) hlhxp1_).trans hxp1_0
  replace hxp1_1 := (hstep.cell (p := ⟨w7.heap.size, 1, none⟩) hlhxp1_).trans hxp1_1
  replace hxp1_2 := (hstep.cell (p := ⟨w7.heap.size, 2, none⟩) hlhxp1_).trans hxp1_2
  replace hlhxp1_ : w7.heap.size < w9.heap.size := Nat.lt_of_lt_of_le hlhxp1_ hstep.size
  replace HOxp1_2 := Lib.hid (HOxp1_2.out.below hstep (fun _ _ hq => hq))
  replace HOxp2_0 := Lib.hid (HOxp2_0.out.below hstep (fun _ _ hq => hq))
  replace HBN := Lib.hid (HBN.out.trans (hstep.mono HBN.out.size))
  have hzw9 : w8.heap.size ≤ w9.heap.size := hstep.size
  obtain ⟨SHOxp3_0, HSHOxp3_0, HOxp3_0⟩ : ∃ S : Nat → Prop, Hid (∀ k, S k → w8.heap.size + 0 ≤ k ∧ k < w9.heap.size) ∧ Hid (OwnR w9 S (.slice Axp3_0 p3_0.length cxp3_0) p3_0) := ⟨fun k => w8.heap.size + 0 ≤ k ∧ k < w9.heap.size, Lib.hid (fun k hk => hk), Lib.hid (oxp3_0.mono (fun k hk hk2 => ⟨by have hk3 := hk; (try simp at hk3); omega, hk2⟩))⟩
  clear b hstep oxp3_0
  go_wp2_with fail
  refine (HIM.out _ w9.heap.size _ _ _ ?_ ?_ ?_ ?_ ?_ hsp1_2 hsp2_0 hsp3_0).mono ?_
  · exact (HT.out.below HBN.out).below (by repeat' (first | exact Below.refl _ _ | apply Below.drew | apply Below.setCell | apply Below.alloc | (simp; done) | omega | (simp; omega)))
  · exact (HOxp1_2.out.rd).below (B' := w9.heap.size) (by repeat' (first | exact Below.refl _ _ | apply Below.drew | apply Below.setCell | apply Below.alloc | (simp; done) | omega | (simp; omega))) (Nat.le_refl _)
  · exact (HOxp2_0.out.rd).below (B' := w9.heap.size) (by repeat' (first | exact Below.refl _ _ | apply Below.drew | apply Below.setCell | apply Below.alloc | (simp; done) | omega | (simp; omega))) (Nat.le_refl _)
  · exact (HOxp3_0.out.rd).below (B' := w9.heap.size) (by repeat' (first | exact Below.refl _ _ | apply Below.drew | apply Below.setCell | apply Below.alloc | (simp; done) | omega | (simp; omega))) (Nat.le_refl _)
  · (first | exact Nat.le_refl _ | (simp; done) | (simp; omega))
  rintro e w10 ⟨rfl, b⟩
  have hstep : Below w9.heap.size w9 w10 := Below.trans (by repeat' (first | exact Below.refl _ _ | apply Below.drew | apply Below.setCell | apply Below.alloc | (simp; done) | omega | (simp; omega))) (b.mono (by (first | exact Nat.le_refl _ | (simp; done) | (simp; omega))))
  replace hpp1_0 := (hstep.cell (p := ⟨w.heap.size, 0, none⟩) hlhpp1_).trans hpp1_0
  replace hpp1_1 := (hstep.cell (p := ⟨w.heap.size, 1, none⟩) hlhpp1_).trans hpp1_1
  replace hpp1_2 := (hstep.cell (p := ⟨w.heap.size, 2, none⟩) hlhpp1_).trans hpp1_2
  replace hlhpp1_ : w.heap.size < w10.heap.size := Nat.lt_of_lt_of_le hlhpp1_ hstep.size
  replace hxp1_0 := (hstep.cell (p := ⟨w7.heap.size, 0, none⟩) hlhxp1_).trans hxp1_0
  replace hxp1_1 := (hstep.cell (p := ⟨w7.heap.size, 1, none⟩) hlhxp1_).trans hxp1_1
  replace hxp1_2 := (hstep.cell (p := ⟨w7.heap.size, 2, none⟩) hlhxp1_).trans hxp1_2
  replace hlhxp1_ : w7.heap.size < w10.heap.size := Nat.lt_of_lt_of_le hlhxp1_ hstep.size
  replace HOxp1_2 := Lib.hid (HOxp1_2.out.below hstep (fun _ _ hq => hq))
  replace HOxp2_0 := Lib.hid (HOxp2_0.out.below hstep (fun _ _ hq => hq))
  replace HOxp3_0 := Lib.hid (HOxp3_0.out.below hstep (fun _ _ hq => hq))
  replace HBN := Lib.hid (HBN.out.trans (hstep.mono HBN.out.size))
  have hzw10 : w9.heap.size ≤ w10.heap.size := hstep.size
  clear b hstep 
  have HD : Hid (Below w10.heap.size w10 w10.drew) := Lib.hid (Below.refl _ _).drew
  have HV62 := Lib.hid ((HVp1_2.out.below HBN.out (Nat.le_refl _)).mono HBN.out.size)
  have HG62 := Lib.hid (HOxp1_2.out.rd)
  have HELD : Hid (∀ w' : World, Hid (Below w10.heap.size w10 w') → w'.cell? ⟨w.heap.size, 0, none⟩ = some (.int .i64 p1_0) ∧ w'.cell? ⟨w.heap.size, 1, none⟩ = some (.int .i64 p1_1) ∧ w'.cell? ⟨w.heap.size, 2, none⟩ = some (.slice Aup1_2 p1_2.length cup1_2) ∧ w'.cell? ⟨w7.heap.size, 0, none⟩ = some (.int .i64 p1_0) ∧ w'.cell? ⟨w7.heap.size, 1, none⟩ = some (.int .i64 p1_1) ∧ w'.cell? ⟨w7.heap.size, 2, none⟩ = some (.slice Axp1_2 p1_2.length cxp1_2) ∧ Hid (Below w10.heap.size w10 w')) := Lib.hid (fun w' H => ⟨(H.out.cell (p := ⟨w.heap.size, 0, none⟩) hlhpp1_).trans hpp1_0, (H.out.cell (p := ⟨w.heap.size, 1, none⟩) hlhpp1_).trans hpp1_1, (H.out.cell (p := ⟨w.heap.size, 2, none⟩) hlhpp1_).trans hpp1_2, (H.out.cell (p := ⟨w7.heap.size, 0, none⟩) hlhxp1_).trans hxp1_0, (H.out.cell (p := ⟨w7.heap.size, 1, none⟩) hlhxp1_).trans hxp1_1, (H.out.cell (p := ⟨w7.heap.size, 2, none⟩) hlhxp1_).trans hxp1_2, H⟩)
  go_wp2_with fail
  go_region_held3 (fun w' => w'.cell? ⟨w.heap.size, 0, none⟩ = some (.int .i64 p1_0) ∧ w'.cell? ⟨w.heap.size, 1, none⟩ = some (.int .i64 p1_1) ∧ w'.cell? ⟨w.heap.size, 2, none⟩ = some (.slice Aup1_2 p1_2.length cup1_2) ∧ w'.cell? ⟨w7.heap.size, 0, none⟩ = some (.int .i64 p1_0) ∧ w'.cell? ⟨w7.heap.size, 1, none⟩ = some (.int .i64 p1_1) ∧ w'.cell? ⟨w7.heap.size, 2, none⟩ = some (.slice Axp1_2 p1_2.length cxp1_2) ∧ Hid (Below w10.heap.size w10 w'))
    (exact HELD.out _ (by assumption))
    (first
      | (go_at_call 32; go_split_ands; refine (toRelation_fr w10 _ (by assumption) p1_0 p1_1 p1_2 _ HV62.out hsp1_2).mono ?_; rintro e wa ⟨vyp1_2, rfl, ba, bb, oyp1_2⟩)
      | (go_at_call 19; go_split_ands; refine (eqRelation_fr w10 _ (by assumption) p1_0 p1_1 p1_2 _ _ HG62.out (by assumption)).mono ?_; rintro e w11 ⟨rfl, bc⟩))
  have hstep := bc.out
  clear HD HELD HV62 HG62 oyp1_2 ba bb bc
  replace hpp1_0 := (hstep.cell (p := ⟨w.heap.size, 0, none⟩) hlhpp1_).trans hpp1_0
  replace hpp1_1 := (hstep.cell (p := ⟨w.heap.size, 1, none⟩) hlhpp1_).trans hpp1_1
  replace hpp1_2 := (hstep.cell (p := ⟨w.heap.size, 2, none⟩) hlhpp1_).trans hpp1_2
  replace hlhpp1_ : w.heap.size < w11.heap.size := Nat.lt_of_lt_of_le hlhpp1_ hstep.size
  replace hxp1_0 := (hstep.cell (p := ⟨w7.heap.size, 0, none⟩) hlhxp1_).trans hxp1_0
  replace hxp1_1 := (hstep.cell (p := ⟨w7.heap.size, 1, none⟩) hlhxp1_).trans hxp1_1
  replace hxp1_2 := (hstep.cell (p := ⟨w7.heap.size, 2, none⟩) hlhxp1_).trans hxp1_2
  replace hlhxp1_ : w7.heap.size < w11.heap.size := Nat.lt_of_lt_of_le hlhxp1_ hstep.size
  replace HOxp1_2 := Lib.hid (HOxp1_2.out.below hstep (fun _ _ hq => hq))
  replace HOxp2_0 := Lib.hid (HOxp2_0.out.below hstep (fun _ _ hq => hq))
  replace HOxp3_0 := Lib.hid (HOxp3_0.out.below hstep (fun _ _ hq => hq))
  replace HBN := Lib.hid (HBN.out.trans (hstep.mono HBN.out.size))
  have hzw11 : w10.heap.size ≤ w11.heap.size := hstep.size
  clear hstep
  go_wp2_with fail
  refine (toR_any _ w.heap.size _ p2_0 ?_ ?_ hsp2_0).mono ?_
  · exact (HVp2_0.out.below HBN.out (Nat.le_refl _)).below (B' := w11.heap.size) (by repeat' (first | exact Below.refl _ _ | apply Below.drew | apply Below.setCell | apply Below.alloc | (simp; done) | omega | (simp; omega))) HBN.out.size
  · (have := HBN.out.size; first | exact this | (simp; done) | (simp; omega))
  rintro e w12 ⟨vyp2_0, rfl, b, oyp2_0⟩
  obtain ⟨Ayp2_0, cyp2_0, rfl⟩ := oyp2_0.len
  have hstep : Below w11.heap.size w11 w12 := Below.trans (by repeat' (first | exact Below.refl _ _ | apply Below.drew | apply Below.setCell | apply Below.alloc | (simp; done) | omega | (simp; omega))) (b.mono (by (first | exact Nat.le_refl _ | (simp; done) | (simp; omega))))
  replace hpp1_0 := (hstep.cell (p := ⟨w.heap.size, 0, none⟩) hlhpp1_).trans hpp1_0
  replace hpp1_1 := (hstep.cell (p := ⟨w.heap.size, 1, none⟩) hlhpp1_).trans hpp1_1
  replace hpp1_2 := (hstep.cell (p := ⟨w.heap.size, 2, none⟩) hlhpp1_).trans hpp1_2
  replace hlhpp1_ : w.heap.size < w12.heap.size := Nat.lt_of_lt_of_le hlhpp1_ hstep.size
  replace hxp1_0 := (hstep.cell (p := ⟨w7.heap.size, 0, none⟩) hlhxp1_).trans hxp1_0
  replace hxp1_1 := (hstep.cell (p := ⟨w7.heap.size, 1, none⟩) hlhxp1_).trans hxp1_1
  replace hxp1_2 := (hstep.cell (p := ⟨w7.heap.size, 2, none⟩) hlhxp1_).trans hxp1_2
  replace hlhxp1_ : w7.heap.size < w12.heap.size := Nat.lt_of_lt_of_le hlhxp1_ hstep.size
  replace HOxp1_2 := Lib.hid (HOxp1_2.out.below hstep (fun _ _ hq => hq))
  replace HOxp2_0 := Lib.hid (HOxp2_0.out.below hstep (fun _ _ hq => hq))
  replace HOxp3_0 := Lib.hid (HOxp3_0.out.below hstep (fun _ _ hq => hq))
  replace HBN := Lib.hid (HBN.out.trans (hstep.mono HBN.out.size))
  have hzw12 : w11.heap.size ≤ w12.heap.size := hstep.size
  obtain ⟨SHOyp2_0, HSHOyp2_0, HOyp2_0⟩ : ∃ S : Nat → Prop, Hid (∀ k, S k → w11.heap.size + 0 ≤ k ∧ k < w12.heap.size) ∧ Hid (OwnR w12 S (.slice Ayp2_0 p2_0.length cyp2_0) p2_0) := ⟨fun k => w11.heap.size + 0 ≤ k ∧ k < w12.heap.size, Lib.hid (fun k hk => hk), Lib.hid (oyp2_0.mono (fun k hk hk2 => ⟨by have hk3 := hk; (try simp at hk3); omega, hk2⟩))⟩
  clear b hstep oyp2_0
  go_wp2_with fail
  refine (eqR_any _ w12.heap.size _ _ p2_0 (HOxp2_0.out.rd) (HOyp2_0.out.rd)).mono ?_
  rintro e w13 ⟨rfl, b⟩
  have hstep : Below w12.heap.size w12 w13 := Below.trans (by repeat' (first | exact Below.refl _ _ | apply Below.drew | apply Below.setCell | apply Below.alloc | (simp; done) | omega | (simp; omega))) (b.mono (by (first | exact Nat.le_refl _ | (simp; done) | (simp; omega))))
  replace hpp1_0 := (hstep.cell (p := ⟨w.heap.size, 0, none⟩) hlhpp1_).trans hpp1_0
  replace hpp1_1 := (hstep.cell (p := ⟨w.heap.size, 1, none⟩) hlhpp1_).trans hpp1_1
  replace hpp1_2 := (hstep.cell (p := ⟨w.heap.size, 2, none⟩) hlhpp1_).trans hpp1_2
  replace hlhpp1_ : w.heap.size < w13.heap.size := Nat.lt_of_lt_of_le hlhpp1_ hstep.size
  replace hxp1_0 := (hstep.cell (p := ⟨w7.heap.size, 0, none⟩) hlhxp1_).trans hxp1_0
  replace hxp1_1 := (hstep.cell (p := ⟨w7.heap.size, 1, none⟩) hlhxp1_).trans hxp1_1
  replace hxp1_2 := (hstep.cell (p := ⟨w7.heap.size, 2, none⟩) hlhxp1_).trans hxp1_2
  replace hlhxp1_ : w7.heap.size < w13.heap.size := Nat.lt_of_lt_of_le hlhxp1_ hstep.size
  replace HOxp1_2 := Lib.hid (HOxp1_2.out.below hstep (fun _ _ hq => hq))
  replace HOxp2_0 := Lib.hid (HOxp2_0.out.below hstep (fun _ _ hq => hq))
  replace HOxp3_0 := Lib.hid (HOxp3_0.out.below hstep (fun _ _ hq => hq))
  replace HOyp2_0 := Lib.hid (HOyp2_0.out.below hstep (fun _ _ hq => hq))
  replace HBN := Lib.hid (HBN.out.trans (hstep.mono HBN.out.size))
  have hzw13 : w12.heap.size ≤ w13.heap.size := hstep.size
  clear b hstep 
  clear HOyp2_0 HSHOyp2_0
  go_wp2_with fail
  refine (toR_any _ w.heap.size _ p3_0 ?_ ?_ hsp3_0).mono ?_
  · exact (HVp3_0.out.below HBN.out (Nat.le_refl _)).below (B' := w13.heap.size) (by repeat' (first | exact Below.refl _ _ | apply Below.drew | apply Below.setCell | apply Below.alloc | (simp; done) | omega | (simp; omega))) HBN.out.size
  · (have := HBN.out.size; first | exact this | (simp; done) | (simp; omega))
  rintro e w14 ⟨vyp3_0, rfl, b, oyp3_0⟩
  obtain ⟨Ayp3_0, cyp3_0, rfl⟩ := oyp3_0.len
  have hstep : Below w13.heap.size w13 w14 := Below.trans (by repeat' (first | exact Below.refl _ _ | apply Below.drew | apply Below.setCell | apply Below.alloc | (simp; done) | omega | (simp; omega))) (b.mono (by (first | exact Nat.le_refl _ | (simp; done) | (simp; omega))))
  replace hpp1_0 := (hstep.cell (p := ⟨w.heap.size, 0, none⟩) hlhpp1_).trans hpp1_0
  replace hpp1_1 := (hstep.cell (p := ⟨w.heap.size, 1, none⟩) hlhpp1_).trans hpp1_1
  replace hpp1_2 := (hstep.cell (p := ⟨w.heap.size, 2, none⟩) hlhpp1_).trans hpp1_2
  replace hlhpp1_ : w.heap.size < w14.heap.size := Nat.lt_of_lt_of_le hlhpp1_ hstep.size
  replace hxp1_0 := (hstep.cell (p := ⟨w7.heap.size, 0, none⟩) hlhxp1_).trans hxp1_0
  replace hxp1_1 := (hstep.cell (p := ⟨w7.heap.size, 1, none⟩) hlhxp1_).trans hxp1_1
  replace hxp1_2 := (hstep.cell (p := ⟨w7.heap.size, 2, none⟩) hlhxp1_).trans hxp1_2
  replace hlhxp1_ : w7.heap.size < w14.heap.size := Nat.lt_of_lt_of_le hlhxp1_ hstep.size
  replace HOxp1_2 := Lib.hid (HOxp1_2.out.below hstep (fun _ _ hq => hq))
  replace HOxp2_0 := Lib.hid (HOxp2_0.out.below hstep (fun _ _ hq => hq))
  replace HOxp3_0 := Lib.hid (HOxp3_0.out.below hstep (fun _ _ hq => hq))
  replace HBN := Lib.hid (HBN.out.trans (hstep.mono HBN.out.size))
  have hzw14 : w13.heap.size ≤ w14.heap.size := hstep.size
  obtain ⟨SHOyp3_0, HSHOyp3_0, HOyp3_0⟩ : ∃ S : Nat → Prop, Hid (∀ k, S k → w13.heap.size + 0 ≤ k ∧ k < w14.heap.size) ∧ Hid (OwnR w14 S (.slice Ayp3_0 p3_0.length cyp3_0) p3_0) := ⟨fun k => w13.heap.size + 0 ≤ k ∧ k < w14.heap.size, Lib.hid (fun k hk => hk), Lib.hid (oyp3_0.mono (fun k hk hk2 => ⟨by have hk3 := hk; (try simp at hk3); omega, hk2⟩))⟩
  clear b hstep oyp3_0
  go_wp2_with fail
  refine (eqR_any _ w14.heap.size _ _ p3_0 (HOxp3_0.out.rd) (HOyp3_0.out.rd)).mono ?_
  rintro e w15 ⟨rfl, b⟩
  have hstep : Below w14.heap.size w14 w15 := Below.trans (by repeat' (first | exact Below.refl _ _ | apply Below.drew | apply Below.setCell | apply Below.alloc | (simp; done) | omega | (simp; omega))) (b.mono (by (first | exact Nat.le_refl _ | (simp; done) | (simp; omega))))
  replace hpp1_0 := (hstep.cell (p := ⟨w.heap.size, 0, none⟩) hlhpp1_).trans hpp1_0
  replace hpp1_1 := (hstep.cell (p := ⟨w.heap.size, 1, none⟩) hlhpp1_).trans hpp1_1
  replace hpp1_2 := (hstep.cell (p := ⟨w.heap.size, 2, none⟩) hlhpp1_).trans hpp1_2
  replace hlhpp1_ : w.heap.size < w15.heap.size := Nat.lt_of_lt_of_le hlhpp1_ hstep.size
  replace hxp1_0 := (hstep.cell (p := ⟨w7.heap.size, 0, none⟩) hlhxp1_).trans hxp1_0
  replace hxp1_1 := (hstep.cell (p := ⟨w7.heap.size, 1, none⟩) hlhxp1_).trans hxp1_1
  replace hxp1_2 := (hstep.cell (p := ⟨w7.heap.size, 2, none⟩) hlhxp1_).trans hxp1_2
  replace hlhxp1_ : w7.heap.size < w15.heap.size := Nat.lt_of_lt_of_le hlhxp1_ hstep.size
  replace HOxp1_2 := Lib.hid (HOxp1_2.out.below hstep (fun _ _ hq => hq))
  replace HOxp2_0 := Lib.hid (HOxp2_0.out.below hstep (fun _ _ hq => hq))
  replace HOxp3_0 := Lib.hid (HOxp3_0.out.below hstep (fun _ _ hq => hq))
  replace HOyp3_0 := Lib.hid (HOyp3_0.out.below hstep (fun _ _ hq => hq))
  replace HBN := Lib.hid (HBN.out.trans (hstep.mono HBN.out.size))
  have hzw15 : w14.heap.size ≤ w15.heap.size := hstep.size
  clear b hstep 
  clear HOyp3_0 HSHOyp3_0
  go_wp2
  go_ret
  exact ⟨rfl, HBN.out⟩
end Go.Proofs.YtpoghbdomknfcaaDoor
