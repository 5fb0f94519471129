/- The harness of the law FnExactIncludesRelation: it returns true if both functions return what they should. -/
import Derived.Test.YtpoghbdomknfcaaDoorTRelation
import Derived.Test.YtpoghbdomknfcaaDoorRetBB
import Derived.Test.YtpoghbdomknfcaaDoorFdWalks
import Derived.Deep.Cut
import Derived.Deep.QuietTactic
namespace Go.Proofs.YtpoghbdomknfcaaDoor
set_option maxRecDepth 100000
open Go Go.RowKit Go.Deep

set_option maxHeartbeats 6400000 in
set_option maxRecDepth 100000 in
theorem harness_IncludesRelation (p0_0 : Int) (p1_0 : Int) (p1_1 : Int) (p1_2 : List (List Int)) (p2_0 : Int) (p2_1 : Int) (p2_2 : List (List Int)) (up1_2 : Value) (up2_2 : Value) (w : World) (r0_0 : Bool) (r1_0 : Bool) (ht : Tab w) (hvp1_2 : LfG w w.heap.size up1_2 p1_2) (hvp2_2 : LfG w w.heap.size up2_2 p2_2) 
    (hspec : ∀ (w : World) (B : Nat) (vp1_2 : Value) (vp2_2 : Value) , LfG w B vp1_2 p1_2 → LfG w B vp2_2 p2_2 → B ≤ w.heap.size → szG p1_2 ≤ 1048576 → szG p2_2 ≤ 1048576 → Calls Tryd.prog 45 #[.int .i64 p0_0, .agg #[.int .i64 p1_0, .int .i64 p1_1, vp1_2], .agg #[.int .i64 p2_0, .int .i64 p2_1, vp2_2]] w (SRetBB w r0_0 r1_0))
    (himpl : ∀ (w : World) (B : Nat) (vp1_2 : Value) (vp2_2 : Value) , Tab w → LfG w B vp1_2 p1_2 → LfG w B vp2_2 p2_2 → B ≤ w.heap.size → szG p1_2 ≤ 1048576 → szG p2_2 ≤ 1048576 → Calls Tryd.prog 46 #[.int .i64 p0_0, .agg #[.int .i64 p1_0, .int .i64 p1_1, vp1_2], .agg #[.int .i64 p2_0, .int .i64 p2_1, vp2_2]] w (IRetBB w r0_0 r1_0)) :
    Calls Tryd.prog 10 #[.int .i64 p0_0, .agg #[.int .i64 p1_0, .int .i64 p1_1, up1_2], .agg #[.int .i64 p2_0, .int .i64 p2_1, up2_2]] w fun e w' => e = .returned (.bool true) ∧ Below w.heap.size w w' := by
  have HBN := Lib.hid (Below.refl w.heap.size w)
  have HT := Lib.hid ht
  have HSP := Lib.hid hspec
  have HIM := Lib.hid himpl
  clear ht hspec himpl
  obtain ⟨Aup1_2, cup1_2, rfl⟩ := hvp1_2.len
  have HVp1_2 := Lib.hid hvp1_2
  clear hvp1_2
  obtain ⟨Aup2_2, cup2_2, rfl⟩ := hvp2_2.len
  have HVp2_2 := Lib.hid hvp2_2
  clear hvp2_2
  have hbbr0_0 : (r0_0 != r0_0) = false := by simp
  have hbbr1_0 : (r1_0 != r1_0) = false := by simp
  go_enter Tryd.func10, Tryd.ntmps10
  go_wp2_with fail
  refine (szRelation_ok _ w.heap.size p1_0 p1_1 p1_2 _ 1048576 ?_ ?_ (by omega) (by omega)).mono ?_
  · exact (HVp1_2.out.below HBN.out (Nat.le_refl _)).below (B' := w.heap.size) (by repeat' (first | exact Below.refl _ _ | apply Below.drew | apply Below.setCell | apply Below.alloc | (simp; done) | omega | (simp; omega))) HBN.out.size
  · (have := HBN.out.size; first | exact this | (simp; done) | (simp; omega))
  rintro e w2 ⟨b, h2⟩
  have hstep : Below w.heap.size w w2 := Below.trans (by repeat' (first | exact Below.refl _ _ | apply Below.drew | apply Below.setCell | apply Below.alloc | (simp; done) | omega | (simp; omega))) (b.mono (by (first | exact Nat.le_refl _ | (simp; done) | (simp; omega))))
  replace HBN := Lib.hid (HBN.out.trans (hstep.mono HBN.out.size))
  have hzw2 : w.heap.size ≤ w2.heap.size := hstep.size
  have hpp1_0 : w2.cell? ⟨w.heap.size, 0, none⟩ = some (.int .i64 p1_0) := by have := b.cell (p := ⟨w.heap.size, 0, none⟩) (by first | (simp; done) | (simp; omega)); simpa [go_sem] using this
  have hpp1_1 : w2.cell? ⟨w.heap.size, 1, none⟩ = some (.int .i64 p1_1) := by have := b.cell (p := ⟨w.heap.size, 1, none⟩) (by first | (simp; done) | (simp; omega)); simpa [go_sem] using this
  have hpp1_2 : w2.cell? ⟨w.heap.size, 2, none⟩ = some (.slice Aup1_2 p1_2.length cup1_2) := by have := b.cell (p := ⟨w.heap.size, 2, none⟩) (by first | (simp; done) | (simp; omega)); simpa [go_sem] using this
  have hlhpp1_ : w.heap.size < w2.heap.size := by have := b.size; simp at this; omega
  have hlhpp1_q := hlhpp1_
  have hpp2_0 : w2.cell? ⟨w.heap.size + 1, 0, none⟩ = some (.int .i64 p2_0) := by have := b.cell (p := ⟨w.heap.size + 1, 0, none⟩) (by first | (simp; done) | (simp; omega)); simpa [go_sem] using this
  have hpp2_1 : w2.cell? ⟨w.heap.size + 1, 1, none⟩ = some (.int .i64 p2_1) := by have := b.cell (p := ⟨w.heap.size + 1, 1, none⟩) (by first | (simp; done) | (simp; omega)); simpa [go_sem] using this
  have hpp2_2 : w2.cell? ⟨w.heap.size + 1, 2, none⟩ = some (.slice Aup2_2 p2_2.length cup2_2) := by have := b.cell (p := ⟨w.heap.size + 1, 2, none⟩) (by first | (simp; done) | (simp; omega)); simpa [go_sem] using this
  have hlhpp2_ : w.heap.size + 1 < w2.heap.size := by have := b.size; simp at this; omega
  have hlhpp2_q := hlhpp2_
  clear b hstep 
  rcases h2 with rfl | ⟨hle, h2⟩
  · go_wp2
    go_ret
    exact ⟨rfl, HBN.out⟩
  obtain ⟨zp1_, hzp1_a, hzp1_b, rfl⟩ : ∃ z : Int, 0 ≤ z ∧ z ≤ 1048576 ∧ e = .returned (.int .i64 z) := ⟨_, by omega, by omega, h2⟩
  have hsp1_2 : szG p1_2 ≤ 1048576 := by omega
  clear h2 hle
  go_wp2_with fail
  refine (szRelation_ok _ w.heap.size p2_0 p2_1 p2_2 _ zp1_ ?_ ?_ (by omega) (by omega)).mono ?_
  · exact (HVp2_2.out.below HBN.out (Nat.le_refl _)).below (B' := w2.heap.size) (by repeat' (first | exact Below.refl _ _ | apply Below.drew | apply Below.setCell | apply Below.alloc | (simp; done) | omega | (simp; omega))) HBN.out.size
  · (have := HBN.out.size; first | exact this | (simp; done) | (simp; omega))
  rintro e w3 ⟨b, h2⟩
  have hstep : Below w2.heap.size w2 w3 := Below.trans (by repeat' (first | exact Below.refl _ _ | apply Below.drew | apply Below.setCell | apply Below.alloc | (simp; done) | omega | (simp; omega))) (b.mono (by (first | exact Nat.le_refl _ | (simp; done) | (simp; omega))))
  replace hpp1_0 := (hstep.cell (p := ⟨w.heap.size, 0, none⟩) hlhpp1_).trans hpp1_0
  replace hpp1_1 := (hstep.cell (p := ⟨w.heap.size, 1, none⟩) hlhpp1_).trans hpp1_1
  replace hpp1_2 := (hstep.cell (p := ⟨w.heap.size, 2, none⟩) hlhpp1_).trans hpp1_2
  replace hlhpp1_ : w.heap.size < w3.heap.size := Nat.lt_of_lt_of_le hlhpp1_ hstep.size
  replace hpp2_0 := (hstep.cell (p := ⟨w.heap.size + 1, 0, none⟩) hlhpp2_).trans hpp2_0
  replace hpp2_1 := (hstep.cell (p := ⟨w.heap.size + 1, 1, none⟩) hlhpp2_).trans hpp2_1
  replace hpp2_2 := (hstep.cell (p := ⟨w.heap.size + 1, 2, none⟩) hlhpp2_).trans hpp2_2
  replace hlhpp2_ : w.heap.size + 1 < w3.heap.size := Nat.lt_of_lt_of_le hlhpp2_ hstep.size
  replace HBN := Lib.hid (HBN.out.trans (hstep.mono HBN.out.size))
  have hzw3 : w2.heap.size ≤ w3.heap.size := hstep.size
  clear b hstep 
  rcases h2 with rfl | ⟨hle, h2⟩
  · go_wp2
    go_ret
    exact ⟨rfl, HBN.out⟩
  obtain ⟨zp2_, hzp2_a, hzp2_b, rfl⟩ : ∃ z : Int, 0 ≤ z ∧ z ≤ 1048576 ∧ e = .returned (.int .i64 z) := ⟨_, by omega, by omega, h2⟩
  have hsp2_2 : szG p2_2 ≤ 1048576 := by omega
  clear h2 hle
  have HD : Hid (Below w3.heap.size w3 w3.drew) := Lib.hid (Below.refl _ _).drew
  have HV6p1_2 := Lib.hid ((HVp1_2.out.below HBN.out (Nat.le_refl _)).mono HBN.out.size)
  have HV6p2_2 := Lib.hid ((HVp2_2.out.below HBN.out (Nat.le_refl _)).mono HBN.out.size)
  have HELD : Hid (∀ w' : World, Hid (Below w3.heap.size w3 w') → w'.cell? ⟨w.heap.size, 0, none⟩ = some (.int .i64 p1_0) ∧ w'.cell? ⟨w.heap.size, 1, none⟩ = some (.int .i64 p1_1) ∧ w'.cell? ⟨w.heap.size, 2, none⟩ = some (.slice Aup1_2 p1_2.length cup1_2) ∧ w'.cell? ⟨w.heap.size + 1, 0, none⟩ = some (.int .i64 p2_0) ∧ w'.cell? ⟨w.heap.size + 1, 1, none⟩ = some (.int .i64 p2_1) ∧ w'.cell? ⟨w.heap.size + 1, 2, none⟩ = some (.slice Aup2_2 p2_2.length cup2_2) ∧ Hid (Below w3.heap.size w3 w')) := Lib.hid (fun w' H => ⟨(H.out.cell (p := ⟨w.heap.size, 0, none⟩) hlhpp1_).trans hpp1_0, (H.out.cell (p := ⟨w.heap.size, 1, none⟩) hlhpp1_).trans hpp1_1, (H.out.cell (p := ⟨w.heap.size, 2, none⟩) hlhpp1_).trans hpp1_2, (H.out.cell (p := ⟨w.heap.size + 1, 0, none⟩) hlhpp2_).trans hpp2_0, (H.out.cell (p := ⟨w.heap.size + 1, 1, none⟩) hlhpp2_).trans hpp2_1, (H.out.cell (p := ⟨w.heap.size + 1, 2, none⟩) hlhpp2_).trans hpp2_2, H⟩)
  go_upto_region 8 with fail
  go_cut [8, 9] from 14 (fun s8 s9 wc => s8 = .bool r0_0 ∧ s9 = .bool r1_0 ∧ Hid (Below w3.heap.size w3 wc))
  case first =>
    go_region_held3 (fun w' => w'.cell? ⟨w.heap.size, 0, none⟩ = some (.int .i64 p1_0) ∧ w'.cell? ⟨w.heap.size, 1, none⟩ = some (.int .i64 p1_1) ∧ w'.cell? ⟨w.heap.size, 2, none⟩ = some (.slice Aup1_2 p1_2.length cup1_2) ∧ w'.cell? ⟨w.heap.size + 1, 0, none⟩ = some (.int .i64 p2_0) ∧ w'.cell? ⟨w.heap.size + 1, 1, none⟩ = some (.int .i64 p2_1) ∧ w'.cell? ⟨w.heap.size + 1, 2, none⟩ = some (.slice Aup2_2 p2_2.length cup2_2) ∧ Hid (Below w3.heap.size w3 w'))
      (exact HELD.out _ (by first | assumption | (refine Lib.hid ?_; repeat' (first | exact Below.refl _ _ | exact Hid.out (by assumption) | apply Below.drew | apply Below.setCell | apply Below.alloc | (simp; done) | omega | (simp; omega)))))
      (first
        | (go_at_call_of 32 Aup1_2; go_split_ands; refine (toRelation_fr w3 _ (by assumption) p1_0 p1_1 p1_2 _ HV6p1_2.out hsp1_2).mono ?_; rintro e wa0 ⟨vyp1_2, rfl, ba0, bb0, oyp1_2⟩; have sb0 : w3.heap.size ≤ wa0.heap.size := (by have := ba0.out.size; (try simp at this); omega))
        | (go_at_call_of 32 Aup2_2; go_split_ands; refine (toRelation_fr w3 _ (by assumption) p2_0 p2_1 p2_2 _ HV6p2_2.out hsp2_2).mono ?_; rintro e wa1 ⟨vyp2_2, rfl, ba1, bb1, oyp2_2⟩; have sb1 : wa0.heap.size ≤ wa1.heap.size := (by have := ba1.out.size; (try simp at this); omega); have bq1 : Hid (Below wa0.heap.size wa0 wa1) := Lib.hid (Below.trans (by repeat' (first | exact Below.refl _ _ | apply Below.drew | apply Below.setCell | apply Below.alloc | (simp; done) | omega | (simp; omega))) (ba1.out.mono (by first | exact Nat.le_refl _ | (simp; done) | omega | (simp; omega)))))
        | (go_at_call 45; go_split_ands; refine (HSP.out _ _ _ _ ((((oyp1_2.out.below bq1.out (by first | omega | (simp; done) | (simp; omega)))).below (B' := wa1.heap.size) (by repeat' (first | exact Below.refl _ _ | apply Below.drew | apply Below.setCell | apply Below.alloc | (simp; done) | omega | (simp; omega))) (by first | omega | (simp; done) | (simp; omega))).mono (by first | omega | (simp; done) | (simp; omega))) (((oyp2_2.out).below (B' := wa1.heap.size) (by repeat' (first | exact Below.refl _ _ | apply Below.drew | apply Below.setCell | apply Below.alloc | (simp; done) | omega | (simp; omega))) (by first | omega | (simp; done) | (simp; omega))).mono (by first | omega | (simp; done) | (simp; omega))) (Nat.le_refl _) hsp1_2 hsp2_2).mono ?_; rintro e w4 ⟨rfl, b⟩; have hstep : Below w3.heap.size w3 w4 := (Hid.out (by assumption : Hid (Below w3.heap.size w3 _))).trans (b.mono (Hid.out (by assumption : Hid (Below w3.heap.size w3 _))).size); have HZZ := Lib.hid hstep; have hzz : wa1.heap.size ≤ w4.heap.size := (by have := b.size; (try simp at this); omega)))
    all_goals go_wp2_with fail
    all_goals go_meet
    all_goals exact ⟨rfl, rfl, Lib.hid (by repeat' (first | exact hstep | exact HZZ.out | apply Below.drew | apply Below.setCell | apply Below.alloc | (simp; done) | omega | (simp; omega)))⟩
  obtain ⟨rfl, rfl, hstep0⟩ := hcut
  have hstep := hstep0.out
  clear hstep0 HD HELD HV6p1_2 HV6p2_2
  obtain ⟨w4, rfl⟩ : ∃ x, x = wc := ⟨_, rfl⟩
  replace hpp1_0 := (hstep.cell (p := ⟨w.heap.size, 0, none⟩) hlhpp1_).trans hpp1_0
  replace hpp1_1 := (hstep.cell (p := ⟨w.heap.size, 1, none⟩) hlhpp1_).trans hpp1_1
  replace hpp1_2 := (hstep.cell (p := ⟨w.heap.size, 2, none⟩) hlhpp1_).trans hpp1_2
  replace hlhpp1_ : w.heap.size < w4.heap.size := Nat.lt_of_lt_of_le hlhpp1_ hstep.size
  replace hpp2_0 := (hstep.cell (p := ⟨w.heap.size + 1, 0, none⟩) hlhpp2_).trans hpp2_0
  replace hpp2_1 := (hstep.cell (p := ⟨w.heap.size + 1, 1, none⟩) hlhpp2_).trans hpp2_1
  replace hpp2_2 := (hstep.cell (p := ⟨w.heap.size + 1, 2, none⟩) hlhpp2_).trans hpp2_2
  replace hlhpp2_ : w.heap.size + 1 < w4.heap.size := Nat.lt_of_lt_of_le hlhpp2_ hstep.size
  replace HBN := Lib.hid (HBN.out.trans (hstep.mono HBN.out.size))
  have hzw4 : w3.heap.size ≤ w4.heap.size := hstep.size
  clear hstep 
  go_wp2_with fail
  refine (toRelation_ok _ w.heap.size p1_0 p1_1 p1_2 _ ?_ ?_ hsp1_2).mono ?_
  · exact (HVp1_2.out.below HBN.out (Nat.le_refl _)).below (B' := w4.heap.size) (by repeat' (first | exact Below.refl _ _ | apply Below.drew | apply Below.setCell | apply Below.alloc | (simp; done) | omega | (simp; omega))) HBN.out.size
  · (have := HBN.out.size; first | exact this | (simp; done) | (simp; omega))
  rintro e w5 ⟨vxp1_2, rfl, b, oxp1_2⟩
  obtain ⟨Axp1_2, cxp1_2, rfl⟩ := oxp1_2.len
  have hstep : Below w4.heap.size w4 w5 := Below.trans (by repeat' (first | exact Below.refl _ _ | apply Below.drew | apply Below.setCell | apply Below.alloc | (simp; done) | omega | (simp; omega))) (b.mono (by (first | exact Nat.le_refl _ | (simp; done) | (simp; omega))))
  replace hpp1_0 := (hstep.cell (p := ⟨w.heap.size, 0, none⟩) hlhpp1_).trans hpp1_0
  replace hpp1_1 := (hstep.cell (p := ⟨w.heap.size, 1, none⟩) hlhpp1_).trans hpp1_1
  replace hpp1_2 := (hstep.cell (p := ⟨w.heap.size, 2, none⟩) hlhpp1_).trans hpp1_2
  replace hlhpp1_ : w.heap.size < w5.heap.size := Nat.lt_of_lt_of_le hlhpp1_ hstep.size
  replace hpp2_0 := (hstep.cell (p := ⟨w.heap.size + 1, 0, none⟩) hlhpp2_).trans hpp2_0
  replace hpp2_1 := (hstep.cell (p := ⟨w.heap.size + 1, 1, none⟩) hlhpp2_).trans hpp2_1
  replace hpp2_2 := (hstep.cell (p := ⟨w.heap.size + 1, 2, none⟩) hlhpp2_).trans hpp2_2
  replace hlhpp2_ : w.heap.size + 1 < w5.heap.size := Nat.lt_of_lt_of_le hlhpp2_ hstep.size
  replace HBN := Lib.hid (HBN.out.trans (hstep.mono HBN.out.size))
  have hzw5 : w4.heap.size ≤ w5.heap.size := hstep.size
  obtain ⟨SHOxp1_2, HSHOxp1_2, HOxp1_2⟩ : ∃ S : Nat → Prop, Hid (∀ k, S k → w4.heap.size + 0 ≤ k ∧ k < w5.heap.size) ∧ Hid (OwnG w5 S (.slice Axp1_2 p1_2.length cxp1_2) p1_2) := ⟨fun k => w4.heap.size + 0 ≤ k ∧ k < w5.heap.size, Lib.hid (fun k hk => hk), Lib.hid (oxp1_2.mono (fun k hk hk2 => ⟨by have hk3 := hk; (try simp at hk3); omega, hk2⟩))⟩
  clear b hstep oxp1_2
  go_wp2_with fail
  refine (toRelation_ok _ w.heap.size p2_0 p2_1 p2_2 _ ?_ ?_ hsp2_2).mono ?_
  · exact (HVp2_2.out.below HBN.out (Nat.le_refl _)).below (B' := w5.heap.size) (by repeat' (first | exact Below.refl _ _ | apply Below.drew | apply Below.setCell | apply Below.alloc | (simp; done) | omega | (simp; omega))) HBN.out.size
  · (have := HBN.out.size; first | exact this | (simp; done) | (simp; omega))
  rintro e w6 ⟨vxp2_2, rfl, b, oxp2_2⟩
  obtain ⟨Axp2_2, cxp2_2, rfl⟩ := oxp2_2.len
  have hstep : Below w5.heap.size w5 w6 := Below.trans (by repeat' (first | exact Below.refl _ _ | apply Below.drew | apply Below.setCell | apply Below.alloc | (simp; done) | omega | (simp; omega))) (b.mono (by (first | exact Nat.le_refl _ | (simp; done) | (simp; omega))))
  replace hpp1_0 := (hstep.cell (p := ⟨w.heap.size, 0, none⟩) hlhpp1_).trans hpp1_0
  replace hpp1_1 := (hstep.cell (p := ⟨w.heap.size, 1, none⟩) hlhpp1_).trans hpp1_1
  replace hpp1_2 := (hstep.cell (p := ⟨w.heap.size, 2, none⟩) hlhpp1_).trans hpp1_2
  replace hlhpp1_ : w.heap.size < w6.heap.size := Nat.lt_of_lt_of_le hlhpp1_ hstep.size
  replace hpp2_0 := (hstep.cell (p := ⟨w.heap.size + 1, 0, none⟩) hlhpp2_).trans hpp2_0
  replace hpp2_1 := (hstep.cell (p := ⟨w.heap.size + 1, 1, none⟩) hlhpp2_).trans hpp2_1
  replace hpp2_2 := (hstep.cell (p := ⟨w.heap.size + 1, 2, none⟩) hlhpp2_).trans hpp2_2
  replace hlhpp2_ : w.heap.size + 1 < w6.heap.size := Nat.lt_of_lt_of_le hlhpp2_ hstep.size
  replace HOxp1_2 := Lib.hid (HOxp1_2.out.below hstep (fun _ _ hq => hq))
  replace HBN := Lib.hid (HBN.out.trans (hstep.mono HBN.out.size))
  have hzw6 : w5.heap.size ≤ w6.heap.size := hstep.size
  have hxp1_0 : w6.cell? ⟨w5.heap.size, 0, none⟩ = some (.int .i64 p1_0) := by have := b.cell (p := ⟨w5.heap.size, 0, none⟩) (by first | (simp; done) | (simp; omega)); simpa [go_sem] using this
  have hxp1_1 : w6.cell? ⟨w5.heap.size, 1, none⟩ = some (.int .i64 p1_1) := by have := b.cell (p := ⟨w5.heap.size, 1, none⟩) (by first | (simp; done) | (simp; omega)); simpa [go_sem] using this
  have hxp1_2 : w6.cell? ⟨w5.heap.size, 2, none⟩ = some (.slice Axp1_2 p1_2.length cxp1_2) := by have := b.cell (p := ⟨w5.heap.size, 2, none⟩) (by first | (simp; done) | (simp; omega)); simpa [go_sem] using this
  have hlhxp1_ : w5.heap.size < w6.heap.size := by have := b.size; simp at this; omega
  have hlhxp1_q := hlhxp1_
  obtain ⟨SHOxp2_2, HSHOxp2_2, HOxp2_2⟩ : ∃ S : Nat → Prop, Hid (∀ k, S k → w5.heap.size + 1 ≤ k ∧ k < w6.heap.size) ∧ Hid (OwnG w6 S (.slice Axp2_2 p2_2.length cxp2_2) p2_2) := ⟨fun k => w5.heap.size + 1 ≤ k ∧ k < w6.heap.size, Lib.hid (fun k hk => hk), Lib.hid (oxp2_2.mono (fun k hk hk2 => ⟨by have hk3 := hk; (try simp at hk3); omega, hk2⟩))⟩
  clear b hstep oxp2_2
  go_wp2_with fail
  refine (HIM.out _ w6.heap.size _ _ ?_ ?_ ?_ ?_ hsp1_2 hsp2_2).mono ?_
  · exact (HT.out.below HBN.out).below (by repeat' (first | exact Below.refl _ _ | apply Below.drew | apply Below.setCell | apply Below.alloc | (simp; done) | omega | (simp; omega)))
  · exact (HOxp1_2.out.rd).below (B' := w6.heap.size) (by repeat' (first | exact Below.refl _ _ | apply Below.drew | apply Below.setCell | apply Below.alloc | (simp; done) | omega | (simp; omega))) (Nat.le_refl _)
  · exact (HOxp2_2.out.rd).below (B' := w6.heap.size) (by repeat' (first | exact Below.refl _ _ | apply Below.drew | apply Below.setCell | apply Below.alloc | (simp; done) | omega | (simp; omega))) (Nat.le_refl _)
  · (first | exact Nat.le_refl _ | (simp; done) | (simp; omega))
  rintro e w7 ⟨rfl, b⟩
  have hstep : Below w6.heap.size w6 w7 := Below.trans (by repeat' (first | exact Below.refl _ _ | apply Below.drew | apply Below.setCell | apply Below.alloc | (simp; done) | omega | (simp; omega))) (b.mono (by (first | exact Nat.le_refl _ | (simp; done) | (simp; omega))))
  replace hpp1_0 := (hstep.cell (p := ⟨w.heap.size, 0, none⟩) hlhpp1_).trans hpp1_0
  replace hpp1_1 := (hstep.cell (p := ⟨w.heap.size, 1, none⟩) hlhpp1_).trans hpp1_1
  replace hpp1_2 := (hstep.cell (p := ⟨w.heap.size, 2, none⟩) hlhpp1_).trans hpp1_2
  replace hlhpp1_ : w.heap.size < w7.heap.size := Nat.lt_of_lt_of_le hlhpp1_ hstep.size
  replace hpp2_0 := (hstep.cell (p := ⟨w.heap.size + 1, 0, none⟩) hlhpp2_).trans hpp2_0
  replace hpp2_1 := (hstep.cell (p := ⟨w.heap.size + 1, 1, none⟩) hlhpp2_).trans hpp2_1
  replace hpp2_2 := (hstep.cell (p := ⟨w.heap.size + 1, 2, none⟩) hlhpp2_).trans hpp2_2
  replace hlhpp2_ : w.heap.size + 1 < w7.heap.size := Nat.lt_of_lt_of_le hlhpp2_ hstep.size
  replace hxp1_0 := (hstep.cell (p := ⟨w5.heap.size, 0, none⟩) hlhxp1_).trans hxp1_0
  replace hxp1_1 := (hstep.cell (p := ⟨w5.heap.size, 1, none⟩) hlhxp1_).trans hxp1_1
  replace hxp1_2 := (hstep.cell (p := ⟨w5.heap.size, 2, none⟩) hlhxp1_).trans hxp1_2
  replace hlhxp1_ : w5.heap.size < w7.heap.size := Nat.lt_of_lt_of_le hlhxp1_ hstep.size
  replace HOxp1_2 := Lib.hid (HOxp1_2.out.below hstep (fun _ _ hq => hq))
  replace HOxp2_2 := Lib.hid (HOxp2_2.out.below hstep (fun _ _ hq => hq))
  replace HBN := Lib.hid (HBN.out.trans (hstep.mono HBN.out.size))
  have hzw7 : w6.heap.size ≤ w7.heap.size := hstep.size
  have hxp2_0 : w7.cell? ⟨w6.heap.size, 0, none⟩ = some (.int .i64 p2_0) := by have := b.cell (p := ⟨w6.heap.size, 0, none⟩) (by first | (simp; done) | (simp; omega)); simpa [go_sem] using this
  have hxp2_1 : w7.cell? ⟨w6.heap.size, 1, none⟩ = some (.int .i64 p2_1) := by have := b.cell (p := ⟨w6.heap.size, 1, none⟩) (by first | (simp; done) | (simp; omega)); simpa [go_sem] using this
  have hxp2_2 : w7.cell? ⟨w6.heap.size, 2, none⟩ = some (.slice Axp2_2 p2_2.length cxp2_2) := by have := b.cell (p := ⟨w6.heap.size, 2, none⟩) (by first | (simp; done) | (simp; omega)); simpa [go_sem] using this
  have hlhxp2_ : w6.heap.size < w7.heap.size := by have := b.size; simp at this; omega
  have hlhxp2_q := hlhxp2_
  clear b hstep 
  have HD : Hid (Below w7.heap.size w7 w7.drew) := Lib.hid (Below.refl _ _).drew
  have HV62 := Lib.hid ((HVp1_2.out.below HBN.out (Nat.le_refl _)).mono HBN.out.size)
  have HG62 := Lib.hid (HOxp1_2.out.rd)
  have HELD : Hid (∀ w' : World, Hid (Below w7.heap.size w7 w') → w'.cell? ⟨w.heap.size, 0, none⟩ = some (.int .i64 p1_0) ∧ w'.cell? ⟨w.heap.size, 1, none⟩ = some (.int .i64 p1_1) ∧ w'.cell? ⟨w.heap.size, 2, none⟩ = some (.slice Aup1_2 p1_2.length cup1_2) ∧ w'.cell? ⟨w5.heap.size, 0, none⟩ = some (.int .i64 p1_0) ∧ w'.cell? ⟨w5.heap.size, 1, none⟩ = some (.int .i64 p1_1) ∧ w'.cell? ⟨w5.heap.size, 2, none⟩ = some (.slice Axp1_2 p1_2.length cxp1_2) ∧ Hid (Below w7.heap.size w7 w')) := Lib.hid (fun w' H => ⟨(H.out.cell (p := ⟨w.heap.size, 0, none⟩) hlhpp1_).trans hpp1_0, (H.out.cell (p := ⟨w.heap.size, 1, none⟩) hlhpp1_).trans hpp1_1, (H.out.cell (p := ⟨w.heap.size, 2, none⟩) hlhpp1_).trans hpp1_2, (H.out.cell (p := ⟨w5.heap.size, 0, none⟩) hlhxp1_).trans hxp1_0, (H.out.cell (p := ⟨w5.heap.size, 1, none⟩) hlhxp1_).trans hxp1_1, (H.out.cell (p := ⟨w5.heap.size, 2, none⟩) hlhxp1_).trans hxp1_2, H⟩)
  go_wp2_with fail
  go_region_held3 (fun w' => w'.cell? ⟨w.heap.size, 0, none⟩ = some (.int .i64 p1_0) ∧ w'.cell? ⟨w.heap.size, 1, none⟩ = some (.int .i64 p1_1) ∧ w'.cell? ⟨w.heap.size, 2, none⟩ = some (.slice Aup1_2 p1_2.length cup1_2) ∧ w'.cell? ⟨w5.heap.size, 0, none⟩ = some (.int .i64 p1_0) ∧ w'.cell? ⟨w5.heap.size, 1, none⟩ = some (.int .i64 p1_1) ∧ w'.cell? ⟨w5.heap.size, 2, none⟩ = some (.slice Axp1_2 p1_2.length cxp1_2) ∧ Hid (Below w7.heap.size w7 w'))
    (exact HELD.out _ (by assumption))
    (first
      | (go_at_call 32; go_split_ands; refine (toRelation_fr w7 _ (by assumption) p1_0 p1_1 p1_2 _ HV62.out hsp1_2).mono ?_; rintro e wa ⟨vyp1_2, rfl, ba, bb, oyp1_2⟩)
      | (go_at_call 19; go_split_ands; refine (eqRelation_fr w7 _ (by assumption) p1_0 p1_1 p1_2 _ _ HG62.out (by assumption)).mono ?_; rintro e w8 ⟨rfl, bc⟩))
  have hstep := bc.out
  clear HD HELD HV62 HG62 oyp1_2 ba bb bc
  replace hpp1_0 := (hstep.cell (p := ⟨w.heap.size, 0, none⟩) hlhpp1_).trans hpp1_0
  replace hpp1_1 := (hstep.cell (p := ⟨w.heap.size, 1, none⟩) hlhpp1_).trans hpp1_1
  replace hpp1_2 := (hstep.cell (p := ⟨w.heap.size, 2, none⟩) hlhpp1_).trans hpp1_2
  replace hlhpp1_ : w.heap.size < w8.heap.size := Nat.lt_of_lt_of_le hlhpp1_ hstep.size
  replace hpp2_0 := (hstep.cell (p := ⟨w.heap.size + 1, 0, none⟩) hlhpp2_).trans hpp2_0
  replace hpp2_1 := (hstep.cell (p := ⟨w.heap.size + 1, 1, none⟩) hlhpp2_).trans hpp2_1
  replace hpp2_2 := (hstep.cell (p := ⟨w.heap.size + 1, 2, none⟩) hlhpp2_).trans hpp2_2
  replace hlhpp2_ : w.heap.size + 1 < w8.heap.size := Nat.lt_of_lt_of_le hlhpp2_ hstep.size
  replace hxp1_0 := (hstep.cell (p := ⟨w5.heap.size, 0, none⟩) hlhxp1_).trans hxp1_0
  replace hxp1_1 := (hstep.cell (p := ⟨w5.heap.size, 1, none⟩) hlhxp1_).trans hxp1_1
  replace hxp1_2 := (hstep.cell (p := ⟨w5.heap.size, 2, none⟩) hlhxp1_).trans hxp1_2
  replace hlhxp1_ : w5.heap.size < w8.heap.size := Nat.lt_of_lt_of_le hlhxp1_ hstep.size
  replace hxp2_0 := (hstep.cell (p := ⟨w6.heap.size, 0, none⟩) hlhxp2_).trans hxp2_0
  replace hxp2_1 := (hstep.cell (p := ⟨w6.heap.size, 1, none⟩) hlhxp2_).trans hxp2_1
  replace hxp2_2 := (hstep.cell (p := ⟨w6.heap.size, 2, none⟩) hlhxp2_).trans hxp2_2
  replace hlhxp2_ : w6.heap.size < w8.heap.size := Nat.lt_of_lt_of_le hlhxp2_ hstep.size
  replace HOxp1_2 := Lib.hid (HOxp1_2.out.below hstep (fun _ _ hq => hq))
  replace HOxp2_2 := Lib.hid (HOxp2_2.out.below hstep (fun _ _ hq => hq))
  replace HBN := Lib.hid (HBN.out.trans (hstep.mono HBN.out.size))
  have hzw8 : w7.heap.size ≤ w8.heap.size := hstep.size
  clear hstep
  have HD : Hid (Below w8.heap.size w8 w8.drew) := Lib.hid (Below.refl _ _).drew
  have HV62 := Lib.hid ((HVp2_2.out.below HBN.out (Nat.le_refl _)).mono HBN.out.size)
  have HG62 := Lib.hid (HOxp2_2.out.rd)
  have HELD : Hid (∀ w' : World, Hid (Below w8.heap.size w8 w') → w'.cell? ⟨w.heap.size + 1, 0, none⟩ = some (.int .i64 p2_0) ∧ w'.cell? ⟨w.heap.size + 1, 1, none⟩ = some (.int .i64 p2_1) ∧ w'.cell? ⟨w.heap.size + 1, 2, none⟩ = some (.slice Aup2_2 p2_2.length cup2_2) ∧ w'.cell? ⟨w6.heap.size, 0, none⟩ = some (.int .i64 p2_0) ∧ w'.cell? ⟨w6.heap.size, 1, none⟩ = some (.int .i64 p2_1) ∧ w'.cell? ⟨w6.heap.size, 2, none⟩ = some (.slice Axp2_2 p2_2.length cxp2_2) ∧ Hid (Below w8.heap.size w8 w')) := Lib.hid (fun w' H => ⟨(H.out.cell (p := ⟨w.heap.size + 1, 0, none⟩) hlhpp2_).trans hpp2_0, (H.out.cell (p := ⟨w.heap.size + 1, 1, none⟩) hlhpp2_).trans hpp2_1, (H.out.cell (p := ⟨w.heap.size + 1, 2, none⟩) hlhpp2_).trans hpp2_2, (H.out.cell (p := ⟨w6.heap.size, 0, none⟩) hlhxp2_).trans hxp2_0, (H.out.cell (p := ⟨w6.heap.size, 1, none⟩) hlhxp2_).trans hxp2_1, (H.out.cell (p := ⟨w6.heap.size, 2, none⟩) hlhxp2_).trans hxp2_2, H⟩)
  go_wp2_with fail
  go_region_held3 (fun w' => w'.cell? ⟨w.heap.size + 1, 0, none⟩ = some (.int .i64 p2_0) ∧ w'.cell? ⟨w.heap.size + 1, 1, none⟩ = some (.int .i64 p2_1) ∧ w'.cell? ⟨w.heap.size + 1, 2, none⟩ = some (.slice Aup2_2 p2_2.length cup2_2) ∧ w'.cell? ⟨w6.heap.size, 0, none⟩ = some (.int .i64 p2_0) ∧ w'.cell? ⟨w6.heap.size, 1, none⟩ = some (.int .i64 p2_1) ∧ w'.cell? ⟨w6.heap.size, 2, none⟩ = some (.slice Axp2_2 p2_2.length cxp2_2) ∧ Hid (Below w8.heap.size w8 w'))
    (exact HELD.out _ (by assumption))
    (first
      | (go_at_call 32; go_split_ands; refine (toRelation_fr w8 _ (by assumption) p2_0 p2_1 p2_2 _ HV62.out hsp2_2).mono ?_; rintro e wa ⟨vyp2_2, rfl, ba, bb, oyp2_2⟩)
      | (go_at_call 19; go_split_ands; refine (eqRelation_fr w8 _ (by assumption) p2_0 p2_1 p2_2 _ _ HG62.out (by assumption)).mono ?_; rintro e w9 ⟨rfl, bc⟩))
  have hstep := bc.out
  clear HD HELD HV62 HG62 oyp2_2 ba bb bc
  replace hpp1_0 := (hstep.cell (p := ⟨w.heap.size, 0, none⟩) hlhpp1_).trans hpp1_0
  replace hpp1_1 := (hstep.cell (p := ⟨w.heap.size, 1, none⟩) hlhpp1_).trans hpp1_1
  replace hpp1_2 := (hstep.cell (p := ⟨w.heap.size, 2, none⟩) hlhpp1_).trans hpp1_2
  replace hlhpp1_ : w.heap.size < w9.heap.size := Nat.lt_of_lt_of_le hlhpp1_ hstep.size
  replace hpp2_0 := (hstep.cell (p := ⟨w.heap.size + 1, 0, none⟩) hlhpp2_).trans hpp2_0
  replace hpp2_1 := (hstep.cell (p := ⟨w.heap.size + 1, 1, none⟩) hlhpp2_).trans hpp2_1
  replace hpp2_2 := (hstep.cell (p := ⟨w.heap.size + 1, 2, none⟩) hlhpp2_).trans hpp2_2
  replace hlhpp2_ : w.heap.size + 1 < w9.heap.size := Nat.lt_of_lt_of_le hlhpp2_ hstep.size
  replace hxp1_0 := (hstep.cell (p := ⟨w5.heap.size, 0, none⟩) hlhxp1_).trans hxp1_0
  replace hxp1_1 := (hstep.cell (p := ⟨w5.heap.size, 1, none⟩) hlhxp1_).trans hxp1_1
  replace hxp1_2 := (hstep.cell (p := ⟨w5.heap.size, 2, none⟩) hlhxp1_).trans hxp1_2
  replace hlhxp1_ : w5.heap.size < w9.heap.size := Nat.lt_of_lt_of_le hlhxp1_ hstep.size
  replace hxp2_0 := (hstep.cell (p := ⟨w6.heap.size, 0, none⟩) hlhxp2_).trans hxp2_0
  replace hxp2_1 := (hstep.cell (p := ⟨w6.heap.size, 1, none⟩) hlhxp2_).trans hxp2_1
  replace hxp2_2 := (hstep.cell (p := ⟨w6.heap.size, 2, none⟩) hlhxp2_).trans hxp2_2
  replace hlhxp2_ : w6.heap.size < w9.heap.size := Nat.lt_of_lt_of_le hlhxp2_ hstep.size
  replace HOxp1_2 := Lib.hid (HOxp1_2.out.below hstep (fun _ _ hq => hq))
  replace HOxp2_2 := Lib.hid (HOxp2_2.out.below hstep (fun _ _ hq => hq))
  replace HBN := Lib.hid (HBN.out.trans (hstep.mono HBN.out.size))
  have hzw9 : w8.heap.size ≤ w9.heap.size := hstep.size
  clear hstep
  go_wp2
  go_ret
  exact ⟨rfl, HBN.out⟩
end Go.Proofs.YtpoghbdomknfcaaDoor
