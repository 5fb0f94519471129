/- The harness of the law FnExactReplaceAt: it returns true if both functions return what they should. -/
import Derived.Test.YtbeaihjiablcbaaTTerm
import Derived.Test.YtbeaihjiablcbaaRetTermB
import Derived.Test.YtbeaihjiablcbaaFdWalks
import Derived.Deep.Cut
import Derived.Deep.QuietTactic
namespace Go.Proofs.Ytbeaihjiablcbaa
set_option maxRecDepth 100000
open Go Go.RowKit Go.Deep

set_option maxHeartbeats 6400000 in
set_option maxRecDepth 100000 in
theorem harness_ReplaceAt (p0_0 : List Nd) (p1_0 : Int) (p2_0 : List Nd) (up0_0 : Value) (up2_0 : Value) (w : World) (r0_0 : List Nd) (r1_0 : Bool) (hvp0_0 : LfN w w.heap.size up0_0 p0_0) (hvp2_0 : LfN w w.heap.size up2_0 p2_0) 
    (hspec : ∀ (w : World) (B : Nat) (vp0_0 : Value) (vp2_0 : Value) , LfN w B vp0_0 p0_0 → LfN w B vp2_0 p2_0 → B ≤ w.heap.size → szN p0_0 ≤ 1048576 → szN p2_0 ≤ 1048576 → Calls Try.prog 16 #[.agg #[vp0_0], .int .i64 p1_0, .agg #[vp2_0]] w (SRetTermB w r0_0 r1_0))
    (himpl : ∀ (w : World) (B : Nat) (vp0_0 : Value) (vp2_0 : Value) , LfN w B vp0_0 p0_0 → LfN w B vp2_0 p2_0 → B ≤ w.heap.size → szN p0_0 ≤ 1048576 → szN p2_0 ≤ 1048576 → Calls Try.prog 17 #[.agg #[vp0_0], .int .i64 p1_0, .agg #[vp2_0]] w (IRetTermB w r0_0 r1_0)) :
    Calls Try.prog 5 #[.agg #[up0_0], .int .i64 p1_0, .agg #[up2_0]] w fun e w' => e = .returned (.bool true) ∧ Below w.heap.size w w' := by
  have HBN := Lib.hid (Below.refl w.heap.size w)
  have HSP := Lib.hid hspec
  have HIM := Lib.hid himpl
  clear hspec himpl
  obtain ⟨Aup0_0, cup0_0, rfl⟩ := hvp0_0.len
  have HVp0_0 := Lib.hid hvp0_0
  clear hvp0_0
  obtain ⟨Aup2_0, cup2_0, rfl⟩ := hvp2_0.len
  have HVp2_0 := Lib.hid hvp2_0
  clear hvp2_0
  have hbbr1_0 : (r1_0 != r1_0) = false := by simp
  go_enter Try.func5, Try.ntmps5
  go_wp2_with fail
  refine (szTerm_ok _ w.heap.size p0_0 _ 1048576 ?_ ?_ (by omega) (by omega)).mono ?_
  · exact (HVp0_0.out.below HBN.out (Nat.le_refl _)).below (B' := w.heap.size) (by repeat' (first | exact Below.refl _ _ | apply Below.drew | apply Below.setCell | apply Below.alloc | (simp; done) | omega | (simp; omega))) HBN.out.size
  · (have := HBN.out.size; first | exact this | (simp; done) | (simp; omega))
  rintro e w2 ⟨b, h2⟩
  have hstep : Below w.heap.size w w2 := Below.trans (by repeat' (first | exact Below.refl _ _ | apply Below.drew | apply Below.setCell | apply Below.alloc | (simp; done) | omega | (simp; omega))) (b.mono (by (first | exact Nat.le_refl _ | (simp; done) | (simp; omega))))
  replace HBN := Lib.hid (HBN.out.trans (hstep.mono HBN.out.size))
  have hzw2 : w.heap.size ≤ w2.heap.size := hstep.size
  have hpp0_0 : w2.cell? ⟨w.heap.size, 0, none⟩ = some (.slice Aup0_0 p0_0.length cup0_0) := by have := b.cell (p := ⟨w.heap.size, 0, none⟩) (by first | (simp; done) | (simp; omega)); simpa [go_sem] using this
  have hlhpp0_ : w.heap.size < w2.heap.size := by have := b.size; simp at this; omega
  have hlhpp0_q := hlhpp0_
  have hpp2_0 : w2.cell? ⟨w.heap.size + 1, 0, none⟩ = some (.slice Aup2_0 p2_0.length cup2_0) := by have := b.cell (p := ⟨w.heap.size + 1, 0, none⟩) (by first | (simp; done) | (simp; omega)); simpa [go_sem] using this
  have hlhpp2_ : w.heap.size + 1 < w2.heap.size := by have := b.size; simp at this; omega
  have hlhpp2_q := hlhpp2_
  clear b hstep 
  rcases h2 with rfl | ⟨hle, h2⟩
  · go_wp2
    go_ret
    exact ⟨rfl, HBN.out⟩
  obtain ⟨zp0_, hzp0_a, hzp0_b, rfl⟩ : ∃ z : Int, 0 ≤ z ∧ z ≤ 1048576 ∧ e = .returned (.int .i64 z) := ⟨_, by omega, by omega, h2⟩
  have hsp0_0 : szN p0_0 ≤ 1048576 := by omega
  clear h2 hle
  go_wp2_with fail
  refine (szTerm_ok _ w.heap.size p2_0 _ zp0_ ?_ ?_ (by omega) (by omega)).mono ?_
  · exact (HVp2_0.out.below HBN.out (Nat.le_refl _)).below (B' := w2.heap.size) (by repeat' (first | exact Below.refl _ _ | apply Below.drew | apply Below.setCell | apply Below.alloc | (simp; done) | omega | (simp; omega))) HBN.out.size
  · (have := HBN.out.size; first | exact this | (simp; done) | (simp; omega))
  rintro e w3 ⟨b, h2⟩
  have hstep : Below w2.heap.size w2 w3 := Below.trans (by repeat' (first | exact Below.refl _ _ | apply Below.drew | apply Below.setCell | apply Below.alloc | (simp; done) | omega | (simp; omega))) (b.mono (by (first | exact Nat.le_refl _ | (simp; done) | (simp; omega))))
  replace hpp0_0 := (hstep.cell (p := ⟨w.heap.size, 0, none⟩) hlhpp0_).trans hpp0_0
  replace hlhpp0_ : w.heap.size < w3.heap.size := Nat.lt_of_lt_of_le hlhpp0_ hstep.size
  replace hpp2_0 := (hstep.cell (p := ⟨w.heap.size + 1, 0, none⟩) hlhpp2_).trans hpp2_0
  replace hlhpp2_ : w.heap.size + 1 < w3.heap.size := Nat.lt_of_lt_of_le hlhpp2_ hstep.size
  replace HBN := Lib.hid (HBN.out.trans (hstep.mono HBN.out.size))
  have hzw3 : w2.heap.size ≤ w3.heap.size := hstep.size
  clear b hstep 
  rcases h2 with rfl | ⟨hle, h2⟩
  · go_wp2
    go_ret
    exact ⟨rfl, HBN.out⟩
  obtain ⟨zp2_, hzp2_a, hzp2_b, rfl⟩ : ∃ z : Int, 0 ≤ z ∧ z ≤ 1048576 ∧ e = .returned (.int .i64 z) := ⟨_, by omega, by omega, h2⟩
  have hsp2_0 : szN p2_0 ≤ 1048576 := by omega
  clear h2 hle
  have HD : Hid (Below w3.heap.size w3 w3.drew) := Lib.hid (Below.refl _ _).drew
  have HV6p0_0 := Lib.hid ((HVp0_0.out.below HBN.out (Nat.le_refl _)).mono HBN.out.size)
  have HV6p2_0 := Lib.hid ((HVp2_0.out.below HBN.out (Nat.le_refl _)).mono HBN.out.size)
  have HELD : Hid (∀ w' : World, Hid (Below w3.heap.size w3 w') → w'.cell? ⟨w.heap.size, 0, none⟩ = some (.slice Aup0_0 p0_0.length cup0_0) ∧ w'.cell? ⟨w.heap.size + 1, 0, none⟩ = some (.slice Aup2_0 p2_0.length cup2_0) ∧ Hid (Below w3.heap.size w3 w')) := Lib.hid (fun w' H => ⟨(H.out.cell (p := ⟨w.heap.size, 0, none⟩) hlhpp0_).trans hpp0_0, (H.out.cell (p := ⟨w.heap.size + 1, 0, none⟩) hlhpp2_).trans hpp2_0, H⟩)
  go_upto_region 8 with fail
  go_cut [8, 9] from 19 (fun s8 s9 wc => ∃ (nb : Nat) (Awr0_0 : Option Addr) (cwr0_0 : Nat), s8 = .pointer (some ⟨nb, 0, none⟩) ∧ s9 = .bool r1_0 ∧ wc.cell? ⟨nb, 0, none⟩ = some (.slice Awr0_0 r0_0.length cwr0_0) ∧ nb < wc.heap.size ∧ Hid (Below w3.heap.size w3 wc) ∧ OwnN wc (fun k => w3.heap.size ≤ k) (.slice Awr0_0 r0_0.length cwr0_0) r0_0)
  case first =>
    go_region_held3 (fun w' => w'.cell? ⟨w.heap.size, 0, none⟩ = some (.slice Aup0_0 p0_0.length cup0_0) ∧ w'.cell? ⟨w.heap.size + 1, 0, none⟩ = some (.slice Aup2_0 p2_0.length cup2_0) ∧ Hid (Below w3.heap.size w3 w'))
      (exact HELD.out _ (by first | assumption | (refine Lib.hid ?_; repeat' (first | exact Below.refl _ _ | exact Hid.out (by assumption) | apply Below.drew | apply Below.setCell | apply Below.alloc | (simp; done) | omega | (simp; omega)))))
      (first
        | (go_at_call_of 9 Aup0_0; go_split_ands; refine (toTerm_fr w3 _ (by assumption) p0_0 _ HV6p0_0.out hsp0_0).mono ?_; rintro e wa0 ⟨vyp0_0, rfl, ba0, bb0, oyp0_0⟩; have sb0 : w3.heap.size ≤ wa0.heap.size := (by have := ba0.out.size; (try simp at this); omega); (try ((first | have hbx0 := box_behind ba0.out | have hbx0 := box_behind' ba0.out); change wa0.heap[w3.heap.size]? = some (.cells #[.slice none 0 0] 28 (0, 0)) at hbx0; have hbl0 : w3.heap.size < wa0.heap.size := (Array.getElem?_eq_some_iff.1 hbx0).1)))
        | (go_at_call_of 9 Aup2_0; go_split_ands; refine (toTerm_fr w3 _ (by assumption) p2_0 _ HV6p2_0.out hsp2_0).mono ?_; rintro e wa1 ⟨vyp2_0, rfl, ba1, bb1, oyp2_0⟩; have sb1 : wa0.heap.size ≤ wa1.heap.size := (by have := ba1.out.size; (try simp at this); omega); have bq1 : Hid (Below wa0.heap.size wa0 wa1) := Lib.hid (Below.trans (by repeat' (first | exact Below.refl _ _ | apply Below.drew | apply Below.setCell | apply Below.alloc | (simp; done) | omega | (simp; omega))) (ba1.out.mono (by first | exact Nat.le_refl _ | (simp; done) | omega | (simp; omega)))); (try (replace hbx0 := box_kept hbx0 ba1.out)); (try ((first | have hbx1 := box_behind ba1.out | have hbx1 := box_behind' ba1.out); change wa1.heap[wa0.heap.size]? = some (.cells #[.slice none 0 0] 28 (0, 0)) at hbx1; have hbl1 : wa0.heap.size < wa1.heap.size := (Array.getElem?_eq_some_iff.1 hbx1).1)))
        | (go_at_call 16; go_split_ands; refine (HSP.out _ _ _ _ ((((oyp0_0.out.below bq1.out (by first | omega | (simp; done) | (simp; omega)))).below (B' := wa1.heap.size) (by repeat' (first | exact Below.refl _ _ | apply Below.drew | apply Below.setCell | apply Below.alloc | (simp; done) | omega | (simp; omega))) (by first | omega | (simp; done) | (simp; omega))).mono (by first | omega | (simp; done) | (simp; omega))) (((oyp2_0.out).below (B' := wa1.heap.size) (by repeat' (first | exact Below.refl _ _ | apply Below.drew | apply Below.setCell | apply Below.alloc | (simp; done) | omega | (simp; omega))) (by first | omega | (simp; done) | (simp; omega))).mono (by first | omega | (simp; done) | (simp; omega))) (Nat.le_refl _) hsp0_0 hsp2_0).mono ?_; rintro e w4 ⟨vwr0_0, rfl, b, owr0_0⟩; obtain ⟨Awr0_0, cwr0_0, rfl⟩ := owr0_0.len; have hstep : Below w3.heap.size w3 w4 := (Hid.out (by assumption : Hid (Below w3.heap.size w3 _))).trans (b.mono (Hid.out (by assumption : Hid (Below w3.heap.size w3 _))).size); have HZZ := Lib.hid hstep; have hzz : wa1.heap.size ≤ w4.heap.size := (by have := b.size; (try simp at this); omega); (try (replace hbx0 := box_kept hbx0 b)); (try (replace hbx1 := box_kept hbx1 b)); (try ((first | have hbx2 := box_behind b | have hbx2 := box_behind' b); change w4.heap[wa1.heap.size]? = some (.cells #[.slice none 0 0] 28 (0, 0)) at hbx2; have hbl2 : wa1.heap.size < w4.heap.size := (Array.getElem?_eq_some_iff.1 hbx2).1)); (try (have hbc0_0 : w4.cell? ⟨w3.heap.size, 0, none⟩ = some (.slice none 0 0) := box_cell hbx0 0)); (try (have hbc1_0 : w4.cell? ⟨wa0.heap.size, 0, none⟩ = some (.slice none 0 0) := box_cell hbx1 0)); (try (have hbc2_0 : w4.cell? ⟨wa1.heap.size, 0, none⟩ = some (.slice none 0 0) := box_cell hbx2 0)); (try (have hbf0 := box_free hbx0)); (try (have hbf1 := box_free hbx1)); (try (have hbf2 := box_free hbx2))))
    all_goals go_wp2_with fail
    all_goals go_meet
    all_goals exact ⟨_, _, _, rfl, rfl, (by simp [go_sem, *]), (by first | (simp; done) | omega | (simp; omega)), Lib.hid (by repeat' (first | exact hstep | exact HZZ.out | apply Below.drew | apply Below.setCell | apply Below.alloc | (simp; done) | omega | (simp; omega))), ((owr0_0.blocks (fun k hk hl => by (try simp at hk); (repeat (first | rw [blk_setCell_other _ _ _ _ (by dsimp only; omega)] | rw [blk_alloc_lt _ _ _ hl])); try rfl)).mono (fun k hk hl => by (try simp at hk); omega))⟩
  obtain ⟨nbw, Awr0_0, cwr0_0, rfl, rfl, hwr0_0, hlhwr0_, hstep0, owr0_0⟩ := hcut
  have hstep := hstep0.out
  clear hstep0 HD HELD HV6p0_0 HV6p2_0
  obtain ⟨w4, rfl⟩ : ∃ x, x = wc := ⟨_, rfl⟩
  replace hpp0_0 := (hstep.cell (p := ⟨w.heap.size, 0, none⟩) hlhpp0_).trans hpp0_0
  replace hlhpp0_ : w.heap.size < w4.heap.size := Nat.lt_of_lt_of_le hlhpp0_ hstep.size
  replace hpp2_0 := (hstep.cell (p := ⟨w.heap.size + 1, 0, none⟩) hlhpp2_).trans hpp2_0
  replace hlhpp2_ : w.heap.size + 1 < w4.heap.size := Nat.lt_of_lt_of_le hlhpp2_ hstep.size
  replace HBN := Lib.hid (HBN.out.trans (hstep.mono HBN.out.size))
  have hzw4 : w3.heap.size ≤ w4.heap.size := hstep.size
  have hlhwr0_q := hlhwr0_
  obtain ⟨SHOwr0_0, HSHOwr0_0, HOwr0_0⟩ : ∃ S : Nat → Prop, Hid (∀ k, S k → w3.heap.size ≤ k ∧ k < w4.heap.size) ∧ Hid (OwnN w4 S (.slice Awr0_0 r0_0.length cwr0_0) r0_0) := ⟨fun k => w3.heap.size ≤ k ∧ k < w4.heap.size, Lib.hid (fun k hk => hk), Lib.hid (owr0_0.mono (fun k hk hk2 => ⟨by have hk3 := hk; (try simp at hk3); omega, hk2⟩))⟩
  clear hstep owr0_0
  go_wp2_with fail
  refine (toTerm_ok _ w.heap.size p0_0 _ ?_ ?_ hsp0_0).mono ?_
  · exact (HVp0_0.out.below HBN.out (Nat.le_refl _)).below (B' := w4.heap.size) (by repeat' (first | exact Below.refl _ _ | apply Below.drew | apply Below.setCell | apply Below.alloc | (simp; done) | omega | (simp; omega))) HBN.out.size
  · (have := HBN.out.size; first | exact this | (simp; done) | (simp; omega))
  rintro e w5 ⟨vxp0_0, rfl, b, oxp0_0⟩
  obtain ⟨Axp0_0, cxp0_0, rfl⟩ := oxp0_0.len
  have hstep : Below w4.heap.size w4 w5 := Below.trans (by repeat' (first | exact Below.refl _ _ | apply Below.drew | apply Below.setCell | apply Below.alloc | (simp; done) | omega | (simp; omega))) (b.mono (by (first | exact Nat.le_refl _ | (simp; done) | (simp; omega))))
  replace hpp0_0 := (hstep.cell (p := ⟨w.heap.size, 0, none⟩) hlhpp0_).trans hpp0_0
  replace hlhpp0_ : w.heap.size < w5.heap.size := Nat.lt_of_lt_of_le hlhpp0_ hstep.size
  replace hpp2_0 := (hstep.cell (p := ⟨w.heap.size + 1, 0, none⟩) hlhpp2_).trans hpp2_0
  replace hlhpp2_ : w.heap.size + 1 < w5.heap.size := Nat.lt_of_lt_of_le hlhpp2_ hstep.size
  replace hwr0_0 := (hstep.cell (p := ⟨nbw, 0, none⟩) hlhwr0_).trans hwr0_0
  replace hlhwr0_ : nbw < w5.heap.size := Nat.lt_of_lt_of_le hlhwr0_ hstep.size
  replace HOwr0_0 := Lib.hid (HOwr0_0.out.below hstep (fun _ _ hq => hq))
  replace HBN := Lib.hid (HBN.out.trans (hstep.mono HBN.out.size))
  have hzw5 : w4.heap.size ≤ w5.heap.size := hstep.size
  obtain ⟨SHOxp0_0, HSHOxp0_0, HOxp0_0⟩ : ∃ S : Nat → Prop, Hid (∀ k, S k → w4.heap.size + 0 ≤ k ∧ k < w5.heap.size) ∧ Hid (OwnN w5 S (.slice Axp0_0 p0_0.length cxp0_0) p0_0) := ⟨fun k => w4.heap.size + 0 ≤ k ∧ k < w5.heap.size, Lib.hid (fun k hk => hk), Lib.hid (oxp0_0.mono (fun k hk hk2 => ⟨by have hk3 := hk; (try simp at hk3); omega, hk2⟩))⟩
  clear b hstep oxp0_0
  go_wp2_with fail
  refine (toTerm_ok _ w.heap.size p2_0 _ ?_ ?_ hsp2_0).mono ?_
  · exact (HVp2_0.out.below HBN.out (Nat.le_refl _)).below (B' := w5.heap.size) (by repeat' (first | exact Below.refl _ _ | apply Below.drew | apply Below.setCell | apply Below.alloc | (simp; done) | omega | (simp; omega))) HBN.out.size
  · (have := HBN.out.size; first | exact this | (simp; done) | (simp; omega))
  rintro e w6 ⟨vxp2_0, rfl, b, oxp2_0⟩
  obtain ⟨Axp2_0, cxp2_0, rfl⟩ := oxp2_0.len
  have hstep : Below w5.heap.size w5 w6 := Below.trans (by repeat' (first | exact Below.refl _ _ | apply Below.drew | apply Below.setCell | apply Below.alloc | (simp; done) | omega | (simp; omega))) (b.mono (by (first | exact Nat.le_refl _ | (simp; done) | (simp; omega))))
  replace hpp0_0 := (hstep.cell (p := ⟨w.heap.size, 0, none⟩) hlhpp0_).trans hpp0_0
  replace hlhpp0_ : w.heap.size < w6.heap.size := Nat.lt_of_lt_of_le hlhpp0_ hstep.size
  replace hpp2_0 := (hstep.cell (p := ⟨w.heap.size + 1, 0, none⟩) hlhpp2_).trans hpp2_0
  replace hlhpp2_ : w.heap.size + 1 < w6.heap.size := Nat.lt_of_lt_of_le hlhpp2_ hstep.size
  replace hwr0_0 := (hstep.cell (p := ⟨nbw, 0, none⟩) hlhwr0_).trans hwr0_0
  replace hlhwr0_ : nbw < w6.heap.size := Nat.lt_of_lt_of_le hlhwr0_ hstep.size
  replace HOwr0_0 := Lib.hid (HOwr0_0.out.below hstep (fun _ _ hq => hq))
  replace HOxp0_0 := Lib.hid (HOxp0_0.out.below hstep (fun _ _ hq => hq))
  replace HBN := Lib.hid (HBN.out.trans (hstep.mono HBN.out.size))
  have hzw6 : w5.heap.size ≤ w6.heap.size := hstep.size
  have hxp0_0 : w6.cell? ⟨w5.heap.size, 0, none⟩ = some (.slice Axp0_0 p0_0.length cxp0_0) := by have := b.cell (p := ⟨w5.heap.size, 0, none⟩) (by first | (simp; done) | (simp; omega)); simpa [go_sem] using this
  have hlhxp0_ : w5.heap.size < w6.heap.size := by have := b.size; simp at this; omega
  have hlhxp0_q := hlhxp0_
  obtain ⟨SHOxp2_0, HSHOxp2_0, HOxp2_0⟩ : ∃ S : Nat → Prop, Hid (∀ k, S k → w5.heap.size + 1 ≤ k ∧ k < w6.heap.size) ∧ Hid (OwnN w6 S (.slice Axp2_0 p2_0.length cxp2_0) p2_0) := ⟨fun k => w5.heap.size + 1 ≤ k ∧ k < w6.heap.size, Lib.hid (fun k hk => hk), Lib.hid (oxp2_0.mono (fun k hk hk2 => ⟨by have hk3 := hk; (try simp at hk3); omega, hk2⟩))⟩
  clear b hstep oxp2_0
  go_wp2_with fail
  refine (HIM.out _ w6.heap.size _ _ ?_ ?_ ?_ hsp0_0 hsp2_0).mono ?_
  · exact (HOxp0_0.out.rd).below (B' := w6.heap.size) (by repeat' (first | exact Below.refl _ _ | apply Below.drew | apply Below.setCell | apply Below.alloc | (simp; done) | omega | (simp; omega))) (Nat.le_refl _)
  · exact (HOxp2_0.out.rd).below (B' := w6.heap.size) (by repeat' (first | exact Below.refl _ _ | apply Below.drew | apply Below.setCell | apply Below.alloc | (simp; done) | omega | (simp; omega))) (Nat.le_refl _)
  · (first | exact Nat.le_refl _ | (simp; done) | (simp; omega))
  rintro e w7 ⟨vgr0_0, rfl, b, ogr0_0⟩
  obtain ⟨Agr0_0, cgr0_0, rfl⟩ := ogr0_0.len
  have hstep : Below w6.heap.size w6 w7 := Below.trans (by repeat' (first | exact Below.refl _ _ | apply Below.drew | apply Below.setCell | apply Below.alloc | (simp; done) | omega | (simp; omega))) (b.mono (by (first | exact Nat.le_refl _ | (simp; done) | (simp; omega))))
  replace hpp0_0 := (hstep.cell (p := ⟨w.heap.size, 0, none⟩) hlhpp0_).trans hpp0_0
  replace hlhpp0_ : w.heap.size < w7.heap.size := Nat.lt_of_lt_of_le hlhpp0_ hstep.size
  replace hpp2_0 := (hstep.cell (p := ⟨w.heap.size + 1, 0, none⟩) hlhpp2_).trans hpp2_0
  replace hlhpp2_ : w.heap.size + 1 < w7.heap.size := Nat.lt_of_lt_of_le hlhpp2_ hstep.size
  replace hwr0_0 := (hstep.cell (p := ⟨nbw, 0, none⟩) hlhwr0_).trans hwr0_0
  replace hlhwr0_ : nbw < w7.heap.size := Nat.lt_of_lt_of_le hlhwr0_ hstep.size
  replace hxp0_0 := (hstep.cell (p := ⟨w5.heap.size, 0, none⟩) hlhxp0_).trans hxp0_0
  replace hlhxp0_ : w5.heap.size < w7.heap.size := Nat.lt_of_lt_of_le hlhxp0_ hstep.size
  replace HOwr0_0 := Lib.hid (HOwr0_0.out.below hstep (fun _ _ hq => hq))
  replace HOxp0_0 := Lib.hid (HOxp0_0.out.below hstep (fun _ _ hq => hq))
  replace HOxp2_0 := Lib.hid (HOxp2_0.out.below hstep (fun _ _ hq => hq))
  replace HBN := Lib.hid (HBN.out.trans (hstep.mono HBN.out.size))
  have hzw7 : w6.heap.size ≤ w7.heap.size := hstep.size
  have hxp2_0 : w7.cell? ⟨w6.heap.size, 0, none⟩ = some (.slice Axp2_0 p2_0.length cxp2_0) := by have := b.cell (p := ⟨w6.heap.size, 0, none⟩) (by first | (simp; done) | (simp; omega)); simpa [go_sem] using this
  have hlhxp2_ : w6.heap.size < w7.heap.size := by have := b.size; simp at this; omega
  have hlhxp2_q := hlhxp2_
  obtain ⟨SHOgr0_0, HSHOgr0_0, HOgr0_0⟩ : ∃ S : Nat → Prop, Hid (∀ k, S k → w6.heap.size + 1 ≤ k ∧ k < w7.heap.size) ∧ Hid (OwnN w7 S (.slice Agr0_0 r0_0.length cgr0_0) r0_0) := ⟨fun k => w6.heap.size + 1 ≤ k ∧ k < w7.heap.size, Lib.hid (fun k hk => hk), Lib.hid (ogr0_0.mono (fun k hk hk2 => ⟨by have hk3 := hk; (try simp at hk3); omega, hk2⟩))⟩
  clear b hstep ogr0_0
  go_wp2_with fail
  refine (eqTerm_ok _ w7.heap.size r0_0 _ _ ?_ ?_ ?_).mono ?_
  · exact (HOgr0_0.out.rd).below (B' := w7.heap.size) (by repeat' (first | exact Below.refl _ _ | apply Below.drew | apply Below.setCell | apply Below.alloc | (simp; done) | omega | (simp; omega))) (Nat.le_refl _)
  · exact (HOwr0_0.out.rd).below (B' := w7.heap.size) (by repeat' (first | exact Below.refl _ _ | apply Below.drew | apply Below.setCell | apply Below.alloc | (simp; done) | omega | (simp; omega))) (Nat.le_refl _)
  · (first | exact Nat.le_refl _ | (simp; done) | (simp; omega))
  rintro e w8 ⟨rfl, b⟩
  have hstep : Below w7.heap.size w7 w8 := Below.trans (by repeat' (first | exact Below.refl _ _ | apply Below.drew | apply Below.setCell | apply Below.alloc | (simp; done) | omega | (simp; omega))) (b.mono (by (first | exact Nat.le_refl _ | (simp; done) | (simp; omega))))
  replace hpp0_0 := (hstep.cell (p := ⟨w.heap.size, 0, none⟩) hlhpp0_).trans hpp0_0
  replace hlhpp0_ : w.heap.size < w8.heap.size := Nat.lt_of_lt_of_le hlhpp0_ hstep.size
  replace hpp2_0 := (hstep.cell (p := ⟨w.heap.size + 1, 0, none⟩) hlhpp2_).trans hpp2_0
  replace hlhpp2_ : w.heap.size + 1 < w8.heap.size := Nat.lt_of_lt_of_le hlhpp2_ hstep.size
  replace hwr0_0 := (hstep.cell (p := ⟨nbw, 0, none⟩) hlhwr0_).trans hwr0_0
  replace hlhwr0_ : nbw < w8.heap.size := Nat.lt_of_lt_of_le hlhwr0_ hstep.size
  replace hxp0_0 := (hstep.cell (p := ⟨w5.heap.size, 0, none⟩) hlhxp0_).trans hxp0_0
  replace hlhxp0_ : w5.heap.size < w8.heap.size := Nat.lt_of_lt_of_le hlhxp0_ hstep.size
  replace hxp2_0 := (hstep.cell (p := ⟨w6.heap.size, 0, none⟩) hlhxp2_).trans hxp2_0
  replace hlhxp2_ : w6.heap.size < w8.heap.size := Nat.lt_of_lt_of_le hlhxp2_ hstep.size
  replace HOwr0_0 := Lib.hid (HOwr0_0.out.below hstep (fun _ _ hq => hq))
  replace HOxp0_0 := Lib.hid (HOxp0_0.out.below hstep (fun _ _ hq => hq))
  replace HOxp2_0 := Lib.hid (HOxp2_0.out.below hstep (fun _ _ hq => hq))
  replace HOgr0_0 := Lib.hid (HOgr0_0.out.below hstep (fun _ _ hq => hq))
  replace HBN := Lib.hid (HBN.out.trans (hstep.mono HBN.out.size))
  have hzw8 : w7.heap.size ≤ w8.heap.size := hstep.size
  have hgr0_0 : w8.cell? ⟨w7.heap.size, 0, none⟩ = some (.slice Agr0_0 r0_0.length cgr0_0) := by have := b.cell (p := ⟨w7.heap.size, 0, none⟩) (by first | (simp; done) | (simp; omega)); simpa [go_sem] using this
  have hlhgr0_ : w7.heap.size < w8.heap.size := by have := b.size; simp at this; omega
  have hlhgr0_q := hlhgr0_
  clear b hstep 
  have HD : Hid (Below w8.heap.size w8 w8.drew) := Lib.hid (Below.refl _ _).drew
  have HV60 := Lib.hid ((HVp0_0.out.below HBN.out (Nat.le_refl _)).mono HBN.out.size)
  have HG60 := Lib.hid (HOxp0_0.out.rd)
  have HELD : Hid (∀ w' : World, Hid (Below w8.heap.size w8 w') → w'.cell? ⟨w.heap.size, 0, none⟩ = some (.slice Aup0_0 p0_0.length cup0_0) ∧ w'.cell? ⟨w5.heap.size, 0, none⟩ = some (.slice Axp0_0 p0_0.length cxp0_0) ∧ Hid (Below w8.heap.size w8 w')) := Lib.hid (fun w' H => ⟨(H.out.cell (p := ⟨w.heap.size, 0, none⟩) hlhpp0_).trans hpp0_0, (H.out.cell (p := ⟨w5.heap.size, 0, none⟩) hlhxp0_).trans hxp0_0, H⟩)
  go_wp2_with fail
  go_region_held3 (fun w' => w'.cell? ⟨w.heap.size, 0, none⟩ = some (.slice Aup0_0 p0_0.length cup0_0) ∧ w'.cell? ⟨w5.heap.size, 0, none⟩ = some (.slice Axp0_0 p0_0.length cxp0_0) ∧ Hid (Below w8.heap.size w8 w'))
    (exact HELD.out _ (by assumption))
    (first
      | (go_at_call 9; go_split_ands; refine (toTerm_fr w8 _ (by assumption) p0_0 _ HV60.out hsp0_0).mono ?_; rintro e wa ⟨vyp0_0, rfl, ba, bb, oyp0_0⟩)
      | (go_at_call 11; go_split_ands; refine (eqTerm_fr w8 _ (by assumption) p0_0 _ _ HG60.out (by assumption)).mono ?_; rintro e w9 ⟨rfl, bc⟩))
  have hstep := bc.out
  clear HD HELD HV60 HG60 oyp0_0 ba bb bc
  replace hpp0_0 := (hstep.cell (p := ⟨w.heap.size, 0, none⟩) hlhpp0_).trans hpp0_0
  replace hlhpp0_ : w.heap.size < w9.heap.size := Nat.lt_of_lt_of_le hlhpp0_ hstep.size
  replace hpp2_0 := (hstep.cell (p := ⟨w.heap.size + 1, 0, none⟩) hlhpp2_).trans hpp2_0
  replace hlhpp2_ : w.heap.size + 1 < w9.heap.size := Nat.lt_of_lt_of_le hlhpp2_ hstep.size
  replace hwr0_0 := (hstep.cell (p := ⟨nbw, 0, none⟩) hlhwr0_).trans hwr0_0
  replace hlhwr0_ : nbw < w9.heap.size := Nat.lt_of_lt_of_le hlhwr0_ hstep.size
  replace hxp0_0 := (hstep.cell (p := ⟨w5.heap.size, 0, none⟩) hlhxp0_).trans hxp0_0
  replace hlhxp0_ : w5.heap.size < w9.heap.size := Nat.lt_of_lt_of_le hlhxp0_ hstep.size
  replace hxp2_0 := (hstep.cell (p := ⟨w6.heap.size, 0, none⟩) hlhxp2_).trans hxp2_0
  replace hlhxp2_ : w6.heap.size < w9.heap.size := Nat.lt_of_lt_of_le hlhxp2_ hstep.size
  replace hgr0_0 := (hstep.cell (p := ⟨w7.heap.size, 0, none⟩) hlhgr0_).trans hgr0_0
  replace hlhgr0_ : w7.heap.size < w9.heap.size := Nat.lt_of_lt_of_le hlhgr0_ hstep.size
  replace HOwr0_0 := Lib.hid (HOwr0_0.out.below hstep (fun _ _ hq => hq))
  replace HOxp0_0 := Lib.hid (HOxp0_0.out.below hstep (fun _ _ hq => hq))
  replace HOxp2_0 := Lib.hid (HOxp2_0.out.below hstep (fun _ _ hq => hq))
  replace HOgr0_0 := Lib.hid (HOgr0_0.out.below hstep (fun _ _ hq => hq))
  replace HBN := Lib.hid (HBN.out.trans (hstep.mono HBN.out.size))
  have hzw9 : w8.heap.size ≤ w9.heap.size := hstep.size
  clear hstep
  have HD : Hid (Below w9.heap.size w9 w9.drew) := Lib.hid (Below.refl _ _).drew
  have HV60 := Lib.hid ((HVp2_0.out.below HBN.out (Nat.le_refl _)).mono HBN.out.size)
  have HG60 := Lib.hid (HOxp2_0.out.rd)
  have HELD : Hid (∀ w' : World, Hid (Below w9.heap.size w9 w') → w'.cell? ⟨w.heap.size + 1, 0, none⟩ = some (.slice Aup2_0 p2_0.length cup2_0) ∧ w'.cell? ⟨w6.heap.size, 0, none⟩ = some (.slice Axp2_0 p2_0.length cxp2_0) ∧ Hid (Below w9.heap.size w9 w')) := Lib.hid (fun w' H => ⟨(H.out.cell (p := ⟨w.heap.size + 1, 0, none⟩) hlhpp2_).trans hpp2_0, (H.out.cell (p := ⟨w6.heap.size, 0, none⟩) hlhxp2_).trans hxp2_0, H⟩)
  go_wp2_with fail
  go_region_held3 (fun w' => w'.cell? ⟨w.heap.size + 1, 0, none⟩ = some (.slice Aup2_0 p2_0.length cup2_0) ∧ w'.cell? ⟨w6.heap.size, 0, none⟩ = some (.slice Axp2_0 p2_0.length cxp2_0) ∧ Hid (Below w9.heap.size w9 w'))
    (exact HELD.out _ (by assumption))
    (first
      | (go_at_call 9; go_split_ands; refine (toTerm_fr w9 _ (by assumption) p2_0 _ HV60.out hsp2_0).mono ?_; rintro e wa ⟨vyp2_0, rfl, ba, bb, oyp2_0⟩)
      | (go_at_call 11; go_split_ands; refine (eqTerm_fr w9 _ (by assumption) p2_0 _ _ HG60.out (by assumption)).mono ?_; rintro e w10 ⟨rfl, bc⟩))
  have hstep := bc.out
  clear HD HELD HV60 HG60 oyp2_0 ba bb bc
  replace hpp0_0 := (hstep.cell (p := ⟨w.heap.size, 0, none⟩) hlhpp0_).trans hpp0_0
  replace hlhpp0_ : w.heap.size < w10.heap.size := Nat.lt_of_lt_of_le hlhpp0_ hstep.size
  replace hpp2_0 := (hstep.cell (p := ⟨w.heap.size + 1, 0, none⟩) hlhpp2_).trans hpp2_0
  replace hlhpp2_ : w.heap.size + 1 < w10.heap.size := Nat.lt_of_lt_of_le hlhpp2_ hstep.size
  replace hwr0_0 := (hstep.cell (p := ⟨nbw, 0, none⟩) hlhwr0_).trans hwr0_0
  replace hlhwr0_ : nbw < w10.heap.size := Nat.lt_of_lt_of_le hlhwr0_ hstep.size
  replace hxp0_0 := (hstep.cell (p := ⟨w5.heap.size, 0, none⟩) hlhxp0_).trans hxp0_0
  replace hlhxp0_ : w5.heap.size < w10.heap.size := Nat.lt_of_lt_of_le hlhxp0_ hstep.size
  replace hxp2_0 := (hstep.cell (p := ⟨w6.heap.size, 0, none⟩) hlhxp2_).trans hxp2_0
  replace hlhxp2_ : w6.heap.size < w10.heap.size := Nat.lt_of_lt_of_le hlhxp2_ hstep.size
  replace hgr0_0 := (hstep.cell (p := ⟨w7.heap.size, 0, none⟩) hlhgr0_).trans hgr0_0
  replace hlhgr0_ : w7.heap.size < w10.heap.size := Nat.lt_of_lt_of_le hlhgr0_ hstep.size
  replace HOwr0_0 := Lib.hid (HOwr0_0.out.below hstep (fun _ _ hq => hq))
  replace HOxp0_0 := Lib.hid (HOxp0_0.out.below hstep (fun _ _ hq => hq))
  replace HOxp2_0 := Lib.hid (HOxp2_0.out.below hstep (fun _ _ hq => hq))
  replace HOgr0_0 := Lib.hid (HOgr0_0.out.below hstep (fun _ _ hq => hq))
  replace HBN := Lib.hid (HBN.out.trans (hstep.mono HBN.out.size))
  have hzw10 : w9.heap.size ≤ w10.heap.size := hstep.size
  clear hstep
  have := cntN_le p0_0
  go_wp2_with fail
  refine (markTerm_ok _ p0_0 _ SHOxp0_0 1 (HOxp0_0.out) (by omega) (by omega)).mono ?_
  rintro e w11 ⟨h2, t, om0⟩
  replace hpp0_0 := (t.cellAt (p := ⟨w.heap.size, 0, none⟩) hlhpp0_ (fun hk => by (first | (have := HSHOxp0_0.out _ hk; dsimp only at this; omega)))).trans hpp0_0
  replace hpp2_0 := (t.cellAt (p := ⟨w.heap.size + 1, 0, none⟩) hlhpp2_ (fun hk => by (first | (have := HSHOxp0_0.out _ hk; dsimp only at this; omega)))).trans hpp2_0
  replace hwr0_0 := (t.cellAt (p := ⟨nbw, 0, none⟩) hlhwr0_ (fun hk => by (first | (have := HSHOxp0_0.out _ hk; dsimp only at this; omega)))).trans hwr0_0
  replace hxp0_0 := (t.cellAt (p := ⟨w5.heap.size, 0, none⟩) hlhxp0_ (fun hk => by (first | (have := HSHOxp0_0.out _ hk; dsimp only at this; omega)))).trans hxp0_0
  replace hxp2_0 := (t.cellAt (p := ⟨w6.heap.size, 0, none⟩) hlhxp2_ (fun hk => by (first | (have := HSHOxp0_0.out _ hk; dsimp only at this; omega)))).trans hxp2_0
  replace hgr0_0 := (t.cellAt (p := ⟨w7.heap.size, 0, none⟩) hlhgr0_ (fun hk => by (first | (have := HSHOxp0_0.out _ hk; dsimp only at this; omega)))).trans hgr0_0
  replace hlhpp0_ : w.heap.size < w11.heap.size := Nat.lt_of_lt_of_le hlhpp0_ t.size
  replace hlhpp2_ : w.heap.size + 1 < w11.heap.size := Nat.lt_of_lt_of_le hlhpp2_ t.size
  replace hlhwr0_ : nbw < w11.heap.size := Nat.lt_of_lt_of_le hlhwr0_ t.size
  replace hlhxp0_ : w5.heap.size < w11.heap.size := Nat.lt_of_lt_of_le hlhxp0_ t.size
  replace hlhxp2_ : w6.heap.size < w11.heap.size := Nat.lt_of_lt_of_le hlhxp2_ t.size
  replace hlhgr0_ : w7.heap.size < w11.heap.size := Nat.lt_of_lt_of_le hlhgr0_ t.size
  replace HOwr0_0 := Lib.hid (HOwr0_0.out.blocks (w' := w11) (fun q hq hql => t.block q hql (fun hx => by (first | (have := HSHOxp0_0.out q hx; have := HSHOwr0_0.out q hq; omega)))))
  replace HOxp2_0 := Lib.hid (HOxp2_0.out.blocks (w' := w11) (fun q hq hql => t.block q hql (fun hx => by (first | (have := HSHOxp0_0.out q hx; have := HSHOxp2_0.out q hq; omega)))))
  replace HOgr0_0 := Lib.hid (HOgr0_0.out.blocks (w' := w11) (fun q hq hql => t.block q hql (fun hx => by (first | (have := HSHOxp0_0.out q hx; have := HSHOgr0_0.out q hq; omega)))))
  replace HBN := Lib.hid (HBN.out.trans (t.below HBN.out.size (fun k hk => by (first | (have := HSHOxp0_0.out k hk; have := HBN.out.size; omega)))))
  have hzw11 : w10.heap.size ≤ w11.heap.size := t.size
  replace HOxp0_0 := Lib.hid om0
  clear t om0
  obtain ⟨kp0_, hkp0_a, hkp0_b, rfl⟩ : ∃ z : Int, 0 ≤ z ∧ z ≤ 1 + 1048576 * 3 ∧ e = .returned (.int .i64 z) := ⟨_, by omega, by omega, h2⟩
  clear h2
  clear HOxp0_0 HSHOxp0_0
  have := cntN_le p2_0
  go_wp2_with fail
  refine (markTerm_ok _ p2_0 _ SHOxp2_0 kp0_ (HOxp2_0.out) (by omega) (by omega)).mono ?_
  rintro e w12 ⟨h2, t, om0⟩
  replace hpp0_0 := (t.cellAt (p := ⟨w.heap.size, 0, none⟩) hlhpp0_ (fun hk => by (first | (have := HSHOxp2_0.out _ hk; dsimp only at this; omega)))).trans hpp0_0
  replace hpp2_0 := (t.cellAt (p := ⟨w.heap.size + 1, 0, none⟩) hlhpp2_ (fun hk => by (first | (have := HSHOxp2_0.out _ hk; dsimp only at this; omega)))).trans hpp2_0
  replace hwr0_0 := (t.cellAt (p := ⟨nbw, 0, none⟩) hlhwr0_ (fun hk => by (first | (have := HSHOxp2_0.out _ hk; dsimp only at this; omega)))).trans hwr0_0
  replace hxp0_0 := (t.cellAt (p := ⟨w5.heap.size, 0, none⟩) hlhxp0_ (fun hk => by (first | (have := HSHOxp2_0.out _ hk; dsimp only at this; omega)))).trans hxp0_0
  replace hxp2_0 := (t.cellAt (p := ⟨w6.heap.size, 0, none⟩) hlhxp2_ (fun hk => by (first | (have := HSHOxp2_0.out _ hk; dsimp only at this; omega)))).trans hxp2_0
  replace hgr0_0 := (t.cellAt (p := ⟨w7.heap.size, 0, none⟩) hlhgr0_ (fun hk => by (first | (have := HSHOxp2_0.out _ hk; dsimp only at this; omega)))).trans hgr0_0
  replace hlhpp0_ : w.heap.size < w12.heap.size := Nat.lt_of_lt_of_le hlhpp0_ t.size
  replace hlhpp2_ : w.heap.size + 1 < w12.heap.size := Nat.lt_of_lt_of_le hlhpp2_ t.size
  replace hlhwr0_ : nbw < w12.heap.size := Nat.lt_of_lt_of_le hlhwr0_ t.size
  replace hlhxp0_ : w5.heap.size < w12.heap.size := Nat.lt_of_lt_of_le hlhxp0_ t.size
  replace hlhxp2_ : w6.heap.size < w12.heap.size := Nat.lt_of_lt_of_le hlhxp2_ t.size
  replace hlhgr0_ : w7.heap.size < w12.heap.size := Nat.lt_of_lt_of_le hlhgr0_ t.size
  replace HOwr0_0 := Lib.hid (HOwr0_0.out.blocks (w' := w12) (fun q hq hql => t.block q hql (fun hx => by (first | (have := HSHOxp2_0.out q hx; have := HSHOwr0_0.out q hq; omega)))))
  replace HOgr0_0 := Lib.hid (HOgr0_0.out.blocks (w' := w12) (fun q hq hql => t.block q hql (fun hx => by (first | (have := HSHOxp2_0.out q hx; have := HSHOgr0_0.out q hq; omega)))))
  replace HBN := Lib.hid (HBN.out.trans (t.below HBN.out.size (fun k hk => by (first | (have := HSHOxp2_0.out k hk; have := HBN.out.size; omega)))))
  have hzw12 : w11.heap.size ≤ w12.heap.size := t.size
  replace HOxp2_0 := Lib.hid om0
  clear t om0
  obtain ⟨kp2_, hkp2_a, hkp2_b, rfl⟩ : ∃ z : Int, 0 ≤ z ∧ z ≤ kp0_ + 1048576 * 3 ∧ e = .returned (.int .i64 z) := ⟨_, by omega, by omega, h2⟩
  clear h2
  clear HOxp2_0 HSHOxp2_0
  have hkneg : ¬ kp2_ < 0 := by omega
  go_wp2_with fail
  refine (eqTerm_ok _ w12.heap.size r0_0 _ _ ?_ ?_ ?_).mono ?_
  · exact (HOgr0_0.out.rd).below (B' := w12.heap.size) (by repeat' (first | exact Below.refl _ _ | apply Below.drew | apply Below.setCell | apply Below.alloc | (simp; done) | omega | (simp; omega))) (Nat.le_refl _)
  · exact (HOwr0_0.out.rd).below (B' := w12.heap.size) (by repeat' (first | exact Below.refl _ _ | apply Below.drew | apply Below.setCell | apply Below.alloc | (simp; done) | omega | (simp; omega))) (Nat.le_refl _)
  · (first | exact Nat.le_refl _ | (simp; done) | (simp; omega))
  rintro e w13 ⟨rfl, b⟩
  have hstep : Below w12.heap.size w12 w13 := Below.trans (by repeat' (first | exact Below.refl _ _ | apply Below.drew | apply Below.setCell | apply Below.alloc | (simp; done) | omega | (simp; omega))) (b.mono (by (first | exact Nat.le_refl _ | (simp; done) | (simp; omega))))
  replace hpp0_0 := (hstep.cell (p := ⟨w.heap.size, 0, none⟩) hlhpp0_).trans hpp0_0
  replace hlhpp0_ : w.heap.size < w13.heap.size := Nat.lt_of_lt_of_le hlhpp0_ hstep.size
  replace hpp2_0 := (hstep.cell (p := ⟨w.heap.size + 1, 0, none⟩) hlhpp2_).trans hpp2_0
  replace hlhpp2_ : w.heap.size + 1 < w13.heap.size := Nat.lt_of_lt_of_le hlhpp2_ hstep.size
  replace hwr0_0 := (hstep.cell (p := ⟨nbw, 0, none⟩) hlhwr0_).trans hwr0_0
  replace hlhwr0_ : nbw < w13.heap.size := Nat.lt_of_lt_of_le hlhwr0_ hstep.size
  replace hxp0_0 := (hstep.cell (p := ⟨w5.heap.size, 0, none⟩) hlhxp0_).trans hxp0_0
  replace hlhxp0_ : w5.heap.size < w13.heap.size := Nat.lt_of_lt_of_le hlhxp0_ hstep.size
  replace hxp2_0 := (hstep.cell (p := ⟨w6.heap.size, 0, none⟩) hlhxp2_).trans hxp2_0
  replace hlhxp2_ : w6.heap.size < w13.heap.size := Nat.lt_of_lt_of_le hlhxp2_ hstep.size
  replace hgr0_0 := (hstep.cell (p := ⟨w7.heap.size, 0, none⟩) hlhgr0_).trans hgr0_0
  replace hlhgr0_ : w7.heap.size < w13.heap.size := Nat.lt_of_lt_of_le hlhgr0_ hstep.size
  replace HOwr0_0 := Lib.hid (HOwr0_0.out.below hstep (fun _ _ hq => hq))
  replace HOgr0_0 := Lib.hid (HOgr0_0.out.below hstep (fun _ _ hq => hq))
  replace HBN := Lib.hid (HBN.out.trans (hstep.mono HBN.out.size))
  have hzw13 : w12.heap.size ≤ w13.heap.size := hstep.size
  clear b hstep 
  have hcbr0_0 : cntN r0_0 ≤ 1099511627776 := HOgr0_0.out.2.1
  go_wp2_with fail
  refine (markTerm_ok _ r0_0 _ SHOgr0_0 1 (HOgr0_0.out) (by omega) (by omega)).mono ?_
  rintro e w14 ⟨h2, t, om0⟩
  replace hpp0_0 := (t.cellAt (p := ⟨w.heap.size, 0, none⟩) hlhpp0_ (fun hk => by (first | (have := HSHOgr0_0.out _ hk; dsimp only at this; omega)))).trans hpp0_0
  replace hpp2_0 := (t.cellAt (p := ⟨w.heap.size + 1, 0, none⟩) hlhpp2_ (fun hk => by (first | (have := HSHOgr0_0.out _ hk; dsimp only at this; omega)))).trans hpp2_0
  replace hwr0_0 := (t.cellAt (p := ⟨nbw, 0, none⟩) hlhwr0_ (fun hk => by (first | (have := HSHOgr0_0.out _ hk; dsimp only at this; omega)))).trans hwr0_0
  replace hxp0_0 := (t.cellAt (p := ⟨w5.heap.size, 0, none⟩) hlhxp0_ (fun hk => by (first | (have := HSHOgr0_0.out _ hk; dsimp only at this; omega)))).trans hxp0_0
  replace hxp2_0 := (t.cellAt (p := ⟨w6.heap.size, 0, none⟩) hlhxp2_ (fun hk => by (first | (have := HSHOgr0_0.out _ hk; dsimp only at this; omega)))).trans hxp2_0
  replace hgr0_0 := (t.cellAt (p := ⟨w7.heap.size, 0, none⟩) hlhgr0_ (fun hk => by (first | (have := HSHOgr0_0.out _ hk; dsimp only at this; omega)))).trans hgr0_0
  replace hlhpp0_ : w.heap.size < w14.heap.size := Nat.lt_of_lt_of_le hlhpp0_ t.size
  replace hlhpp2_ : w.heap.size + 1 < w14.heap.size := Nat.lt_of_lt_of_le hlhpp2_ t.size
  replace hlhwr0_ : nbw < w14.heap.size := Nat.lt_of_lt_of_le hlhwr0_ t.size
  replace hlhxp0_ : w5.heap.size < w14.heap.size := Nat.lt_of_lt_of_le hlhxp0_ t.size
  replace hlhxp2_ : w6.heap.size < w14.heap.size := Nat.lt_of_lt_of_le hlhxp2_ t.size
  replace hlhgr0_ : w7.heap.size < w14.heap.size := Nat.lt_of_lt_of_le hlhgr0_ t.size
  replace HOwr0_0 := Lib.hid (HOwr0_0.out.blocks (w' := w14) (fun q hq hql => t.block q hql (fun hx => by (first | (have := HSHOgr0_0.out q hx; have := HSHOwr0_0.out q hq; omega)))))
  replace HBN := Lib.hid (HBN.out.trans (t.below HBN.out.size (fun k hk => by (first | (have := HSHOgr0_0.out k hk; have := HBN.out.size; omega)))))
  have hzw14 : w13.heap.size ≤ w14.heap.size := t.size
  replace HOgr0_0 := Lib.hid om0
  clear t om0
  obtain ⟨mr0_, HMr0_, hmr0_a, hmr0_b, rfl⟩ : ∃ z : Int, Hid (1 + ((cntN r0_0 : Nat) : Int) = z) ∧ 0 ≤ z ∧ z ≤ 1 + 1099511627776 * 1 ∧ e = .returned (.int .i64 z) := ⟨_, Lib.hid rfl, by omega, by omega, h2⟩
  clear h2
  have hmm : (mr0_ != mr0_) = false := by simp
  go_wp2_with fail
  refine (heldTerm_ok _ w14.heap.size r0_0 _ 1 ?_ ?_ (by omega) (by omega)).mono ?_
  · exact (HOgr0_0.out.rd).below (B' := w14.heap.size) (by repeat' (first | exact Below.refl _ _ | apply Below.drew | apply Below.setCell | apply Below.alloc | (simp; done) | omega | (simp; omega))) (Nat.le_refl _)
  · (first | exact Nat.le_refl _ | (simp; done) | (simp; omega))
  rintro e w15 ⟨h2, b⟩
  have hstep : Below w14.heap.size w14 w15 := Below.trans (by repeat' (first | exact Below.refl _ _ | apply Below.drew | apply Below.setCell | apply Below.alloc | (simp; done) | omega | (simp; omega))) (b.mono (by (first | exact Nat.le_refl _ | (simp; done) | (simp; omega))))
  replace hpp0_0 := (hstep.cell (p := ⟨w.heap.size, 0, none⟩) hlhpp0_).trans hpp0_0
  replace hlhpp0_ : w.heap.size < w15.heap.size := Nat.lt_of_lt_of_le hlhpp0_ hstep.size
  replace hpp2_0 := (hstep.cell (p := ⟨w.heap.size + 1, 0, none⟩) hlhpp2_).trans hpp2_0
  replace hlhpp2_ : w.heap.size + 1 < w15.heap.size := Nat.lt_of_lt_of_le hlhpp2_ hstep.size
  replace hwr0_0 := (hstep.cell (p := ⟨nbw, 0, none⟩) hlhwr0_).trans hwr0_0
  replace hlhwr0_ : nbw < w15.heap.size := Nat.lt_of_lt_of_le hlhwr0_ hstep.size
  replace hxp0_0 := (hstep.cell (p := ⟨w5.heap.size, 0, none⟩) hlhxp0_).trans hxp0_0
  replace hlhxp0_ : w5.heap.size < w15.heap.size := Nat.lt_of_lt_of_le hlhxp0_ hstep.size
  replace hxp2_0 := (hstep.cell (p := ⟨w6.heap.size, 0, none⟩) hlhxp2_).trans hxp2_0
  replace hlhxp2_ : w6.heap.size < w15.heap.size := Nat.lt_of_lt_of_le hlhxp2_ hstep.size
  replace hgr0_0 := (hstep.cell (p := ⟨w7.heap.size, 0, none⟩) hlhgr0_).trans hgr0_0
  replace hlhgr0_ : w7.heap.size < w15.heap.size := Nat.lt_of_lt_of_le hlhgr0_ hstep.size
  replace HOwr0_0 := Lib.hid (HOwr0_0.out.below hstep (fun _ _ hq => hq))
  replace HOgr0_0 := Lib.hid (HOgr0_0.out.below hstep (fun _ _ hq => hq))
  replace HBN := Lib.hid (HBN.out.trans (hstep.mono HBN.out.size))
  have hzw15 : w14.heap.size ≤ w15.heap.size := hstep.size
  clear b hstep 
  rw [HMr0_.out] at h2
  subst h2
  have hmneg : ¬ mr0_ < 0 := by omega
  have HD : Hid (Below w15.heap.size w15 w15.drew) := Lib.hid (Below.refl _ _).drew
  have HV6p0_0 := Lib.hid ((HVp0_0.out.below HBN.out (Nat.le_refl _)).mono HBN.out.size)
  have HV6p2_0 := Lib.hid ((HVp2_0.out.below HBN.out (Nat.le_refl _)).mono HBN.out.size)
  have HELD : Hid (∀ w' : World, Hid (Below w15.heap.size w15 w') → w'.cell? ⟨w.heap.size, 0, none⟩ = some (.slice Aup0_0 p0_0.length cup0_0) ∧ w'.cell? ⟨w.heap.size + 1, 0, none⟩ = some (.slice Aup2_0 p2_0.length cup2_0) ∧ Hid (Below w15.heap.size w15 w')) := Lib.hid (fun w' H => ⟨(H.out.cell (p := ⟨w.heap.size, 0, none⟩) hlhpp0_).trans hpp0_0, (H.out.cell (p := ⟨w.heap.size + 1, 0, none⟩) hlhpp2_).trans hpp2_0, H⟩)
  go_upto_region 31 with fail
  go_cut [17, 18] from 19 (fun s17 s18 wc => ∃ (nb : Nat) (Ahr0_0 : Option Addr) (chr0_0 : Nat), s17 = .pointer (some ⟨nb, 0, none⟩) ∧ s18 = .bool r1_0 ∧ wc.cell? ⟨nb, 0, none⟩ = some (.slice Ahr0_0 r0_0.length chr0_0) ∧ nb < wc.heap.size ∧ Hid (Below w15.heap.size w15 wc) ∧ OwnN wc (fun k => w15.heap.size ≤ k) (.slice Ahr0_0 r0_0.length chr0_0) r0_0)
  case first =>
    go_region_held3 (fun w' => w'.cell? ⟨w.heap.size, 0, none⟩ = some (.slice Aup0_0 p0_0.length cup0_0) ∧ w'.cell? ⟨w.heap.size + 1, 0, none⟩ = some (.slice Aup2_0 p2_0.length cup2_0) ∧ Hid (Below w15.heap.size w15 w'))
      (exact HELD.out _ (by first | assumption | (refine Lib.hid ?_; repeat' (first | exact Below.refl _ _ | exact Hid.out (by assumption) | apply Below.drew | apply Below.setCell | apply Below.alloc | (simp; done) | omega | (simp; omega)))))
      (first
        | (go_at_call_of 9 Aup0_0; go_split_ands; refine (toTerm_fr w15 _ (by assumption) p0_0 _ HV6p0_0.out hsp0_0).mono ?_; rintro e wa0 ⟨vyp0_0, rfl, ba0, bb0, oyp0_0⟩; have sb0 : w15.heap.size ≤ wa0.heap.size := (by have := ba0.out.size; (try simp at this); omega); (try ((first | have hbx0 := box_behind ba0.out | have hbx0 := box_behind' ba0.out); change wa0.heap[w15.heap.size]? = some (.cells #[.slice none 0 0] 28 (0, 0)) at hbx0; have hbl0 : w15.heap.size < wa0.heap.size := (Array.getElem?_eq_some_iff.1 hbx0).1)))
        | (go_at_call_of 9 Aup2_0; go_split_ands; refine (toTerm_fr w15 _ (by assumption) p2_0 _ HV6p2_0.out hsp2_0).mono ?_; rintro e wa1 ⟨vyp2_0, rfl, ba1, bb1, oyp2_0⟩; have sb1 : wa0.heap.size ≤ wa1.heap.size := (by have := ba1.out.size; (try simp at this); omega); have bq1 : Hid (Below wa0.heap.size wa0 wa1) := Lib.hid (Below.trans (by repeat' (first | exact Below.refl _ _ | apply Below.drew | apply Below.setCell | apply Below.alloc | (simp; done) | omega | (simp; omega))) (ba1.out.mono (by first | exact Nat.le_refl _ | (simp; done) | omega | (simp; omega)))); (try (replace hbx0 := box_kept hbx0 ba1.out)); (try ((first | have hbx1 := box_behind ba1.out | have hbx1 := box_behind' ba1.out); change wa1.heap[wa0.heap.size]? = some (.cells #[.slice none 0 0] 28 (0, 0)) at hbx1; have hbl1 : wa0.heap.size < wa1.heap.size := (Array.getElem?_eq_some_iff.1 hbx1).1)))
        | (go_at_call 17; go_split_ands; refine (HIM.out _ _ _ _ ((((oyp0_0.out.below bq1.out (by first | omega | (simp; done) | (simp; omega)))).below (B' := wa1.heap.size) (by repeat' (first | exact Below.refl _ _ | apply Below.drew | apply Below.setCell | apply Below.alloc | (simp; done) | omega | (simp; omega))) (by first | omega | (simp; done) | (simp; omega))).mono (by first | omega | (simp; done) | (simp; omega))) (((oyp2_0.out).below (B' := wa1.heap.size) (by repeat' (first | exact Below.refl _ _ | apply Below.drew | apply Below.setCell | apply Below.alloc | (simp; done) | omega | (simp; omega))) (by first | omega | (simp; done) | (simp; omega))).mono (by first | omega | (simp; done) | (simp; omega))) (Nat.le_refl _) hsp0_0 hsp2_0).mono ?_; rintro e w16 ⟨vhr0_0, rfl, b, ohr0_0⟩; obtain ⟨Ahr0_0, chr0_0, rfl⟩ := ohr0_0.len; have hstep : Below w15.heap.size w15 w16 := (Hid.out (by assumption : Hid (Below w15.heap.size w15 _))).trans (b.mono (Hid.out (by assumption : Hid (Below w15.heap.size w15 _))).size); have HZZ := Lib.hid hstep; have hzz : wa1.heap.size ≤ w16.heap.size := (by have := b.size; (try simp at this); omega); (try (replace hbx0 := box_kept hbx0 b)); (try (replace hbx1 := box_kept hbx1 b)); (try ((first | have hbx2 := box_behind b | have hbx2 := box_behind' b); change w16.heap[wa1.heap.size]? = some (.cells #[.slice none 0 0] 28 (0, 0)) at hbx2; have hbl2 : wa1.heap.size < w16.heap.size := (Array.getElem?_eq_some_iff.1 hbx2).1)); (try (have hbc0_0 : w16.cell? ⟨w15.heap.size, 0, none⟩ = some (.slice none 0 0) := box_cell hbx0 0)); (try (have hbc1_0 : w16.cell? ⟨wa0.heap.size, 0, none⟩ = some (.slice none 0 0) := box_cell hbx1 0)); (try (have hbc2_0 : w16.cell? ⟨wa1.heap.size, 0, none⟩ = some (.slice none 0 0) := box_cell hbx2 0)); (try (have hbf0 := box_free hbx0)); (try (have hbf1 := box_free hbx1)); (try (have hbf2 := box_free hbx2))))
    all_goals go_wp2_with fail
    all_goals go_meet
    all_goals exact ⟨_, _, _, rfl, rfl, (by simp [go_sem, *]), (by first | (simp; done) | omega | (simp; omega)), Lib.hid (by repeat' (first | exact hstep | exact HZZ.out | apply Below.drew | apply Below.setCell | apply Below.alloc | (simp; done) | omega | (simp; omega))), ((ohr0_0.blocks (fun k hk hl => by (try simp at hk); (repeat (first | rw [blk_setCell_other _ _ _ _ (by dsimp only; omega)] | rw [blk_alloc_lt _ _ _ hl])); try rfl)).mono (fun k hk hl => by (try simp at hk); omega))⟩
  obtain ⟨nbh, Ahr0_0, chr0_0, rfl, rfl, hhr0_0, hlhhr0_, hstep0, ohr0_0⟩ := hcut
  have hstep := hstep0.out
  clear hstep0 HD HELD HV6p0_0 HV6p2_0
  obtain ⟨w16, rfl⟩ : ∃ x, x = wc := ⟨_, rfl⟩
  replace hpp0_0 := (hstep.cell (p := ⟨w.heap.size, 0, none⟩) hlhpp0_).trans hpp0_0
  replace hlhpp0_ : w.heap.size < w16.heap.size := Nat.lt_of_lt_of_le hlhpp0_ hstep.size
  replace hpp2_0 := (hstep.cell (p := ⟨w.heap.size + 1, 0, none⟩) hlhpp2_).trans hpp2_0
  replace hlhpp2_ : w.heap.size + 1 < w16.heap.size := Nat.lt_of_lt_of_le hlhpp2_ hstep.size
  replace hwr0_0 := (hstep.cell (p := ⟨nbw, 0, none⟩) hlhwr0_).trans hwr0_0
  replace hlhwr0_ : nbw < w16.heap.size := Nat.lt_of_lt_of_le hlhwr0_ hstep.size
  replace hxp0_0 := (hstep.cell (p := ⟨w5.heap.size, 0, none⟩) hlhxp0_).trans hxp0_0
  replace hlhxp0_ : w5.heap.size < w16.heap.size := Nat.lt_of_lt_of_le hlhxp0_ hstep.size
  replace hxp2_0 := (hstep.cell (p := ⟨w6.heap.size, 0, none⟩) hlhxp2_).trans hxp2_0
  replace hlhxp2_ : w6.heap.size < w16.heap.size := Nat.lt_of_lt_of_le hlhxp2_ hstep.size
  replace hgr0_0 := (hstep.cell (p := ⟨w7.heap.size, 0, none⟩) hlhgr0_).trans hgr0_0
  replace hlhgr0_ : w7.heap.size < w16.heap.size := Nat.lt_of_lt_of_le hlhgr0_ hstep.size
  replace HOwr0_0 := Lib.hid (HOwr0_0.out.below hstep (fun _ _ hq => hq))
  replace HOgr0_0 := Lib.hid (HOgr0_0.out.below hstep (fun _ _ hq => hq))
  replace HBN := Lib.hid (HBN.out.trans (hstep.mono HBN.out.size))
  have hzw16 : w15.heap.size ≤ w16.heap.size := hstep.size
  have hlhhr0_q := hlhhr0_
  obtain ⟨SHOhr0_0, HSHOhr0_0, HOhr0_0⟩ : ∃ S : Nat → Prop, Hid (∀ k, S k → w15.heap.size ≤ k ∧ k < w16.heap.size) ∧ Hid (OwnN w16 S (.slice Ahr0_0 r0_0.length chr0_0) r0_0) := ⟨fun k => w15.heap.size ≤ k ∧ k < w16.heap.size, Lib.hid (fun k hk => hk), Lib.hid (ohr0_0.mono (fun k hk hk2 => ⟨by have hk3 := hk; (try simp at hk3); omega, hk2⟩))⟩
  clear hstep ohr0_0
  go_wp2_with fail
  refine (eqTerm_ok _ w16.heap.size r0_0 _ _ ?_ ?_ ?_).mono ?_
  · exact (HOhr0_0.out.rd).below (B' := w16.heap.size) (by repeat' (first | exact Below.refl _ _ | apply Below.drew | apply Below.setCell | apply Below.alloc | (simp; done) | omega | (simp; omega))) (Nat.le_refl _)
  · exact (HOwr0_0.out.rd).below (B' := w16.heap.size) (by repeat' (first | exact Below.refl _ _ | apply Below.drew | apply Below.setCell | apply Below.alloc | (simp; done) | omega | (simp; omega))) (Nat.le_refl _)
  · (first | exact Nat.le_refl _ | (simp; done) | (simp; omega))
  rintro e w17 ⟨rfl, b⟩
  have hstep : Below w16.heap.size w16 w17 := Below.trans (by repeat' (first | exact Below.refl _ _ | apply Below.drew | apply Below.setCell | apply Below.alloc | (simp; done) | omega | (simp; omega))) (b.mono (by (first | exact Nat.le_refl _ | (simp; done) | (simp; omega))))
  replace hpp0_0 := (hstep.cell (p := ⟨w.heap.size, 0, none⟩) hlhpp0_).trans hpp0_0
  replace hlhpp0_ : w.heap.size < w17.heap.size := Nat.lt_of_lt_of_le hlhpp0_ hstep.size
  replace hpp2_0 := (hstep.cell (p := ⟨w.heap.size + 1, 0, none⟩) hlhpp2_).trans hpp2_0
  replace hlhpp2_ : w.heap.size + 1 < w17.heap.size := Nat.lt_of_lt_of_le hlhpp2_ hstep.size
  replace hwr0_0 := (hstep.cell (p := ⟨nbw, 0, none⟩) hlhwr0_).trans hwr0_0
  replace hlhwr0_ : nbw < w17.heap.size := Nat.lt_of_lt_of_le hlhwr0_ hstep.size
  replace hxp0_0 := (hstep.cell (p := ⟨w5.heap.size, 0, none⟩) hlhxp0_).trans hxp0_0
  replace hlhxp0_ : w5.heap.size < w17.heap.size := Nat.lt_of_lt_of_le hlhxp0_ hstep.size
  replace hxp2_0 := (hstep.cell (p := ⟨w6.heap.size, 0, none⟩) hlhxp2_).trans hxp2_0
  replace hlhxp2_ : w6.heap.size < w17.heap.size := Nat.lt_of_lt_of_le hlhxp2_ hstep.size
  replace hgr0_0 := (hstep.cell (p := ⟨w7.heap.size, 0, none⟩) hlhgr0_).trans hgr0_0
  replace hlhgr0_ : w7.heap.size < w17.heap.size := Nat.lt_of_lt_of_le hlhgr0_ hstep.size
  replace hhr0_0 := (hstep.cell (p := ⟨nbh, 0, none⟩) hlhhr0_).trans hhr0_0
  replace hlhhr0_ : nbh < w17.heap.size := Nat.lt_of_lt_of_le hlhhr0_ hstep.size
  replace HOwr0_0 := Lib.hid (HOwr0_0.out.below hstep (fun _ _ hq => hq))
  replace HOgr0_0 := Lib.hid (HOgr0_0.out.below hstep (fun _ _ hq => hq))
  replace HOhr0_0 := Lib.hid (HOhr0_0.out.below hstep (fun _ _ hq => hq))
  replace HBN := Lib.hid (HBN.out.trans (hstep.mono HBN.out.size))
  have hzw17 : w16.heap.size ≤ w17.heap.size := hstep.size
  clear b hstep 
  go_wp2_with fail
  refine (heldTerm_ok _ w17.heap.size r0_0 _ 1 ?_ ?_ (by omega) (by omega)).mono ?_
  · exact (HOgr0_0.out.rd).below (B' := w17.heap.size) (by repeat' (first | exact Below.refl _ _ | apply Below.drew | apply Below.setCell | apply Below.alloc | (simp; done) | omega | (simp; omega))) (Nat.le_refl _)
  · (first | exact Nat.le_refl _ | (simp; done) | (simp; omega))
  rintro e w18 ⟨h2, b⟩
  have hstep : Below w17.heap.size w17 w18 := Below.trans (by repeat' (first | exact Below.refl _ _ | apply Below.drew | apply Below.setCell | apply Below.alloc | (simp; done) | omega | (simp; omega))) (b.mono (by (first | exact Nat.le_refl _ | (simp; done) | (simp; omega))))
  replace hpp0_0 := (hstep.cell (p := ⟨w.heap.size, 0, none⟩) hlhpp0_).trans hpp0_0
  replace hlhpp0_ : w.heap.size < w18.heap.size := Nat.lt_of_lt_of_le hlhpp0_ hstep.size
  replace hpp2_0 := (hstep.cell (p := ⟨w.heap.size + 1, 0, none⟩) hlhpp2_).trans hpp2_0
  replace hlhpp2_ : w.heap.size + 1 < w18.heap.size := Nat.lt_of_lt_of_le hlhpp2_ hstep.size
  replace hwr0_0 := (hstep.cell (p := ⟨nbw, 0, none⟩) hlhwr0_).trans hwr0_0
  replace hlhwr0_ : nbw < w18.heap.size := Nat.lt_of_lt_of_le hlhwr0_ hstep.size
  replace hxp0_0 := (hstep.cell (p := ⟨w5.heap.size, 0, none⟩) hlhxp0_).trans hxp0_0
  replace hlhxp0_ : w5.heap.size < w18.heap.size := Nat.lt_of_lt_of_le hlhxp0_ hstep.size
  replace hxp2_0 := (hstep.cell (p := ⟨w6.heap.size, 0, none⟩) hlhxp2_).trans hxp2_0
  replace hlhxp2_ : w6.heap.size < w18.heap.size := Nat.lt_of_lt_of_le hlhxp2_ hstep.size
  replace hgr0_0 := (hstep.cell (p := ⟨w7.heap.size, 0, none⟩) hlhgr0_).trans hgr0_0
  replace hlhgr0_ : w7.heap.size < w18.heap.size := Nat.lt_of_lt_of_le hlhgr0_ hstep.size
  replace hhr0_0 := (hstep.cell (p := ⟨nbh, 0, none⟩) hlhhr0_).trans hhr0_0
  replace hlhhr0_ : nbh < w18.heap.size := Nat.lt_of_lt_of_le hlhhr0_ hstep.size
  replace HOwr0_0 := Lib.hid (HOwr0_0.out.below hstep (fun _ _ hq => hq))
  replace HOgr0_0 := Lib.hid (HOgr0_0.out.below hstep (fun _ _ hq => hq))
  replace HOhr0_0 := Lib.hid (HOhr0_0.out.below hstep (fun _ _ hq => hq))
  replace HBN := Lib.hid (HBN.out.trans (hstep.mono HBN.out.size))
  have hzw18 : w17.heap.size ≤ w18.heap.size := hstep.size
  clear b hstep 
  rw [HMr0_.out] at h2
  subst h2
  have hmneg : ¬ mr0_ < 0 := by omega
  go_wp2
  go_ret
  exact ⟨rfl, HBN.out⟩
end Go.Proofs.Ytbeaihjiablcbaa
