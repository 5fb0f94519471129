/- The harness of the law FnExactComposeRelations: it returns true if both functions return what they should. -/
import Derived.Test.YtdjgkcnhmfkjoaaDoorTRelation
import Derived.Test.YtdjgkcnhmfkjoaaDoorTRelationP
import Derived.Test.YtdjgkcnhmfkjoaaDoorFdWalks
import Derived.Deep.Cut
import Derived.Deep.QuietTactic
namespace Go.Proofs.YtdjgkcnhmfkjoaaDoor
set_option maxRecDepth 100000
open Go Go.RowKit Go.Deep

set_option maxHeartbeats 6400000 in
set_option maxRecDepth 100000 in
theorem harness_ComposeRelations (p0_0 : Int) (p1_0 : Int) (p1_1 : Int) (p1_2 : List (List Int)) (p2_0 : Int) (p2_1 : Int) (p2_2 : List (List Int)) (up1_2 : Value) (up2_2 : Value) (w : World) (r0_0 : Int) (r0_1 : Int) (r0_2 : List (List Int)) (r1_0 : Bool) (ht : Tab w) (hvp1_2 : LfG w w.heap.size up1_2 p1_2) (hvp2_2 : LfG w w.heap.size up2_2 p2_2) 
    (hspec : ∀ (w : World) (B : Nat) (vp1_2 : Value) (vp2_2 : Value) , LfG w B vp1_2 p1_2 → LfG w B vp2_2 p2_2 → B ≤ w.heap.size → szG p1_2 ≤ 1048576 → szG p2_2 ≤ 1048576 → Calls Tryd.prog 5 #[.int .i64 p0_0, .agg #[.int .i64 p1_0, .int .i64 p1_1, vp1_2], .agg #[.int .i64 p2_0, .int .i64 p2_1, vp2_2]] w (SRetRelationP w r0_0 r0_1 r0_2 r1_0))
    (himpl : ∀ (w : World) (B : Nat) (vp1_2 : Value) (vp2_2 : Value) , Tab w → LfG w B vp1_2 p1_2 → LfG w B vp2_2 p2_2 → B ≤ w.heap.size → szG p1_2 ≤ 1048576 → szG p2_2 ≤ 1048576 → Calls Tryd.prog 7 #[.int .i64 p0_0, .agg #[.int .i64 p1_0, .int .i64 p1_1, vp1_2], .agg #[.int .i64 p2_0, .int .i64 p2_1, vp2_2]] w (IRetRelationP w r0_0 r0_1 r0_2 r1_0)) :
    Calls Tryd.prog 3 #[.int .i64 p0_0, .agg #[.int .i64 p1_0, .int .i64 p1_1, up1_2], .agg #[.int .i64 p2_0, .int .i64 p2_1, up2_2]] w fun e w' => e = .returned (.bool true) ∧ Below w.heap.size w w' := by
  have HBN := Lib.hid (Below.refl w.heap.size w)
  have HT := Lib.hid ht
  have HSP := Lib.hid hspec
  have HIM := Lib.hid himpl
  clear ht hspec himpl
  obtain ⟨Aup1_2, cup1_2, rfl⟩ := hvp1_2.len
  have HVp1_2 := Lib.hid hvp1_2
  clear hvp1_2
  obtain ⟨Aup2_2, cup2_2, rfl⟩ := hvp2_2.len
  have HVp2_2 := Lib.hid hvp2_2
  clear hvp2_2
  have hbbr0_0 : (r0_0 != r0_0) = false := by simp
  have hbbr0_1 : (r0_1 != r0_1) = false := by simp
  have hbbr1_0 : (r1_0 != r1_0) = false := by simp
  go_enter Tryd.func3, Tryd.ntmps3
  go_wp2_with fail
  refine (szRelation_ok _ w.heap.size p1_0 p1_1 p1_2 _ 1048576 ?_ ?_ (by omega) (by omega)).mono ?_
  · exact (HVp1_2.out.below HBN.out (Nat.le_refl _)).below (B' := w.heap.size) (by repeat' (first | exact Below.refl _ _ | apply Below.drew | apply Below.setCell | apply Below.alloc | (simp; done) | omega | (simp; omega))) HBN.out.size
  · (have := HBN.out.size; first | exact this | (simp; done) | (simp; omega))
  rintro e w2 ⟨b, h2⟩
  have hstep : Below w.heap.size w w2 := Below.trans (by repeat' (first | exact Below.refl _ _ | apply Below.drew | apply Below.setCell | apply Below.alloc | (simp; done) | omega | (simp; omega))) (b.mono (by (first | exact Nat.le_refl _ | (simp; done) | (simp; omega))))
  replace HBN := Lib.hid (HBN.out.trans (hstep.mono HBN.out.size))
  have hzw2 : w.heap.size ≤ w2.heap.size := hstep.size
  have hpp1_0 : w2.cell? ⟨w.heap.size, 0, none⟩ = some (.int .i64 p1_0) := by have := b.cell (p := ⟨w.heap.size, 0, none⟩) (by first | (simp; done) | (simp; omega)); simpa [go_sem] using this
  have hpp1_1 : w2.cell? ⟨w.heap.size, 1, none⟩ = some (.int .i64 p1_1) := by have := b.cell (p := ⟨w.heap.size, 1, none⟩) (by first | (simp; done) | (simp; omega)); simpa [go_sem] using this
  have hpp1_2 : w2.cell? ⟨w.heap.size, 2, none⟩ = some (.slice Aup1_2 p1_2.length cup1_2) := by have := b.cell (p := ⟨w.heap.size, 2, none⟩) (by first | (simp; done) | (simp; omega)); simpa [go_sem] using this
  have hlhpp1_ : w.heap.size < w2.heap.size := by have := b.size; simp at this; omega
  have hlhpp1_q := hlhpp1_
  have hpp2_0 : w2.cell? ⟨w.heap.size + 1, 0, none⟩ = some (.int .i64 p2_0) := by have := b.cell (p := ⟨w.heap.size + 1, 0, none⟩) (by first | (simp; done) | (simp; omega)); simpa [go_sem] using this
  have hpp2_1 : w2.cell? ⟨w.heap.size + 1, 1, none⟩ = some (.int .i64 p2_1) := by have := b.cell (p := ⟨w.heap.size + 1, 1, none⟩) (by first | (simp; done) | (simp; omega)); simpa [go_sem] using this
  have hpp2_2 : w2.cell? ⟨w.heap.size + 1, 2, none⟩ = some (.slice Aup2_2 p2_2.length cup2_2) := by have := b.cell (p := ⟨w.heap.size + 1, 2, none⟩) (by first | (simp; done) | (simp; omega)); simpa [go_sem] using this
  have hlhpp2_ : w.heap.size + 1 < w2.heap.size := by have := b.size; simp at this; omega
  have hlhpp2_q := hlhpp2_
  clear b hstep 
  rcases h2 with rfl | ⟨hle, h2⟩
  · go_wp2
    go_ret
    exact ⟨rfl, HBN.out⟩
  obtain ⟨zp1_, hzp1_a, hzp1_b, rfl⟩ : ∃ z : Int, 0 ≤ z ∧ z ≤ 1048576 ∧ e = .returned (.int .i64 z) := ⟨_, by omega, by omega, h2⟩
  have hsp1_2 : szG p1_2 ≤ 1048576 := by omega
  clear h2 hle
  go_wp2_with fail
  refine (szRelation_ok _ w.heap.size p2_0 p2_1 p2_2 _ zp1_ ?_ ?_ (by omega) (by omega)).mono ?_
  · exact (HVp2_2.out.below HBN.out (Nat.le_refl _)).below (B' := w2.heap.size) (by repeat' (first | exact Below.refl _ _ | apply Below.drew | apply Below.setCell | apply Below.alloc | (simp; done) | omega | (simp; omega))) HBN.out.size
  · (have := HBN.out.size; first | exact this | (simp; done) | (simp; omega))
  rintro e w3 ⟨b, h2⟩
  have hstep : Below w2.heap.size w2 w3 := Below.trans (by repeat' (first | exact Below.refl _ _ | apply Below.drew | apply Below.setCell | apply Below.alloc | (simp; done) | omega | (simp; omega))) (b.mono (by (first | exact Nat.le_refl _ | (simp; done) | (simp; omega))))
  replace hpp1_0 := (hstep.cell (p := ⟨w.heap.size, 0, none⟩) hlhpp1_).trans hpp1_0
  replace hpp1_1 := (hstep.cell (p := ⟨w.heap.size, 1, none⟩) hlhpp1_).trans hpp1_1
  replace hpp1_2 := (hstep.cell (p := ⟨w.heap.size, 2, none⟩) hlhpp1_).trans hpp1_2
  replace hlhpp1_ : w.heap.size < w3.heap.size := Nat.lt_of_lt_of_le hlhpp1_ hstep.size
  replace hpp2_0 := (hstep.cell (p := ⟨w.heap.size + 1, 0, none⟩) hlhpp2_).trans hpp2_0
  replace hpp2_1 := (hstep.cell (p := ⟨w.heap.size + 1, 1, none⟩) hlhpp2_).trans hpp2_1
  replace hpp2_2 := (hstep.cell (p := ⟨w.heap.size + 1, 2, none⟩) hlhpp2_).trans hpp2_2
  replace hlhpp2_ : w.heap.size + 1 < w3.heap.size := Nat.lt_of_lt_of_le hlhpp2_ hstep.size
  replace HBN := Lib.hid (HBN.out.trans (hstep.mono HBN.out.size))
  have hzw3 : w2.heap.size ≤ w3.heap.size := hstep.size
  clear b hstep 
  rcases h2 with rfl | ⟨hle, h2⟩
  · go_wp2
    go_ret
    exact ⟨rfl, HBN.out⟩
  obtain ⟨zp2_, hzp2_a, hzp2_b, rfl⟩ : ∃ z : Int, 0 ≤ z ∧ z ≤ 1048576 ∧ e = .returned (.int .i64 z) := ⟨_, by omega, by omega, h2⟩
  have hsp2_2 : szG p2_2 ≤ 1048576 := by omega
  clear h2 hle
  have HD : Hid (Below w3.heap.size w3 w3.drew) := Lib.hid (Below.refl _ _).drew
  have HV6p1_2 := Lib.hid ((HVp1_2.out.below HBN.out (Nat.le_refl _)).mono HBN.out.size)
  have HV6p2_2 := Lib.hid ((HVp2_2.out.below HBN.out (Nat.le_refl _)).mono HBN.out.size)
  have HELD : Hid (∀ w' : World, Hid (Below w3.heap.size w3 w') → w'.cell? ⟨w.heap.size, 0, none⟩ = some (.int .i64 p1_0) ∧ w'.cell? ⟨w.heap.size, 1, none⟩ = some (.int .i64 p1_1) ∧ w'.cell? ⟨w.heap.size, 2, none⟩ = some (.slice Aup1_2 p1_2.length cup1_2) ∧ w'.cell? ⟨w.heap.size + 1, 0, none⟩ = some (.int .i64 p2_0) ∧ w'.cell? ⟨w.heap.size + 1, 1, none⟩ = some (.int .i64 p2_1) ∧ w'.cell? ⟨w.heap.size + 1, 2, none⟩ = some (.slice Aup2_2 p2_2.length cup2_2) ∧ Hid (Below w3.heap.size w3 w')) := Lib.hid (fun w' H => ⟨(H.out.cell (p := ⟨w.heap.size, 0, none⟩) hlhpp1_).trans hpp1_0, (H.out.cell (p := ⟨w.heap.size, 1, none⟩) hlhpp1_).trans hpp1_1, (H.out.cell (p := ⟨w.heap.size, 2, none⟩) hlhpp1_).trans hpp1_2, (H.out.cell (p := ⟨w.heap.size + 1, 0, none⟩) hlhpp2_).trans hpp2_0, (H.out.cell (p := ⟨w.heap.size + 1, 1, none⟩) hlhpp2_).trans hpp2_1, (H.out.cell (p := ⟨w.heap.size + 1, 2, none⟩) hlhpp2_).trans hpp2_2, H⟩)
  go_upto_region 8 with fail
  go_cut [8, 9] from 19 (fun s8 s9 wc => ∃ (nb : Nat) (Awr0_2 : Option Addr) (cwr0_2 : Nat), s8 = .pointer (some ⟨nb, 0, none⟩) ∧ s9 = .bool r1_0 ∧ wc.cell? ⟨nb, 0, none⟩ = some (.int .i64 r0_0) ∧ wc.cell? ⟨nb, 1, none⟩ = some (.int .i64 r0_1) ∧ wc.cell? ⟨nb, 2, none⟩ = some (.slice Awr0_2 r0_2.length cwr0_2) ∧ nb < wc.heap.size ∧ Hid (Below w3.heap.size w3 wc) ∧ OwnP wc (fun k => w3.heap.size ≤ k) (.slice Awr0_2 r0_2.length cwr0_2) r0_2)
  case first =>
    go_region_held3 (fun w' => w'.cell? ⟨w.heap.size, 0, none⟩ = some (.int .i64 p1_0) ∧ w'.cell? ⟨w.heap.size, 1, none⟩ = some (.int .i64 p1_1) ∧ w'.cell? ⟨w.heap.size, 2, none⟩ = some (.slice Aup1_2 p1_2.length cup1_2) ∧ w'.cell? ⟨w.heap.size + 1, 0, none⟩ = some (.int .i64 p2_0) ∧ w'.cell? ⟨w.heap.size + 1, 1, none⟩ = some (.int .i64 p2_1) ∧ w'.cell? ⟨w.heap.size + 1, 2, none⟩ = some (.slice Aup2_2 p2_2.length cup2_2) ∧ Hid (Below w3.heap.size w3 w'))
      (exact HELD.out _ (by first | assumption | (refine Lib.hid ?_; repeat' (first | exact Below.refl _ _ | exact Hid.out (by assumption) | apply Below.drew | apply Below.setCell | apply Below.alloc | (simp; done) | omega | (simp; omega)))))
      (first
        | (go_at_call_of 6 Aup1_2; go_split_ands; refine (toRelation_fr w3 _ (by assumption) p1_0 p1_1 p1_2 _ HV6p1_2.out hsp1_2).mono ?_; rintro e wa0 ⟨vyp1_2, rfl, ba0, bb0, oyp1_2⟩; have sb0 : w3.heap.size ≤ wa0.heap.size := (by have := ba0.out.size; (try simp at this); omega); (try ((first | have hbx0 := box_behind ba0.out | have hbx0 := box_behind' ba0.out); change wa0.heap[w3.heap.size]? = some (.cells #[.int .i64 0, .int .i64 0, .slice none 0 0] 26 (0, 0)) at hbx0; have hbl0 : w3.heap.size < wa0.heap.size := (Array.getElem?_eq_some_iff.1 hbx0).1)))
        | (go_at_call_of 6 Aup2_2; go_split_ands; refine (toRelation_fr w3 _ (by assumption) p2_0 p2_1 p2_2 _ HV6p2_2.out hsp2_2).mono ?_; rintro e wa1 ⟨vyp2_2, rfl, ba1, bb1, oyp2_2⟩; have sb1 : wa0.heap.size ≤ wa1.heap.size := (by have := ba1.out.size; (try simp at this); omega); have bq1 : Hid (Below wa0.heap.size wa0 wa1) := Lib.hid (Below.trans (by repeat' (first | exact Below.refl _ _ | apply Below.drew | apply Below.setCell | apply Below.alloc | (simp; done) | omega | (simp; omega))) (ba1.out.mono (by first | exact Nat.le_refl _ | (simp; done) | omega | (simp; omega)))); (try (replace hbx0 := box_kept hbx0 ba1.out)); (try ((first | have hbx1 := box_behind ba1.out | have hbx1 := box_behind' ba1.out); change wa1.heap[wa0.heap.size]? = some (.cells #[.int .i64 0, .int .i64 0, .slice none 0 0] 26 (0, 0)) at hbx1; have hbl1 : wa0.heap.size < wa1.heap.size := (Array.getElem?_eq_some_iff.1 hbx1).1)))
        | (go_at_call 5; go_split_ands; refine (HSP.out _ _ _ _ ((((oyp1_2.out.below bq1.out (by first | omega | (simp; done) | (simp; omega)))).below (B' := wa1.heap.size) (by repeat' (first | exact Below.refl _ _ | apply Below.drew | apply Below.setCell | apply Below.alloc | (simp; done) | omega | (simp; omega))) (by first | omega | (simp; done) | (simp; omega))).mono (by first | omega | (simp; done) | (simp; omega))) (((oyp2_2.out).below (B' := wa1.heap.size) (by repeat' (first | exact Below.refl _ _ | apply Below.drew | apply Below.setCell | apply Below.alloc | (simp; done) | omega | (simp; omega))) (by first | omega | (simp; done) | (simp; omega))).mono (by first | omega | (simp; done) | (simp; omega))) (Nat.le_refl _) hsp1_2 hsp2_2).mono ?_; rintro e w4 ⟨vwr0_2, rfl, b, owr0_2⟩; obtain ⟨Awr0_2, cwr0_2, rfl⟩ := owr0_2.len; have hstep : Below w3.heap.size w3 w4 := (Hid.out (by assumption : Hid (Below w3.heap.size w3 _))).trans (b.mono (Hid.out (by assumption : Hid (Below w3.heap.size w3 _))).size); have HZZ := Lib.hid hstep; have hzz : wa1.heap.size ≤ w4.heap.size := (by have := b.size; (try simp at this); omega); (try (replace hbx0 := box_kept hbx0 b)); (try (replace hbx1 := box_kept hbx1 b)); (try ((first | have hbx2 := box_behind b | have hbx2 := box_behind' b); change w4.heap[wa1.heap.size]? = some (.cells #[.int .i64 0, .int .i64 0, .slice none 0 0] 26 (0, 0)) at hbx2; have hbl2 : wa1.heap.size < w4.heap.size := (Array.getElem?_eq_some_iff.1 hbx2).1)); (try (have hbc0_0 : w4.cell? ⟨w3.heap.size, 0, none⟩ = some (.int .i64 0) := box_cell hbx0 0)); (try (have hbc0_1 : w4.cell? ⟨w3.heap.size, 1, none⟩ = some (.int .i64 0) := box_cell hbx0 1)); (try (have hbc0_2 : w4.cell? ⟨w3.heap.size, 2, none⟩ = some (.slice none 0 0) := box_cell hbx0 2)); (try (have hbc1_0 : w4.cell? ⟨wa0.heap.size, 0, none⟩ = some (.int .i64 0) := box_cell hbx1 0)); (try (have hbc1_1 : w4.cell? ⟨wa0.heap.size, 1, none⟩ = some (.int .i64 0) := box_cell hbx1 1)); (try (have hbc1_2 : w4.cell? ⟨wa0.heap.size, 2, none⟩ = some (.slice none 0 0) := box_cell hbx1 2)); (try (have hbc2_0 : w4.cell? ⟨wa1.heap.size, 0, none⟩ = some (.int .i64 0) := box_cell hbx2 0)); (try (have hbc2_1 : w4.cell? ⟨wa1.heap.size, 1, none⟩ = some (.int .i64 0) := box_cell hbx2 1)); (try (have hbc2_2 : w4.cell? ⟨wa1.heap.size, 2, none⟩ = some (.slice none 0 0) := box_cell hbx2 2)); (try (have hbf0 := box_free hbx0)); (try (have hbf1 := box_free hbx1)); (try (have hbf2 := box_free hbx2))))
    all_goals go_wp2_with fail
    all_goals go_meet
    all_goals exact ⟨_, _, _, rfl, rfl, (by simp [go_sem, *]), (by simp [go_sem, *]), (by simp [go_sem, *]), (by first | (simp; done) | omega | (simp; omega)), Lib.hid (by repeat' (first | exact hstep | exact HZZ.out | apply Below.drew | apply Below.setCell | apply Below.alloc | (simp; done) | omega | (simp; omega))), ((owr0_2.blocks (fun k hk hl => by (try simp at hk); (repeat (first | rw [blk_setCell_other _ _ _ _ (by dsimp only; omega)] | rw [blk_alloc_lt _ _ _ hl])); try rfl)).mono (fun k hk hl => by (try simp at hk); omega))⟩
  obtain ⟨nbw, Awr0_2, cwr0_2, rfl, rfl, hwr0_0, hwr0_1, hwr0_2, hlhwr0_, hstep0, owr0_2⟩ := hcut
  have hstep := hstep0.out
  clear hstep0 HD HELD HV6p1_2 HV6p2_2
  obtain ⟨w4, rfl⟩ : ∃ x, x = wc := ⟨_, rfl⟩
  replace hpp1_0 := (hstep.cell (p := ⟨w.heap.size, 0, none⟩) hlhpp1_).trans hpp1_0
  replace hpp1_1 := (hstep.cell (p := ⟨w.heap.size, 1, none⟩) hlhpp1_).trans hpp1_1
  replace hpp1_2 := (hstep.cell (p := ⟨w.heap.size, 2, none⟩) hlhpp1_).trans hpp1_2
  replace hlhpp1_ : w.heap.size < w4.heap.size := Nat.lt_of_lt_of_le hlhpp1_ hstep.size
  replace hpp2_0 := (hstep.cell (p := ⟨w.heap.size + 1, 0, none⟩) hlhpp2_).trans hpp2_0
  replace hpp2_1 := (hstep.cell (p := ⟨w.heap.size + 1, 1, none⟩) hlhpp2_).trans hpp2_1
  replace hpp2_2 := (hstep.cell (p := ⟨w.heap.size + 1, 2, none⟩) hlhpp2_).trans hpp2_2
  replace hlhpp2_ : w.heap.size + 1 < w4.heap.size := Nat.lt_of_lt_of_le hlhpp2_ hstep.size
  replace HBN := Lib.hid (HBN.out.trans (hstep.mono HBN.out.size))
  have hzw4 : w3.heap.size ≤ w4.heap.size := hstep.size
  have hlhwr0_q := hlhwr0_
  obtain ⟨SHOwr0_2, HSHOwr0_2, HOwr0_2⟩ : ∃ S : Nat → Prop, Hid (∀ k, S k → w3.heap.size ≤ k ∧ k < w4.heap.size) ∧ Hid (OwnP w4 S (.slice Awr0_2 r0_2.length cwr0_2) r0_2) := ⟨fun k => w3.heap.size ≤ k ∧ k < w4.heap.size, Lib.hid (fun k hk => hk), Lib.hid (owr0_2.mono (fun k hk hk2 => ⟨by have hk3 := hk; (try simp at hk3); omega, hk2⟩))⟩
  clear hstep owr0_2
  go_wp2_with fail
  refine (toRelation_ok _ w.heap.size p1_0 p1_1 p1_2 _ ?_ ?_ hsp1_2).mono ?_
  · exact (HVp1_2.out.below HBN.out (Nat.le_refl _)).below (B' := w4.heap.size) (by repeat' (first | exact Below.refl _ _ | apply Below.drew | apply Below.setCell | apply Below.alloc | (simp; done) | omega | (simp; omega))) HBN.out.size
  · (have := HBN.out.size; first | exact this | (simp; done) | (simp; omega))
  rintro e w5 ⟨vxp1_2, rfl, b, oxp1_2⟩
  obtain ⟨Axp1_2, cxp1_2, rfl⟩ := oxp1_2.len
  have hstep : Below w4.heap.size w4 w5 := Below.trans (by repeat' (first | exact Below.refl _ _ | apply Below.drew | apply Below.setCell | apply Below.alloc | (simp; done) | omega | (simp; omega))) (b.mono (by (first | exact Nat.le_refl _ | (simp; done) | (simp; omega))))
  replace hpp1_0 := (hstep.cell (p := ⟨w.heap.size, 0, none⟩) hlhpp1_).trans hpp1_0
  replace hpp1_1 := (hstep.cell (p := ⟨w.heap.size, 1, none⟩) hlhpp1_).trans hpp1_1
  replace hpp1_2 := (hstep.cell (p := ⟨w.heap.size, 2, none⟩) hlhpp1_).trans hpp1_2
  replace hlhpp1_ : w.heap.size < w5.heap.size := Nat.lt_of_lt_of_le hlhpp1_ hstep.size
  replace hpp2_0 := (hstep.cell (p := ⟨w.heap.size + 1, 0, none⟩) hlhpp2_).trans hpp2_0
  replace hpp2_1 := (hstep.cell (p := ⟨w.heap.size + 1, 1, none⟩) hlhpp2_).trans hpp2_1
  replace hpp2_2 := (hstep.cell (p := ⟨w.heap.size + 1, 2, none⟩) hlhpp2_).trans hpp2_2
  replace hlhpp2_ : w.heap.size + 1 < w5.heap.size := Nat.lt_of_lt_of_le hlhpp2_ hstep.size
  replace hwr0_0 := (hstep.cell (p := ⟨nbw, 0, none⟩) hlhwr0_).trans hwr0_0
  replace hwr0_1 := (hstep.cell (p := ⟨nbw, 1, none⟩) hlhwr0_).trans hwr0_1
  replace hwr0_2 := (hstep.cell (p := ⟨nbw, 2, none⟩) hlhwr0_).trans hwr0_2
  replace hlhwr0_ : nbw < w5.heap.size := Nat.lt_of_lt_of_le hlhwr0_ hstep.size
  replace HOwr0_2 := Lib.hid (HOwr0_2.out.below hstep (fun _ _ hq => hq))
  replace HBN := Lib.hid (HBN.out.trans (hstep.mono HBN.out.size))
  have hzw5 : w4.heap.size ≤ w5.heap.size := hstep.size
  obtain ⟨SHOxp1_2, HSHOxp1_2, HOxp1_2⟩ : ∃ S : Nat → Prop, Hid (∀ k, S k → w4.heap.size + 0 ≤ k ∧ k < w5.heap.size) ∧ Hid (OwnG w5 S (.slice Axp1_2 p1_2.length cxp1_2) p1_2) := ⟨fun k => w4.heap.size + 0 ≤ k ∧ k < w5.heap.size, Lib.hid (fun k hk => hk), Lib.hid (oxp1_2.mono (fun k hk hk2 => ⟨by have hk3 := hk; (try simp at hk3); omega, hk2⟩))⟩
  clear b hstep oxp1_2
  go_wp2_with fail
  refine (toRelation_ok _ w.heap.size p2_0 p2_1 p2_2 _ ?_ ?_ hsp2_2).mono ?_
  · exact (HVp2_2.out.below HBN.out (Nat.le_refl _)).below (B' := w5.heap.size) (by repeat' (first | exact Below.refl _ _ | apply Below.drew | apply Below.setCell | apply Below.alloc | (simp; done) | omega | (simp; omega))) HBN.out.size
  · (have := HBN.out.size; first | exact this | (simp; done) | (simp; omega))
  rintro e w6 ⟨vxp2_2, rfl, b, oxp2_2⟩
  obtain ⟨Axp2_2, cxp2_2, rfl⟩ := oxp2_2.len
  have hstep : Below w5.heap.size w5 w6 := Below.trans (by repeat' (first | exact Below.refl _ _ | apply Below.drew | apply Below.setCell | apply Below.alloc | (simp; done) | omega | (simp; omega))) (b.mono (by (first | exact Nat.le_refl _ | (simp; done) | (simp; omega))))
  replace hpp1_0 := (hstep.cell (p := ⟨w.heap.size, 0, none⟩) hlhpp1_).trans hpp1_0
  replace hpp1_1 := (hstep.cell (p := ⟨w.heap.size, 1, none⟩) hlhpp1_).trans hpp1_1
  replace hpp1_2 := (hstep.cell (p := ⟨w.heap.size, 2, none⟩) hlhpp1_).trans hpp1_2
  replace hlhpp1_ : w.heap.size < w6.heap.size := Nat.lt_of_lt_of_le hlhpp1_ hstep.size
  replace hpp2_0 := (hstep.cell (p := ⟨w.heap.size + 1, 0, none⟩) hlhpp2_).trans hpp2_0
  replace hpp2_1 := (hstep.cell (p := ⟨w.heap.size + 1, 1, none⟩) hlhpp2_).trans hpp2_1
  replace hpp2_2 := (hstep.cell (p := ⟨w.heap.size + 1, 2, none⟩) hlhpp2_).trans hpp2_2
  replace hlhpp2_ : w.heap.size + 1 < w6.heap.size := Nat.lt_of_lt_of_le hlhpp2_ hstep.size
  replace hwr0_0 := (hstep.cell (p := ⟨nbw, 0, none⟩) hlhwr0_).trans hwr0_0
  replace hwr0_1 := (hstep.cell (p := ⟨nbw, 1, none⟩) hlhwr0_).trans hwr0_1
  replace hwr0_2 := (hstep.cell (p := ⟨nbw, 2, none⟩) hlhwr0_).trans hwr0_2
  replace hlhwr0_ : nbw < w6.heap.size := Nat.lt_of_lt_of_le hlhwr0_ hstep.size
  replace HOwr0_2 := Lib.hid (HOwr0_2.out.below hstep (fun _ _ hq => hq))
  replace HOxp1_2 := Lib.hid (HOxp1_2.out.below hstep (fun _ _ hq => hq))
  replace HBN := Lib.hid (HBN.out.trans (hstep.mono HBN.out.size))
  have hzw6 : w5.heap.size ≤ w6.heap.size := hstep.size
  have hxp1_0 : w6.cell? ⟨w5.heap.size, 0, none⟩ = some (.int .i64 p1_0) := by have := b.cell (p := ⟨w5.heap.size, 0, none⟩) (by first | (simp; done) | (simp; omega)); simpa [go_sem] using this
  have hxp1_1 : w6.cell? ⟨w5.heap.size, 1, none⟩ = some (.int .i64 p1_1) := by have := b.cell (p := ⟨w5.heap.size, 1, none⟩) (by first | (simp; done) | (simp; omega)); simpa [go_sem] using this
  have hxp1_2 : w6.cell? ⟨w5.heap.size, 2, none⟩ = some (.slice Axp1_2 p1_2.length cxp1_2) := by have := b.cell (p := ⟨w5.heap.size, 2, none⟩) (by first | (simp; done) | (simp; omega)); simpa [go_sem] using this
  have hlhxp1_ : w5.heap.size < w6.heap.size := by have := b.size; simp at this; omega
  have hlhxp1_q := hlhxp1_
  obtain ⟨SHOxp2_2, HSHOxp2_2, HOxp2_2⟩ : ∃ S : Nat → Prop, Hid (∀ k, S k → w5.heap.size + 1 ≤ k ∧ k < w6.heap.size) ∧ Hid (OwnG w6 S (.slice Axp2_2 p2_2.length cxp2_2) p2_2) := ⟨fun k => w5.heap.size + 1 ≤ k ∧ k < w6.heap.size, Lib.hid (fun k hk => hk), Lib.hid (oxp2_2.mono (fun k hk hk2 => ⟨by have hk3 := hk; (try simp at hk3); omega, hk2⟩))⟩
  clear b hstep oxp2_2
  go_wp2_with fail
  refine (HIM.out _ w6.heap.size _ _ ?_ ?_ ?_ ?_ hsp1_2 hsp2_2).mono ?_
  · exact (HT.out.below HBN.out).below (by repeat' (first | exact Below.refl _ _ | apply Below.drew | apply Below.setCell | apply Below.alloc | (simp; done) | omega | (simp; omega)))
  · exact (HOxp1_2.out.rd).below (B' := w6.heap.size) (by repeat' (first | exact Below.refl _ _ | apply Below.drew | apply Below.setCell | apply Below.alloc | (simp; done) | omega | (simp; omega))) (Nat.le_refl _)
  · exact (HOxp2_2.out.rd).below (B' := w6.heap.size) (by repeat' (first | exact Below.refl _ _ | apply Below.drew | apply Below.setCell | apply Below.alloc | (simp; done) | omega | (simp; omega))) (Nat.le_refl _)
  · (first | exact Nat.le_refl _ | (simp; done) | (simp; omega))
  rintro e w7 ⟨vgr0_2, rfl, b, ogr0_2⟩
  obtain ⟨Agr0_2, cgr0_2, rfl⟩ := ogr0_2.len
  have hstep : Below w6.heap.size w6 w7 := Below.trans (by repeat' (first | exact Below.refl _ _ | apply Below.drew | apply Below.setCell | apply Below.alloc | (simp; done) | omega | (simp; omega))) (b.mono (by (first | exact Nat.le_refl _ | (simp; done) | (simp; omega))))
  replace hpp1_0 := (hstep.cell (p := ⟨w.heap.size, 0, none⟩) hlhpp1_).trans hpp1_0
  replace hpp1_1 := (hstep.cell (p := ⟨w.heap.size, 1, none⟩) hlhpp1_).trans hpp1_1
  replace hpp1_2 := (hstep.cell (p := ⟨w.heap.size, 2, none⟩) hlhpp1_).trans hpp1_2
  replace hlhpp1_ : w.heap.size < w7.heap.size := Nat.lt_of_lt_of_le hlhpp1_ hstep.size
  replace hpp2_0 := (hstep.cell (p := ⟨w.heap.size + 1, 0, none⟩) hlhpp2_).trans hpp2_0
  replace hpp2_1 := (hstep.cell (p := ⟨w.heap.size + 1, 1, none⟩) hlhpp2_).trans hpp2_1
  replace hpp2_2 := (hstep.cell (p := ⟨w.heap.size + 1, 2, none⟩) hlhpp2_).trans hpp2_2
  replace hlhpp2_ : w.heap.size + 1 < w7.heap.size := Nat.lt_of_lt_of_le hlhpp2_ hstep.size
  replace hwr0_0 := (hstep.cell (p := ⟨nbw, 0, none⟩) hlhwr0_).trans hwr0_0
  replace hwr0_1 := (hstep.cell (p := ⟨nbw, 1, none⟩) hlhwr0_).trans hwr0_1
  replace hwr0_2 := (hstep.cell (p := ⟨nbw, 2, none⟩) hlhwr0_).trans hwr0_2
  replace hlhwr0_ : nbw < w7.heap.size := Nat.lt_of_lt_of_le hlhwr0_ hstep.size
  replace hxp1_0 := (hstep.cell (p := ⟨w5.heap.size, 0, none⟩) hlhxp1_).trans hxp1_0
  replace hxp1_1 := (hstep.cell (p := ⟨w5.heap.size, 1, none⟩) hlhxp1_).trans hxp1_1
  replace hxp1_2 := (hstep.cell (p := ⟨w5.heap.size, 2, none⟩) hlhxp1_).trans hxp1_2
  replace hlhxp1_ : w5.heap.size < w7.heap.size := Nat.lt_of_lt_of_le hlhxp1_ hstep.size
  replace HOwr0_2 := Lib.hid (HOwr0_2.out.below hstep (fun _ _ hq => hq))
  replace HOxp1_2 := Lib.hid (HOxp1_2.out.below hstep (fun _ _ hq => hq))
  replace HOxp2_2 := Lib.hid (HOxp2_2.out.below hstep (fun _ _ hq => hq))
  replace HBN := Lib.hid (HBN.out.trans (hstep.mono HBN.out.size))
  have hzw7 : w6.heap.size ≤ w7.heap.size := hstep.size
  have hxp2_0 : w7.cell? ⟨w6.heap.size, 0, none⟩ = some (.int .i64 p2_0) := by have := b.cell (p := ⟨w6.heap.size, 0, none⟩) (by first | (simp; done) | (simp; omega)); simpa [go_sem] using this
  have hxp2_1 : w7.cell? ⟨w6.heap.size, 1, none⟩ = some (.int .i64 p2_1) := by have := b.cell (p := ⟨w6.heap.size, 1, none⟩) (by first | (simp; done) | (simp; omega)); simpa [go_sem] using this
  have hxp2_2 : w7.cell? ⟨w6.heap.size, 2, none⟩ = some (.slice Axp2_2 p2_2.length cxp2_2) := by have := b.cell (p := ⟨w6.heap.size, 2, none⟩) (by first | (simp; done) | (simp; omega)); simpa [go_sem] using this
  have hlhxp2_ : w6.heap.size < w7.heap.size := by have := b.size; simp at this; omega
  have hlhxp2_q := hlhxp2_
  obtain ⟨SHOgr0_2, HSHOgr0_2, HOgr0_2⟩ : ∃ S : Nat → Prop, Hid (∀ k, S k → w6.heap.size + 1 ≤ k ∧ k < w7.heap.size) ∧ Hid (OwnP w7 S (.slice Agr0_2 r0_2.length cgr0_2) r0_2) := ⟨fun k => w6.heap.size + 1 ≤ k ∧ k < w7.heap.size, Lib.hid (fun k hk => hk), Lib.hid (ogr0_2.mono (fun k hk hk2 => ⟨by have hk3 := hk; (try simp at hk3); omega, hk2⟩))⟩
  clear b hstep ogr0_2
  go_wp2_with fail
  refine (eqRelation_ok _ w7.heap.size r0_0 r0_1 r0_2 _ _ ?_ ?_ ?_).mono ?_
  · exact (HOgr0_2.out.rd).below (B' := w7.heap.size) (by repeat' (first | exact Below.refl _ _ | apply Below.drew | apply Below.setCell | apply Below.alloc | (simp; done) | omega | (simp; omega))) (Nat.le_refl _)
  · exact (HOwr0_2.out.rd).below (B' := w7.heap.size) (by repeat' (first | exact Below.refl _ _ | apply Below.drew | apply Below.setCell | apply Below.alloc | (simp; done) | omega | (simp; omega))) (Nat.le_refl _)
  · (first | exact Nat.le_refl _ | (simp; done) | (simp; omega))
  rintro e w8 ⟨rfl, b⟩
  have hstep : Below w7.heap.size w7 w8 := Below.trans (by repeat' (first | exact Below.refl _ _ | apply Below.drew | apply Below.setCell | apply Below.alloc | (simp; done) | omega | (simp; omega))) (b.mono (by (first | exact Nat.le_refl _ | (simp; done) | (simp; omega))))
  replace hpp1_0 := (hstep.cell (p := ⟨w.heap.size, 0, none⟩) hlhpp1_).trans hpp1_0
  replace hpp1_1 := (hstep.cell (p := ⟨w.heap.size, 1, none⟩) hlhpp1_).trans hpp1_1
  replace hpp1_2 := (hstep.cell (p := ⟨w.heap.size, 2, none⟩) hlhpp1_).trans hpp1_2
  replace hlhpp1_ : w.heap.size < w8.heap.size := Nat.lt_of_lt_of_le hlhpp1_ hstep.size
  replace hpp2_0 := (hstep.cell (p := ⟨w.heap.size + 1, 0, none⟩) hlhpp2_).trans hpp2_0
  replace hpp2_1 := (hstep.cell (p := ⟨w.heap.size + 1, 1, none⟩) hlhpp2_).trans hpp2_1
  replace hpp2_2 := (hstep.cell (p := ⟨w.heap.size + 1, 2, none⟩) hlhpp2_).trans hpp2_2
  replace hlhpp2_ : w.heap.size + 1 < w8.heap.size := Nat.lt_of_lt_of_le hlhpp2_ hstep.size
  replace hwr0_0 := (hstep.cell (p := ⟨nbw, 0, none⟩) hlhwr0_).trans hwr0_0
  replace hwr0_1 := (hstep.cell (p := ⟨nbw, 1, none⟩) hlhwr0_).trans hwr0_1
  replace hwr0_2 := (hstep.cell (p := ⟨nbw, 2, none⟩) hlhwr0_).trans hwr0_2
  replace hlhwr0_ : nbw < w8.heap.size := Nat.lt_of_lt_of_le hlhwr0_ hstep.size
  replace hxp1_0 := (hstep.cell (p := ⟨w5.heap.size, 0, none⟩) hlhxp1_).trans hxp1_0
  replace hxp1_1 := (hstep.cell (p := ⟨w5.heap.size, 1, none⟩) hlhxp1_).trans hxp1_1
  replace hxp1_2 := (hstep.cell (p := ⟨w5.heap.size, 2, none⟩) hlhxp1_).trans hxp1_2
  replace hlhxp1_ : w5.heap.size < w8.heap.size := Nat.lt_of_lt_of_le hlhxp1_ hstep.size
  replace hxp2_0 := (hstep.cell (p := ⟨w6.heap.size, 0, none⟩) hlhxp2_).trans hxp2_0
  replace hxp2_1 := (hstep.cell (p := ⟨w6.heap.size, 1, none⟩) hlhxp2_).trans hxp2_1
  replace hxp2_2 := (hstep.cell (p := ⟨w6.heap.size, 2, none⟩) hlhxp2_).trans hxp2_2
  replace hlhxp2_ : w6.heap.size < w8.heap.size := Nat.lt_of_lt_of_le hlhxp2_ hstep.size
  replace HOwr0_2 := Lib.hid (HOwr0_2.out.below hstep (fun _ _ hq => hq))
  replace HOxp1_2 := Lib.hid (HOxp1_2.out.below hstep (fun _ _ hq => hq))
  replace HOxp2_2 := Lib.hid (HOxp2_2.out.below hstep (fun _ _ hq => hq))
  replace HOgr0_2 := Lib.hid (HOgr0_2.out.below hstep (fun _ _ hq => hq))
  replace HBN := Lib.hid (HBN.out.trans (hstep.mono HBN.out.size))
  have hzw8 : w7.heap.size ≤ w8.heap.size := hstep.size
  have hgr0_0 : w8.cell? ⟨w7.heap.size, 0, none⟩ = some (.int .i64 r0_0) := by have := b.cell (p := ⟨w7.heap.size, 0, none⟩) (by first | (simp; done) | (simp; omega)); simpa [go_sem] using this
  have hgr0_1 : w8.cell? ⟨w7.heap.size, 1, none⟩ = some (.int .i64 r0_1) := by have := b.cell (p := ⟨w7.heap.size, 1, none⟩) (by first | (simp; done) | (simp; omega)); simpa [go_sem] using this
  have hgr0_2 : w8.cell? ⟨w7.heap.size, 2, none⟩ = some (.slice Agr0_2 r0_2.length cgr0_2) := by have := b.cell (p := ⟨w7.heap.size, 2, none⟩) (by first | (simp; done) | (simp; omega)); simpa [go_sem] using this
  have hlhgr0_ : w7.heap.size < w8.heap.size := by have := b.size; simp at this; omega
  have hlhgr0_q := hlhgr0_
  clear b hstep 
  have HD : Hid (Below w8.heap.size w8 w8.drew) := Lib.hid (Below.refl _ _).drew
  have HV62 := Lib.hid ((HVp1_2.out.below HBN.out (Nat.le_refl _)).mono HBN.out.size)
  have HG62 := Lib.hid (HOxp1_2.out.rd)
  have HELD : Hid (∀ w' : World, Hid (Below w8.heap.size w8 w') → w'.cell? ⟨w.heap.size, 0, none⟩ = some (.int .i64 p1_0) ∧ w'.cell? ⟨w.heap.size, 1, none⟩ = some (.int .i64 p1_1) ∧ w'.cell? ⟨w.heap.size, 2, none⟩ = some (.slice Aup1_2 p1_2.length cup1_2) ∧ w'.cell? ⟨w5.heap.size, 0, none⟩ = some (.int .i64 p1_0) ∧ w'.cell? ⟨w5.heap.size, 1, none⟩ = some (.int .i64 p1_1) ∧ w'.cell? ⟨w5.heap.size, 2, none⟩ = some (.slice Axp1_2 p1_2.length cxp1_2) ∧ Hid (Below w8.heap.size w8 w')) := Lib.hid (fun w' H => ⟨(H.out.cell (p := ⟨w.heap.size, 0, none⟩) hlhpp1_).trans hpp1_0, (H.out.cell (p := ⟨w.heap.size, 1, none⟩) hlhpp1_).trans hpp1_1, (H.out.cell (p := ⟨w.heap.size, 2, none⟩) hlhpp1_).trans hpp1_2, (H.out.cell (p := ⟨w5.heap.size, 0, none⟩) hlhxp1_).trans hxp1_0, (H.out.cell (p := ⟨w5.heap.size, 1, none⟩) hlhxp1_).trans hxp1_1, (H.out.cell (p := ⟨w5.heap.size, 2, none⟩) hlhxp1_).trans hxp1_2, H⟩)
  go_wp2_with fail
  go_region_held3 (fun w' => w'.cell? ⟨w.heap.size, 0, none⟩ = some (.int .i64 p1_0) ∧ w'.cell? ⟨w.heap.size, 1, none⟩ = some (.int .i64 p1_1) ∧ w'.cell? ⟨w.heap.size, 2, none⟩ = some (.slice Aup1_2 p1_2.length cup1_2) ∧ w'.cell? ⟨w5.heap.size, 0, none⟩ = some (.int .i64 p1_0) ∧ w'.cell? ⟨w5.heap.size, 1, none⟩ = some (.int .i64 p1_1) ∧ w'.cell? ⟨w5.heap.size, 2, none⟩ = some (.slice Axp1_2 p1_2.length cxp1_2) ∧ Hid (Below w8.heap.size w8 w'))
    (exact HELD.out _ (by assumption))
    (first
      | (go_at_call 6; go_split_ands; refine (toRelation_fr w8 _ (by assumption) p1_0 p1_1 p1_2 _ HV62.out hsp1_2).mono ?_; rintro e wa ⟨vyp1_2, rfl, ba, bb, oyp1_2⟩)
      | (go_at_call 8; go_split_ands; refine (eqRelation_fr w8 _ (by assumption) p1_0 p1_1 p1_2 _ _ HG62.out (by assumption)).mono ?_; rintro e w9 ⟨rfl, bc⟩))
  have hstep := bc.out
  clear HD HELD HV62 HG62 oyp1_2 ba bb bc
  replace hpp1_0 := (hstep.cell (p := ⟨w.heap.size, 0, none⟩) hlhpp1_).trans hpp1_0
  replace hpp1_1 := (hstep.cell (p := ⟨w.heap.size, 1, none⟩) hlhpp1_).trans hpp1_1
  replace hpp1_2 := (hstep.cell (p := ⟨w.heap.size, 2, none⟩) hlhpp1_).trans hpp1_2
  replace hlhpp1_ : w.heap.size < w9.heap.size := Nat.lt_of_lt_of_le hlhpp1_ hstep.size
  replace hpp2_0 := (hstep.cell (p := ⟨w.heap.size + 1, 0, none⟩) hlhpp2_).trans hpp2_0
  replace hpp2_1 := (hstep.cell (p := ⟨w.heap.size + 1, 1, none⟩) hlhpp2_).trans hpp2_1
  replace hpp2_2 := (hstep.cell (p := ⟨w.heap.size + 1, 2, none⟩) hlhpp2_).trans hpp2_2
  replace hlhpp2_ : w.heap.size + 1 < w9.heap.size := Nat.lt_of_lt_of_le hlhpp2_ hstep.size
  replace hwr0_0 := (hstep.cell (p := ⟨nbw, 0, none⟩) hlhwr0_).trans hwr0_0
  replace hwr0_1 := (hstep.cell (p := ⟨nbw, 1, none⟩) hlhwr0_).trans hwr0_1
  replace hwr0_2 := (hstep.cell (p := ⟨nbw, 2, none⟩) hlhwr0_).trans hwr0_2
  replace hlhwr0_ : nbw < w9.heap.size := Nat.lt_of_lt_of_le hlhwr0_ hstep.size
  replace hxp1_0 := (hstep.cell (p := ⟨w5.heap.size, 0, none⟩) hlhxp1_).trans hxp1_0
  replace hxp1_1 := (hstep.cell (p := ⟨w5.heap.size, 1, none⟩) hlhxp1_).trans hxp1_1
  replace hxp1_2 := (hstep.cell (p := ⟨w5.heap.size, 2, none⟩) hlhxp1_).trans hxp1_2
  replace hlhxp1_ : w5.heap.size < w9.heap.size := Nat.lt_of_lt_of_le hlhxp1_ hstep.size
  replace hxp2_0 := (hstep.cell (p := ⟨w6.heap.size, 0, none⟩) hlhxp2_).trans hxp2_0
  replace hxp2_1 := (hstep.cell (p := ⟨w6.heap.size, 1, none⟩) hlhxp2_).trans hxp2_1
  replace hxp2_2 := (hstep.cell (p := ⟨w6.heap.size, 2, none⟩) hlhxp2_).trans hxp2_2
  replace hlhxp2_ : w6.heap.size < w9.heap.size := Nat.lt_of_lt_of_le hlhxp2_ hstep.size
  replace hgr0_0 := (hstep.cell (p := ⟨w7.heap.size, 0, none⟩) hlhgr0_).trans hgr0_0
  replace hgr0_1 := (hstep.cell (p := ⟨w7.heap.size, 1, none⟩) hlhgr0_).trans hgr0_1
  replace hgr0_2 := (hstep.cell (p := ⟨w7.heap.size, 2, none⟩) hlhgr0_).trans hgr0_2
  replace hlhgr0_ : w7.heap.size < w9.heap.size := Nat.lt_of_lt_of_le hlhgr0_ hstep.size
  replace HOwr0_2 := Lib.hid (HOwr0_2.out.below hstep (fun _ _ hq => hq))
  replace HOxp1_2 := Lib.hid (HOxp1_2.out.below hstep (fun _ _ hq => hq))
  replace HOxp2_2 := Lib.hid (HOxp2_2.out.below hstep (fun _ _ hq => hq))
  replace HOgr0_2 := Lib.hid (HOgr0_2.out.below hstep (fun _ _ hq => hq))
  replace HBN := Lib.hid (HBN.out.trans (hstep.mono HBN.out.size))
  have hzw9 : w8.heap.size ≤ w9.heap.size := hstep.size
  clear hstep
  have HD : Hid (Below w9.heap.size w9 w9.drew) := Lib.hid (Below.refl _ _).drew
  have HV62 := Lib.hid ((HVp2_2.out.below HBN.out (Nat.le_refl _)).mono HBN.out.size)
  have HG62 := Lib.hid (HOxp2_2.out.rd)
  have HELD : Hid (∀ w' : World, Hid (Below w9.heap.size w9 w') → w'.cell? ⟨w.heap.size + 1, 0, none⟩ = some (.int .i64 p2_0) ∧ w'.cell? ⟨w.heap.size + 1, 1, none⟩ = some (.int .i64 p2_1) ∧ w'.cell? ⟨w.heap.size + 1, 2, none⟩ = some (.slice Aup2_2 p2_2.length cup2_2) ∧ w'.cell? ⟨w6.heap.size, 0, none⟩ = some (.int .i64 p2_0) ∧ w'.cell? ⟨w6.heap.size, 1, none⟩ = some (.int .i64 p2_1) ∧ w'.cell? ⟨w6.heap.size, 2, none⟩ = some (.slice Axp2_2 p2_2.length cxp2_2) ∧ Hid (Below w9.heap.size w9 w')) := Lib.hid (fun w' H => ⟨(H.out.cell (p := ⟨w.heap.size + 1, 0, none⟩) hlhpp2_).trans hpp2_0, (H.out.cell (p := ⟨w.heap.size + 1, 1, none⟩) hlhpp2_).trans hpp2_1, (H.out.cell (p := ⟨w.heap.size + 1, 2, none⟩) hlhpp2_).trans hpp2_2, (H.out.cell (p := ⟨w6.heap.size, 0, none⟩) hlhxp2_).trans hxp2_0, (H.out.cell (p := ⟨w6.heap.size, 1, none⟩) hlhxp2_).trans hxp2_1, (H.out.cell (p := ⟨w6.heap.size, 2, none⟩) hlhxp2_).trans hxp2_2, H⟩)
  go_wp2_with fail
  go_region_held3 (fun w' => w'.cell? ⟨w.heap.size + 1, 0, none⟩ = some (.int .i64 p2_0) ∧ w'.cell? ⟨w.heap.size + 1, 1, none⟩ = some (.int .i64 p2_1) ∧ w'.cell? ⟨w.heap.size + 1, 2, none⟩ = some (.slice Aup2_2 p2_2.length cup2_2) ∧ w'.cell? ⟨w6.heap.size, 0, none⟩ = some (.int .i64 p2_0) ∧ w'.cell? ⟨w6.heap.size, 1, none⟩ = some (.int .i64 p2_1) ∧ w'.cell? ⟨w6.heap.size, 2, none⟩ = some (.slice Axp2_2 p2_2.length cxp2_2) ∧ Hid (Below w9.heap.size w9 w'))
    (exact HELD.out _ (by assumption))
    (first
      | (go_at_call 6; go_split_ands; refine (toRelation_fr w9 _ (by assumption) p2_0 p2_1 p2_2 _ HV62.out hsp2_2).mono ?_; rintro e wa ⟨vyp2_2, rfl, ba, bb, oyp2_2⟩)
      | (go_at_call 8; go_split_ands; refine (eqRelation_fr w9 _ (by assumption) p2_0 p2_1 p2_2 _ _ HG62.out (by assumption)).mono ?_; rintro e w10 ⟨rfl, bc⟩))
  have hstep := bc.out
  clear HD HELD HV62 HG62 oyp2_2 ba bb bc
  replace hpp1_0 := (hstep.cell (p := ⟨w.heap.size, 0, none⟩) hlhpp1_).trans hpp1_0
  replace hpp1_1 := (hstep.cell (p := ⟨w.heap.size, 1, none⟩) hlhpp1_).trans hpp1_1
  replace hpp1_2 := (hstep.cell (p := ⟨w.heap.size, 2, none⟩) hlhpp1_).trans hpp1_2
  replace hlhpp1_ : w.heap.size < w10.heap.size := Nat.lt_of_lt_of_le hlhpp1_ hstep.size
  replace hpp2_0 := (hstep.cell (p := ⟨w.heap.size + 1, 0, none⟩) hlhpp2_).trans hpp2_0
  replace hpp2_1 := (hstep.cell (p := ⟨w.heap.size + 1, 1, none⟩) hlhpp2_).trans hpp2_1
  replace hpp2_2 := (hstep.cell (p := ⟨w.heap.size + 1, 2, none⟩) hlhpp2_).trans hpp2_2
  replace hlhpp2_ : w.heap.size + 1 < w10.heap.size := Nat.lt_of_lt_of_le hlhpp2_ hstep.size
  replace hwr0_0 := (hstep.cell (p := ⟨nbw, 0, none⟩) hlhwr0_).trans hwr0_0
  replace hwr0_1 := (hstep.cell (p := ⟨nbw, 1, none⟩) hlhwr0_).trans hwr0_1
  replace hwr0_2 := (hstep.cell (p := ⟨nbw, 2, none⟩) hlhwr0_).trans hwr0_2
  replace hlhwr0_ : nbw < w10.heap.size := Nat.lt_of_lt_of_le hlhwr0_ hstep.size
  replace hxp1_0 := (hstep.cell (p := ⟨w5.heap.size, 0, none⟩) hlhxp1_).trans hxp1_0
  replace hxp1_1 := (hstep.cell (p := ⟨w5.heap.size, 1, none⟩) hlhxp1_).trans hxp1_1
  replace hxp1_2 := (hstep.cell (p := ⟨w5.heap.size, 2, none⟩) hlhxp1_).trans hxp1_2
  replace hlhxp1_ : w5.heap.size < w10.heap.size := Nat.lt_of_lt_of_le hlhxp1_ hstep.size
  replace hxp2_0 := (hstep.cell (p := ⟨w6.heap.size, 0, none⟩) hlhxp2_).trans hxp2_0
  replace hxp2_1 := (hstep.cell (p := ⟨w6.heap.size, 1, none⟩) hlhxp2_).trans hxp2_1
  replace hxp2_2 := (hstep.cell (p := ⟨w6.heap.size, 2, none⟩) hlhxp2_).trans hxp2_2
  replace hlhxp2_ : w6.heap.size < w10.heap.size := Nat.lt_of_lt_of_le hlhxp2_ hstep.size
  replace hgr0_0 := (hstep.cell (p := ⟨w7.heap.size, 0, none⟩) hlhgr0_).trans hgr0_0
  replace hgr0_1 := (hstep.cell (p := ⟨w7.heap.size, 1, none⟩) hlhgr0_).trans hgr0_1
  replace hgr0_2 := (hstep.cell (p := ⟨w7.heap.size, 2, none⟩) hlhgr0_).trans hgr0_2
  replace hlhgr0_ : w7.heap.size < w10.heap.size := Nat.lt_of_lt_of_le hlhgr0_ hstep.size
  replace HOwr0_2 := Lib.hid (HOwr0_2.out.below hstep (fun _ _ hq => hq))
  replace HOxp1_2 := Lib.hid (HOxp1_2.out.below hstep (fun _ _ hq => hq))
  replace HOxp2_2 := Lib.hid (HOxp2_2.out.below hstep (fun _ _ hq => hq))
  replace HOgr0_2 := Lib.hid (HOgr0_2.out.below hstep (fun _ _ hq => hq))
  replace HBN := Lib.hid (HBN.out.trans (hstep.mono HBN.out.size))
  have hzw10 : w9.heap.size ≤ w10.heap.size := hstep.size
  clear hstep
  have := cntG_le p1_2
  go_wp2_with fail
  refine (markRelation_ok _ p1_0 p1_1 p1_2 _ SHOxp1_2 1 (HOxp1_2.out) (by omega) (by omega)).mono ?_
  rintro e w11 ⟨h2, t, om0⟩
  replace hpp1_0 := (t.cellAt (p := ⟨w.heap.size, 0, none⟩) hlhpp1_ (fun hk => by (first | (have := HSHOxp1_2.out _ hk; dsimp only at this; omega)))).trans hpp1_0
  replace hpp1_1 := (t.cellAt (p := ⟨w.heap.size, 1, none⟩) hlhpp1_ (fun hk => by (first | (have := HSHOxp1_2.out _ hk; dsimp only at this; omega)))).trans hpp1_1
  replace hpp1_2 := (t.cellAt (p := ⟨w.heap.size, 2, none⟩) hlhpp1_ (fun hk => by (first | (have := HSHOxp1_2.out _ hk; dsimp only at this; omega)))).trans hpp1_2
  replace hpp2_0 := (t.cellAt (p := ⟨w.heap.size + 1, 0, none⟩) hlhpp2_ (fun hk => by (first | (have := HSHOxp1_2.out _ hk; dsimp only at this; omega)))).trans hpp2_0
  replace hpp2_1 := (t.cellAt (p := ⟨w.heap.size + 1, 1, none⟩) hlhpp2_ (fun hk => by (first | (have := HSHOxp1_2.out _ hk; dsimp only at this; omega)))).trans hpp2_1
  replace hpp2_2 := (t.cellAt (p := ⟨w.heap.size + 1, 2, none⟩) hlhpp2_ (fun hk => by (first | (have := HSHOxp1_2.out _ hk; dsimp only at this; omega)))).trans hpp2_2
  replace hwr0_0 := (t.cellAt (p := ⟨nbw, 0, none⟩) hlhwr0_ (fun hk => by (first | (have := HSHOxp1_2.out _ hk; dsimp only at this; omega)))).trans hwr0_0
  replace hwr0_1 := (t.cellAt (p := ⟨nbw, 1, none⟩) hlhwr0_ (fun hk => by (first | (have := HSHOxp1_2.out _ hk; dsimp only at this; omega)))).trans hwr0_1
  replace hwr0_2 := (t.cellAt (p := ⟨nbw, 2, none⟩) hlhwr0_ (fun hk => by (first | (have := HSHOxp1_2.out _ hk; dsimp only at this; omega)))).trans hwr0_2
  replace hxp1_0 := (t.cellAt (p := ⟨w5.heap.size, 0, none⟩) hlhxp1_ (fun hk => by (first | (have := HSHOxp1_2.out _ hk; dsimp only at this; omega)))).trans hxp1_0
  replace hxp1_1 := (t.cellAt (p := ⟨w5.heap.size, 1, none⟩) hlhxp1_ (fun hk => by (first | (have := HSHOxp1_2.out _ hk; dsimp only at this; omega)))).trans hxp1_1
  replace hxp1_2 := (t.cellAt (p := ⟨w5.heap.size, 2, none⟩) hlhxp1_ (fun hk => by (first | (have := HSHOxp1_2.out _ hk; dsimp only at this; omega)))).trans hxp1_2
  replace hxp2_0 := (t.cellAt (p := ⟨w6.heap.size, 0, none⟩) hlhxp2_ (fun hk => by (first | (have := HSHOxp1_2.out _ hk; dsimp only at this; omega)))).trans hxp2_0
  replace hxp2_1 := (t.cellAt (p := ⟨w6.heap.size, 1, none⟩) hlhxp2_ (fun hk => by (first | (have := HSHOxp1_2.out _ hk; dsimp only at this; omega)))).trans hxp2_1
  replace hxp2_2 := (t.cellAt (p := ⟨w6.heap.size, 2, none⟩) hlhxp2_ (fun hk => by (first | (have := HSHOxp1_2.out _ hk; dsimp only at this; omega)))).trans hxp2_2
  replace hgr0_0 := (t.cellAt (p := ⟨w7.heap.size, 0, none⟩) hlhgr0_ (fun hk => by (first | (have := HSHOxp1_2.out _ hk; dsimp only at this; omega)))).trans hgr0_0
  replace hgr0_1 := (t.cellAt (p := ⟨w7.heap.size, 1, none⟩) hlhgr0_ (fun hk => by (first | (have := HSHOxp1_2.out _ hk; dsimp only at this; omega)))).trans hgr0_1
  replace hgr0_2 := (t.cellAt (p := ⟨w7.heap.size, 2, none⟩) hlhgr0_ (fun hk => by (first | (have := HSHOxp1_2.out _ hk; dsimp only at this; omega)))).trans hgr0_2
  replace hlhpp1_ : w.heap.size < w11.heap.size := Nat.lt_of_lt_of_le hlhpp1_ t.size
  replace hlhpp2_ : w.heap.size + 1 < w11.heap.size := Nat.lt_of_lt_of_le hlhpp2_ t.size
  replace hlhwr0_ : nbw < w11.heap.size := Nat.lt_of_lt_of_le hlhwr0_ t.size
  replace hlhxp1_ : w5.heap.size < w11.heap.size := Nat.lt_of_lt_of_le hlhxp1_ t.size
  replace hlhxp2_ : w6.heap.size < w11.heap.size := Nat.lt_of_lt_of_le hlhxp2_ t.size
  replace hlhgr0_ : w7.heap.size < w11.heap.size := Nat.lt_of_lt_of_le hlhgr0_ t.size
  replace HOwr0_2 := Lib.hid (HOwr0_2.out.blocks (w' := w11) (fun q hq hql => t.block q hql (fun hx => by (first | (have := HSHOxp1_2.out q hx; have := HSHOwr0_2.out q hq; omega)))))
  replace HOxp2_2 := Lib.hid (HOxp2_2.out.blocks (w' := w11) (fun q hq hql => t.block q hql (fun hx => by (first | (have := HSHOxp1_2.out q hx; have := HSHOxp2_2.out q hq; omega)))))
  replace HOgr0_2 := Lib.hid (HOgr0_2.out.blocks (w' := w11) (fun q hq hql => t.block q hql (fun hx => by (first | (have := HSHOxp1_2.out q hx; have := HSHOgr0_2.out q hq; omega)))))
  replace HBN := Lib.hid (HBN.out.trans (t.below HBN.out.size (fun k hk => by (first | (have := HSHOxp1_2.out k hk; have := HBN.out.size; omega)))))
  have hzw11 : w10.heap.size ≤ w11.heap.size := t.size
  replace HOxp1_2 := Lib.hid om0
  clear t om0
  obtain ⟨kp1_, hkp1_a, hkp1_b, rfl⟩ : ∃ z : Int, 0 ≤ z ∧ z ≤ 1 + 1048576 * 1 ∧ e = .returned (.int .i64 z) := ⟨_, by omega, by omega, h2⟩
  clear h2
  clear HOxp1_2 HSHOxp1_2
  have := cntG_le p2_2
  go_wp2_with fail
  refine (markRelation_ok _ p2_0 p2_1 p2_2 _ SHOxp2_2 kp1_ (HOxp2_2.out) (by omega) (by omega)).mono ?_
  rintro e w12 ⟨h2, t, om0⟩
  replace hpp1_0 := (t.cellAt (p := ⟨w.heap.size, 0, none⟩) hlhpp1_ (fun hk => by (first | (have := HSHOxp2_2.out _ hk; dsimp only at this; omega)))).trans hpp1_0
  replace hpp1_1 := (t.cellAt (p := ⟨w.heap.size, 1, none⟩) hlhpp1_ (fun hk => by (first | (have := HSHOxp2_2.out _ hk; dsimp only at this; omega)))).trans hpp1_1
  replace hpp1_2 := (t.cellAt (p := ⟨w.heap.size, 2, none⟩) hlhpp1_ (fun hk => by (first | (have := HSHOxp2_2.out _ hk; dsimp only at this; omega)))).trans hpp1_2
  replace hpp2_0 := (t.cellAt (p := ⟨w.heap.size + 1, 0, none⟩) hlhpp2_ (fun hk => by (first | (have := HSHOxp2_2.out _ hk; dsimp only at this; omega)))).trans hpp2_0
  replace hpp2_1 := (t.cellAt (p := ⟨w.heap.size + 1, 1, none⟩) hlhpp2_ (fun hk => by (first | (have := HSHOxp2_2.out _ hk; dsimp only at this; omega)))).trans hpp2_1
  replace hpp2_2 := (t.cellAt (p := ⟨w.heap.size + 1, 2, none⟩) hlhpp2_ (fun hk => by (first | (have := HSHOxp2_2.out _ hk; dsimp only at this; omega)))).trans hpp2_2
  replace hwr0_0 := (t.cellAt (p := ⟨nbw, 0, none⟩) hlhwr0_ (fun hk => by (first | (have := HSHOxp2_2.out _ hk; dsimp only at this; omega)))).trans hwr0_0
  replace hwr0_1 := (t.cellAt (p := ⟨nbw, 1, none⟩) hlhwr0_ (fun hk => by (first | (have := HSHOxp2_2.out _ hk; dsimp only at this; omega)))).trans hwr0_1
  replace hwr0_2 := (t.cellAt (p := ⟨nbw, 2, none⟩) hlhwr0_ (fun hk => by (first | (have := HSHOxp2_2.out _ hk; dsimp only at this; omega)))).trans hwr0_2
  replace hxp1_0 := (t.cellAt (p := ⟨w5.heap.size, 0, none⟩) hlhxp1_ (fun hk => by (first | (have := HSHOxp2_2.out _ hk; dsimp only at this; omega)))).trans hxp1_0
  replace hxp1_1 := (t.cellAt (p := ⟨w5.heap.size, 1, none⟩) hlhxp1_ (fun hk => by (first | (have := HSHOxp2_2.out _ hk; dsimp only at this; omega)))).trans hxp1_1
  replace hxp1_2 := (t.cellAt (p := ⟨w5.heap.size, 2, none⟩) hlhxp1_ (fun hk => by (first | (have := HSHOxp2_2.out _ hk; dsimp only at this; omega)))).trans hxp1_2
  replace hxp2_0 := (t.cellAt (p := ⟨w6.heap.size, 0, none⟩) hlhxp2_ (fun hk => by (first | (have := HSHOxp2_2.out _ hk; dsimp only at this; omega)))).trans hxp2_0
  replace hxp2_1 := (t.cellAt (p := ⟨w6.heap.size, 1, none⟩) hlhxp2_ (fun hk => by (first | (have := HSHOxp2_2.out _ hk; dsimp only at this; omega)))).trans hxp2_1
  replace hxp2_2 := (t.cellAt (p := ⟨w6.heap.size, 2, none⟩) hlhxp2_ (fun hk => by (first | (have := HSHOxp2_2.out _ hk; dsimp only at this; omega)))).trans hxp2_2
  replace hgr0_0 := (t.cellAt (p := ⟨w7.heap.size, 0, none⟩) hlhgr0_ (fun hk => by (first | (have := HSHOxp2_2.out _ hk; dsimp only at this; omega)))).trans hgr0_0
  replace hgr0_1 := (t.cellAt (p := ⟨w7.heap.size, 1, none⟩) hlhgr0_ (fun hk => by (first | (have := HSHOxp2_2.out _ hk; dsimp only at this; omega)))).trans hgr0_1
  replace hgr0_2 := (t.cellAt (p := ⟨w7.heap.size, 2, none⟩) hlhgr0_ (fun hk => by (first | (have := HSHOxp2_2.out _ hk; dsimp only at this; omega)))).trans hgr0_2
  replace hlhpp1_ : w.heap.size < w12.heap.size := Nat.lt_of_lt_of_le hlhpp1_ t.size
  replace hlhpp2_ : w.heap.size + 1 < w12.heap.size := Nat.lt_of_lt_of_le hlhpp2_ t.size
  replace hlhwr0_ : nbw < w12.heap.size := Nat.lt_of_lt_of_le hlhwr0_ t.size
  replace hlhxp1_ : w5.heap.size < w12.heap.size := Nat.lt_of_lt_of_le hlhxp1_ t.size
  replace hlhxp2_ : w6.heap.size < w12.heap.size := Nat.lt_of_lt_of_le hlhxp2_ t.size
  replace hlhgr0_ : w7.heap.size < w12.heap.size := Nat.lt_of_lt_of_le hlhgr0_ t.size
  replace HOwr0_2 := Lib.hid (HOwr0_2.out.blocks (w' := w12) (fun q hq hql => t.block q hql (fun hx => by (first | (have := HSHOxp2_2.out q hx; have := HSHOwr0_2.out q hq; omega)))))
  replace HOgr0_2 := Lib.hid (HOgr0_2.out.blocks (w' := w12) (fun q hq hql => t.block q hql (fun hx => by (first | (have := HSHOxp2_2.out q hx; have := HSHOgr0_2.out q hq; omega)))))
  replace HBN := Lib.hid (HBN.out.trans (t.below HBN.out.size (fun k hk => by (first | (have := HSHOxp2_2.out k hk; have := HBN.out.size; omega)))))
  have hzw12 : w11.heap.size ≤ w12.heap.size := t.size
  replace HOxp2_2 := Lib.hid om0
  clear t om0
  obtain ⟨kp2_, hkp2_a, hkp2_b, rfl⟩ : ∃ z : Int, 0 ≤ z ∧ z ≤ kp1_ + 1048576 * 1 ∧ e = .returned (.int .i64 z) := ⟨_, by omega, by omega, h2⟩
  clear h2
  clear HOxp2_2 HSHOxp2_2
  have hkneg : ¬ kp2_ < 0 := by omega
  go_wp2_with fail
  refine (eqRelation_ok _ w12.heap.size r0_0 r0_1 r0_2 _ _ ?_ ?_ ?_).mono ?_
  · exact (HOgr0_2.out.rd).below (B' := w12.heap.size) (by repeat' (first | exact Below.refl _ _ | apply Below.drew | apply Below.setCell | apply Below.alloc | (simp; done) | omega | (simp; omega))) (Nat.le_refl _)
  · exact (HOwr0_2.out.rd).below (B' := w12.heap.size) (by repeat' (first | exact Below.refl _ _ | apply Below.drew | apply Below.setCell | apply Below.alloc | (simp; done) | omega | (simp; omega))) (Nat.le_refl _)
  · (first | exact Nat.le_refl _ | (simp; done) | (simp; omega))
  rintro e w13 ⟨rfl, b⟩
  have hstep : Below w12.heap.size w12 w13 := Below.trans (by repeat' (first | exact Below.refl _ _ | apply Below.drew | apply Below.setCell | apply Below.alloc | (simp; done) | omega | (simp; omega))) (b.mono (by (first | exact Nat.le_refl _ | (simp; done) | (simp; omega))))
  replace hpp1_0 := (hstep.cell (p := ⟨w.heap.size, 0, none⟩) hlhpp1_).trans hpp1_0
  replace hpp1_1 := (hstep.cell (p := ⟨w.heap.size, 1, none⟩) hlhpp1_).trans hpp1_1
  replace hpp1_2 := (hstep.cell (p := ⟨w.heap.size, 2, none⟩) hlhpp1_).trans hpp1_2
  replace hlhpp1_ : w.heap.size < w13.heap.size := Nat.lt_of_lt_of_le hlhpp1_ hstep.size
  replace hpp2_0 := (hstep.cell (p := ⟨w.heap.size + 1, 0, none⟩) hlhpp2_).trans hpp2_0
  replace hpp2_1 := (hstep.cell (p := ⟨w.heap.size + 1, 1, none⟩) hlhpp2_).trans hpp2_1
  replace hpp2_2 := (hstep.cell (p := ⟨w.heap.size + 1, 2, none⟩) hlhpp2_).trans hpp2_2
  replace hlhpp2_ : w.heap.size + 1 < w13.heap.size := Nat.lt_of_lt_of_le hlhpp2_ hstep.size
  replace hwr0_0 := (hstep.cell (p := ⟨nbw, 0, none⟩) hlhwr0_).trans hwr0_0
  replace hwr0_1 := (hstep.cell (p := ⟨nbw, 1, none⟩) hlhwr0_).trans hwr0_1
  replace hwr0_2 := (hstep.cell (p := ⟨nbw, 2, none⟩) hlhwr0_).trans hwr0_2
  replace hlhwr0_ : nbw < w13.heap.size := Nat.lt_of_lt_of_le hlhwr0_ hstep.size
  replace hxp1_0 := (hstep.cell (p := ⟨w5.heap.size, 0, none⟩) hlhxp1_).trans hxp1_0
  replace hxp1_1 := (hstep.cell (p := ⟨w5.heap.size, 1, none⟩) hlhxp1_).trans hxp1_1
  replace hxp1_2 := (hstep.cell (p := ⟨w5.heap.size, 2, none⟩) hlhxp1_).trans hxp1_2
  replace hlhxp1_ : w5.heap.size < w13.heap.size := Nat.lt_of_lt_of_le hlhxp1_ hstep.size
  replace hxp2_0 := (hstep.cell (p := ⟨w6.heap.size, 0, none⟩) hlhxp2_).trans hxp2_0
  replace hxp2_1 := (hstep.cell (p := ⟨w6.heap.size, 1, none⟩) hlhxp2_).trans hxp2_1
  replace hxp2_2 := (hstep.cell (p := ⟨w6.heap.size, 2, none⟩) hlhxp2_).trans hxp2_2
  replace hlhxp2_ : w6.heap.size < w13.heap.size := Nat.lt_of_lt_of_le hlhxp2_ hstep.size
  replace hgr0_0 := (hstep.cell (p := ⟨w7.heap.size, 0, none⟩) hlhgr0_).trans hgr0_0
  replace hgr0_1 := (hstep.cell (p := ⟨w7.heap.size, 1, none⟩) hlhgr0_).trans hgr0_1
  replace hgr0_2 := (hstep.cell (p := ⟨w7.heap.size, 2, none⟩) hlhgr0_).trans hgr0_2
  replace hlhgr0_ : w7.heap.size < w13.heap.size := Nat.lt_of_lt_of_le hlhgr0_ hstep.size
  replace HOwr0_2 := Lib.hid (HOwr0_2.out.below hstep (fun _ _ hq => hq))
  replace HOgr0_2 := Lib.hid (HOgr0_2.out.below hstep (fun _ _ hq => hq))
  replace HBN := Lib.hid (HBN.out.trans (hstep.mono HBN.out.size))
  have hzw13 : w12.heap.size ≤ w13.heap.size := hstep.size
  clear b hstep 
  have hcbr0_2 : cntG r0_2 ≤ 1099511627776 := Nat.le_trans (cntG_le _) HOgr0_2.out.2
  go_wp2_with fail
  refine (markRelationP_ok _ r0_0 r0_1 r0_2 _ SHOgr0_2 1 (HOgr0_2.out) (by omega) (by omega)).mono ?_
  rintro e w14 ⟨h2, t, om0⟩
  replace hpp1_0 := (t.cellAt (p := ⟨w.heap.size, 0, none⟩) hlhpp1_ (fun hk => by (first | (have := HSHOgr0_2.out _ hk; dsimp only at this; omega)))).trans hpp1_0
  replace hpp1_1 := (t.cellAt (p := ⟨w.heap.size, 1, none⟩) hlhpp1_ (fun hk => by (first | (have := HSHOgr0_2.out _ hk; dsimp only at this; omega)))).trans hpp1_1
  replace hpp1_2 := (t.cellAt (p := ⟨w.heap.size, 2, none⟩) hlhpp1_ (fun hk => by (first | (have := HSHOgr0_2.out _ hk; dsimp only at this; omega)))).trans hpp1_2
  replace hpp2_0 := (t.cellAt (p := ⟨w.heap.size + 1, 0, none⟩) hlhpp2_ (fun hk => by (first | (have := HSHOgr0_2.out _ hk; dsimp only at this; omega)))).trans hpp2_0
  replace hpp2_1 := (t.cellAt (p := ⟨w.heap.size + 1, 1, none⟩) hlhpp2_ (fun hk => by (first | (have := HSHOgr0_2.out _ hk; dsimp only at this; omega)))).trans hpp2_1
  replace hpp2_2 := (t.cellAt (p := ⟨w.heap.size + 1, 2, none⟩) hlhpp2_ (fun hk => by (first | (have := HSHOgr0_2.out _ hk; dsimp only at this; omega)))).trans hpp2_2
  replace hwr0_0 := (t.cellAt (p := ⟨nbw, 0, none⟩) hlhwr0_ (fun hk => by (first | (have := HSHOgr0_2.out _ hk; dsimp only at this; omega)))).trans hwr0_0
  replace hwr0_1 := (t.cellAt (p := ⟨nbw, 1, none⟩) hlhwr0_ (fun hk => by (first | (have := HSHOgr0_2.out _ hk; dsimp only at this; omega)))).trans hwr0_1
  replace hwr0_2 := (t.cellAt (p := ⟨nbw, 2, none⟩) hlhwr0_ (fun hk => by (first | (have := HSHOgr0_2.out _ hk; dsimp only at this; omega)))).trans hwr0_2
  replace hxp1_0 := (t.cellAt (p := ⟨w5.heap.size, 0, none⟩) hlhxp1_ (fun hk => by (first | (have := HSHOgr0_2.out _ hk; dsimp only at this; omega)))).trans hxp1_0
  replace hxp1_1 := (t.cellAt (p := ⟨w5.heap.size, 1, none⟩) hlhxp1_ (fun hk => by (first | (have := HSHOgr0_2.out _ hk; dsimp only at this; omega)))).trans hxp1_1
  replace hxp1_2 := (t.cellAt (p := ⟨w5.heap.size, 2, none⟩) hlhxp1_ (fun hk => by (first | (have := HSHOgr0_2.out _ hk; dsimp only at this; omega)))).trans hxp1_2
  replace hxp2_0 := (t.cellAt (p := ⟨w6.heap.size, 0, none⟩) hlhxp2_ (fun hk => by (first | (have := HSHOgr0_2.out _ hk; dsimp only at this; omega)))).trans hxp2_0
  replace hxp2_1 := (t.cellAt (p := ⟨w6.heap.size, 1, none⟩) hlhxp2_ (fun hk => by (first | (have := HSHOgr0_2.out _ hk; dsimp only at this; omega)))).trans hxp2_1
  replace hxp2_2 := (t.cellAt (p := ⟨w6.heap.size, 2, none⟩) hlhxp2_ (fun hk => by (first | (have := HSHOgr0_2.out _ hk; dsimp only at this; omega)))).trans hxp2_2
  replace hgr0_0 := (t.cellAt (p := ⟨w7.heap.size, 0, none⟩) hlhgr0_ (fun hk => by (first | (have := HSHOgr0_2.out _ hk; dsimp only at this; omega)))).trans hgr0_0
  replace hgr0_1 := (t.cellAt (p := ⟨w7.heap.size, 1, none⟩) hlhgr0_ (fun hk => by (first | (have := HSHOgr0_2.out _ hk; dsimp only at this; omega)))).trans hgr0_1
  replace hgr0_2 := (t.cellAt (p := ⟨w7.heap.size, 2, none⟩) hlhgr0_ (fun hk => by (first | (have := HSHOgr0_2.out _ hk; dsimp only at this; omega)))).trans hgr0_2
  replace hlhpp1_ : w.heap.size < w14.heap.size := Nat.lt_of_lt_of_le hlhpp1_ t.size
  replace hlhpp2_ : w.heap.size + 1 < w14.heap.size := Nat.lt_of_lt_of_le hlhpp2_ t.size
  replace hlhwr0_ : nbw < w14.heap.size := Nat.lt_of_lt_of_le hlhwr0_ t.size
  replace hlhxp1_ : w5.heap.size < w14.heap.size := Nat.lt_of_lt_of_le hlhxp1_ t.size
  replace hlhxp2_ : w6.heap.size < w14.heap.size := Nat.lt_of_lt_of_le hlhxp2_ t.size
  replace hlhgr0_ : w7.heap.size < w14.heap.size := Nat.lt_of_lt_of_le hlhgr0_ t.size
  replace HOwr0_2 := Lib.hid (HOwr0_2.out.blocks (w' := w14) (fun q hq hql => t.block q hql (fun hx => by (first | (have := HSHOgr0_2.out q hx; have := HSHOwr0_2.out q hq; omega)))))
  replace HBN := Lib.hid (HBN.out.trans (t.below HBN.out.size (fun k hk => by (first | (have := HSHOgr0_2.out k hk; have := HBN.out.size; omega)))))
  have hzw14 : w13.heap.size ≤ w14.heap.size := t.size
  replace HOgr0_2 := Lib.hid om0
  clear t om0
  obtain ⟨mr0_, HMr0_, hmr0_a, hmr0_b, rfl⟩ : ∃ z : Int, Hid (1 + ((cntG r0_2 : Nat) : Int) = z) ∧ 0 ≤ z ∧ z ≤ 1 + 1099511627776 * 1 ∧ e = .returned (.int .i64 z) := ⟨_, Lib.hid rfl, by omega, by omega, h2⟩
  clear h2
  have hmm : (mr0_ != mr0_) = false := by simp
  go_wp2_with fail
  refine (heldRelation_ok _ w14.heap.size r0_0 r0_1 r0_2 _ 1 ?_ ?_ (by omega) (by omega)).mono ?_
  · exact (HOgr0_2.out.rd).below (B' := w14.heap.size) (by repeat' (first | exact Below.refl _ _ | apply Below.drew | apply Below.setCell | apply Below.alloc | (simp; done) | omega | (simp; omega))) (Nat.le_refl _)
  · (first | exact Nat.le_refl _ | (simp; done) | (simp; omega))
  rintro e w15 ⟨h2, b⟩
  have hstep : Below w14.heap.size w14 w15 := Below.trans (by repeat' (first | exact Below.refl _ _ | apply Below.drew | apply Below.setCell | apply Below.alloc | (simp; done) | omega | (simp; omega))) (b.mono (by (first | exact Nat.le_refl _ | (simp; done) | (simp; omega))))
  replace hpp1_0 := (hstep.cell (p := ⟨w.heap.size, 0, none⟩) hlhpp1_).trans hpp1_0
  replace hpp1_1 := (hstep.cell (p := ⟨w.heap.size, 1, none⟩) hlhpp1_).trans hpp1_1
  replace hpp1_2 := (hstep.cell (p := ⟨w.heap.size, 2, none⟩) hlhpp1_).trans hpp1_2
  replace hlhpp1_ : w.heap.size < w15.heap.size := Nat.lt_of_lt_of_le hlhpp1_ hstep.size
  replace hpp2_0 := (hstep.cell (p := ⟨w.heap.size + 1, 0, none⟩) hlhpp2_).trans hpp2_0
  replace hpp2_1 := (hstep.cell (p := ⟨w.heap.size + 1, 1, none⟩) hlhpp2_).trans hpp2_1
  replace hpp2_2 := (hstep.cell (p := ⟨w.heap.size + 1, 2, none⟩) hlhpp2_).trans hpp2_2
  replace hlhpp2_ : w.heap.size + 1 < w15.heap.size := Nat.lt_of_lt_of_le hlhpp2_ hstep.size
  replace hwr0_0 := (hstep.cell (p := ⟨nbw, 0, none⟩) hlhwr0_).trans hwr0_0
  replace hwr0_1 := (hstep.cell (p := ⟨nbw, 1, none⟩) hlhwr0_).trans hwr0_1
  replace hwr0_2 := (hstep.cell (p := ⟨nbw, 2, none⟩) hlhwr0_).trans hwr0_2
  replace hlhwr0_ : nbw < w15.heap.size := Nat.lt_of_lt_of_le hlhwr0_ hstep.size
  replace hxp1_0 := (hstep.cell (p := ⟨w5.heap.size, 0, none⟩) hlhxp1_).trans hxp1_0
  replace hxp1_1 := (hstep.cell (p := ⟨w5.heap.size, 1, none⟩) hlhxp1_).trans hxp1_1
  replace hxp1_2 := (hstep.cell (p := ⟨w5.heap.size, 2, none⟩) hlhxp1_).trans hxp1_2
  replace hlhxp1_ : w5.heap.size < w15.heap.size := Nat.lt_of_lt_of_le hlhxp1_ hstep.size
  replace hxp2_0 := (hstep.cell (p := ⟨w6.heap.size, 0, none⟩) hlhxp2_).trans hxp2_0
  replace hxp2_1 := (hstep.cell (p := ⟨w6.heap.size, 1, none⟩) hlhxp2_).trans hxp2_1
  replace hxp2_2 := (hstep.cell (p := ⟨w6.heap.size, 2, none⟩) hlhxp2_).trans hxp2_2
  replace hlhxp2_ : w6.heap.size < w15.heap.size := Nat.lt_of_lt_of_le hlhxp2_ hstep.size
  replace hgr0_0 := (hstep.cell (p := ⟨w7.heap.size, 0, none⟩) hlhgr0_).trans hgr0_0
  replace hgr0_1 := (hstep.cell (p := ⟨w7.heap.size, 1, none⟩) hlhgr0_).trans hgr0_1
  replace hgr0_2 := (hstep.cell (p := ⟨w7.heap.size, 2, none⟩) hlhgr0_).trans hgr0_2
  replace hlhgr0_ : w7.heap.size < w15.heap.size := Nat.lt_of_lt_of_le hlhgr0_ hstep.size
  replace HOwr0_2 := Lib.hid (HOwr0_2.out.below hstep (fun _ _ hq => hq))
  replace HOgr0_2 := Lib.hid (HOgr0_2.out.below hstep (fun _ _ hq => hq))
  replace HBN := Lib.hid (HBN.out.trans (hstep.mono HBN.out.size))
  have hzw15 : w14.heap.size ≤ w15.heap.size := hstep.size
  clear b hstep 
  rw [HMr0_.out] at h2
  subst h2
  have hmneg : ¬ mr0_ < 0 := by omega
  have HD : Hid (Below w15.heap.size w15 w15.drew) := Lib.hid (Below.refl _ _).drew
  have HV6p1_2 := Lib.hid ((HVp1_2.out.below HBN.out (Nat.le_refl _)).mono HBN.out.size)
  have HV6p2_2 := Lib.hid ((HVp2_2.out.below HBN.out (Nat.le_refl _)).mono HBN.out.size)
  have HELD : Hid (∀ w' : World, Hid (Below w15.heap.size w15 w') → w'.cell? ⟨w.heap.size, 0, none⟩ = some (.int .i64 p1_0) ∧ w'.cell? ⟨w.heap.size, 1, none⟩ = some (.int .i64 p1_1) ∧ w'.cell? ⟨w.heap.size, 2, none⟩ = some (.slice Aup1_2 p1_2.length cup1_2) ∧ w'.cell? ⟨w.heap.size + 1, 0, none⟩ = some (.int .i64 p2_0) ∧ w'.cell? ⟨w.heap.size + 1, 1, none⟩ = some (.int .i64 p2_1) ∧ w'.cell? ⟨w.heap.size + 1, 2, none⟩ = some (.slice Aup2_2 p2_2.length cup2_2) ∧ Hid (Below w15.heap.size w15 w')) := Lib.hid (fun w' H => ⟨(H.out.cell (p := ⟨w.heap.size, 0, none⟩) hlhpp1_).trans hpp1_0, (H.out.cell (p := ⟨w.heap.size, 1, none⟩) hlhpp1_).trans hpp1_1, (H.out.cell (p := ⟨w.heap.size, 2, none⟩) hlhpp1_).trans hpp1_2, (H.out.cell (p := ⟨w.heap.size + 1, 0, none⟩) hlhpp2_).trans hpp2_0, (H.out.cell (p := ⟨w.heap.size + 1, 1, none⟩) hlhpp2_).trans hpp2_1, (H.out.cell (p := ⟨w.heap.size + 1, 2, none⟩) hlhpp2_).trans hpp2_2, H⟩)
  go_upto_region 31 with fail
  go_cut [17, 18] from 19 (fun s17 s18 wc => ∃ (nb : Nat) (Ahr0_2 : Option Addr) (chr0_2 : Nat), s17 = .pointer (some ⟨nb, 0, none⟩) ∧ s18 = .bool r1_0 ∧ wc.cell? ⟨nb, 0, none⟩ = some (.int .i64 r0_0) ∧ wc.cell? ⟨nb, 1, none⟩ = some (.int .i64 r0_1) ∧ wc.cell? ⟨nb, 2, none⟩ = some (.slice Ahr0_2 r0_2.length chr0_2) ∧ nb < wc.heap.size ∧ Hid (Below w15.heap.size w15 wc) ∧ OwnP wc (fun k => w15.heap.size ≤ k) (.slice Ahr0_2 r0_2.length chr0_2) r0_2)
  case first =>
    go_region_held3 (fun w' => w'.cell? ⟨w.heap.size, 0, none⟩ = some (.int .i64 p1_0) ∧ w'.cell? ⟨w.heap.size, 1, none⟩ = some (.int .i64 p1_1) ∧ w'.cell? ⟨w.heap.size, 2, none⟩ = some (.slice Aup1_2 p1_2.length cup1_2) ∧ w'.cell? ⟨w.heap.size + 1, 0, none⟩ = some (.int .i64 p2_0) ∧ w'.cell? ⟨w.heap.size + 1, 1, none⟩ = some (.int .i64 p2_1) ∧ w'.cell? ⟨w.heap.size + 1, 2, none⟩ = some (.slice Aup2_2 p2_2.length cup2_2) ∧ Hid (Below w15.heap.size w15 w'))
      (exact HELD.out _ (by first | assumption | (refine Lib.hid ?_; repeat' (first | exact Below.refl _ _ | exact Hid.out (by assumption) | apply Below.drew | apply Below.setCell | apply Below.alloc | (simp; done) | omega | (simp; omega)))))
      (first
        | (go_at_call_of 6 Aup1_2; go_split_ands; refine (toRelation_fr w15 _ (by assumption) p1_0 p1_1 p1_2 _ HV6p1_2.out hsp1_2).mono ?_; rintro e wa0 ⟨vyp1_2, rfl, ba0, bb0, oyp1_2⟩; have sb0 : w15.heap.size ≤ wa0.heap.size := (by have := ba0.out.size; (try simp at this); omega); (try ((first | have hbx0 := box_behind ba0.out | have hbx0 := box_behind' ba0.out); change wa0.heap[w15.heap.size]? = some (.cells #[.int .i64 0, .int .i64 0, .slice none 0 0] 26 (0, 0)) at hbx0; have hbl0 : w15.heap.size < wa0.heap.size := (Array.getElem?_eq_some_iff.1 hbx0).1)))
        | (go_at_call_of 6 Aup2_2; go_split_ands; refine (toRelation_fr w15 _ (by assumption) p2_0 p2_1 p2_2 _ HV6p2_2.out hsp2_2).mono ?_; rintro e wa1 ⟨vyp2_2, rfl, ba1, bb1, oyp2_2⟩; have sb1 : wa0.heap.size ≤ wa1.heap.size := (by have := ba1.out.size; (try simp at this); omega); have bq1 : Hid (Below wa0.heap.size wa0 wa1) := Lib.hid (Below.trans (by repeat' (first | exact Below.refl _ _ | apply Below.drew | apply Below.setCell | apply Below.alloc | (simp; done) | omega | (simp; omega))) (ba1.out.mono (by first | exact Nat.le_refl _ | (simp; done) | omega | (simp; omega)))); (try (replace hbx0 := box_kept hbx0 ba1.out)); (try ((first | have hbx1 := box_behind ba1.out | have hbx1 := box_behind' ba1.out); change wa1.heap[wa0.heap.size]? = some (.cells #[.int .i64 0, .int .i64 0, .slice none 0 0] 26 (0, 0)) at hbx1; have hbl1 : wa0.heap.size < wa1.heap.size := (Array.getElem?_eq_some_iff.1 hbx1).1)))
        | (go_at_call 7; go_split_ands; refine (HIM.out _ _ _ _ ((HT.out.below HBN.out).below (Hid.out (by assumption : Hid (Below w15.heap.size w15 _)))) ((((oyp1_2.out.below bq1.out (by first | omega | (simp; done) | (simp; omega)))).below (B' := wa1.heap.size) (by repeat' (first | exact Below.refl _ _ | apply Below.drew | apply Below.setCell | apply Below.alloc | (simp; done) | omega | (simp; omega))) (by first | omega | (simp; done) | (simp; omega))).mono (by first | omega | (simp; done) | (simp; omega))) (((oyp2_2.out).below (B' := wa1.heap.size) (by repeat' (first | exact Below.refl _ _ | apply Below.drew | apply Below.setCell | apply Below.alloc | (simp; done) | omega | (simp; omega))) (by first | omega | (simp; done) | (simp; omega))).mono (by first | omega | (simp; done) | (simp; omega))) (Nat.le_refl _) hsp1_2 hsp2_2).mono ?_; rintro e w16 ⟨vhr0_2, rfl, b, ohr0_2⟩; obtain ⟨Ahr0_2, chr0_2, rfl⟩ := ohr0_2.len; have hstep : Below w15.heap.size w15 w16 := (Hid.out (by assumption : Hid (Below w15.heap.size w15 _))).trans (b.mono (Hid.out (by assumption : Hid (Below w15.heap.size w15 _))).size); have HZZ := Lib.hid hstep; have hzz : wa1.heap.size ≤ w16.heap.size := (by have := b.size; (try simp at this); omega); (try (replace hbx0 := box_kept hbx0 b)); (try (replace hbx1 := box_kept hbx1 b)); (try ((first | have hbx2 := box_behind b | have hbx2 := box_behind' b); change w16.heap[wa1.heap.size]? = some (.cells #[.int .i64 0, .int .i64 0, .slice none 0 0] 26 (0, 0)) at hbx2; have hbl2 : wa1.heap.size < w16.heap.size := (Array.getElem?_eq_some_iff.1 hbx2).1)); (try (have hbc0_0 : w16.cell? ⟨w15.heap.size, 0, none⟩ = some (.int .i64 0) := box_cell hbx0 0)); (try (have hbc0_1 : w16.cell? ⟨w15.heap.size, 1, none⟩ = some (.int .i64 0) := box_cell hbx0 1)); (try (have hbc0_2 : w16.cell? ⟨w15.heap.size, 2, none⟩ = some (.slice none 0 0) := box_cell hbx0 2)); (try (have hbc1_0 : w16.cell? ⟨wa0.heap.size, 0, none⟩ = some (.int .i64 0) := box_cell hbx1 0)); (try (have hbc1_1 : w16.cell? ⟨wa0.heap.size, 1, none⟩ = some (.int .i64 0) := box_cell hbx1 1)); (try (have hbc1_2 : w16.cell? ⟨wa0.heap.size, 2, none⟩ = some (.slice none 0 0) := box_cell hbx1 2)); (try (have hbc2_0 : w16.cell? ⟨wa1.heap.size, 0, none⟩ = some (.int .i64 0) := box_cell hbx2 0)); (try (have hbc2_1 : w16.cell? ⟨wa1.heap.size, 1, none⟩ = some (.int .i64 0) := box_cell hbx2 1)); (try (have hbc2_2 : w16.cell? ⟨wa1.heap.size, 2, none⟩ = some (.slice none 0 0) := box_cell hbx2 2)); (try (have hbf0 := box_free hbx0)); (try (have hbf1 := box_free hbx1)); (try (have hbf2 := box_free hbx2))))
    all_goals go_wp2_with fail
    all_goals go_meet
    all_goals exact ⟨_, _, _, rfl, rfl, (by simp [go_sem, *]), (by simp [go_sem, *]), (by simp [go_sem, *]), (by first | (simp; done) | omega | (simp; omega)), Lib.hid (by repeat' (first | exact hstep | exact HZZ.out | apply Below.drew | apply Below.setCell | apply Below.alloc | (simp; done) | omega | (simp; omega))), ((ohr0_2.blocks (fun k hk hl => by (try simp at hk); (repeat (first | rw [blk_setCell_other _ _ _ _ (by dsimp only; omega)] | rw [blk_alloc_lt _ _ _ hl])); try rfl)).mono (fun k hk hl => by (try simp at hk); omega))⟩
  obtain ⟨nbh, Ahr0_2, chr0_2, rfl, rfl, hhr0_0, hhr0_1, hhr0_2, hlhhr0_, hstep0, ohr0_2⟩ := hcut
  have hstep := hstep0.out
  clear hstep0 HD HELD HV6p1_2 HV6p2_2
  obtain ⟨w16, rfl⟩ : ∃ x, x = wc := ⟨_, rfl⟩
  replace hpp1_0 := (hstep.cell (p := ⟨w.heap.size, 0, none⟩) hlhpp1_).trans hpp1_0
  replace hpp1_1 := (hstep.cell (p := ⟨w.heap.size, 1, none⟩) hlhpp1_).trans hpp1_1
  replace hpp1_2 := (hstep.cell (p := ⟨w.heap.size, 2, none⟩) hlhpp1_).trans hpp1_2
  replace hlhpp1_ : w.heap.size < w16.heap.size := Nat.lt_of_lt_of_le hlhpp1_ hstep.size
  replace hpp2_0 := (hstep.cell (p := ⟨w.heap.size + 1, 0, none⟩) hlhpp2_).trans hpp2_0
  replace hpp2_1 := (hstep.cell (p := ⟨w.heap.size + 1, 1, none⟩) hlhpp2_).trans hpp2_1
  replace hpp2_2 := (hstep.cell (p := ⟨w.heap.size + 1, 2, none⟩) hlhpp2_).trans hpp2_2
  replace hlhpp2_ : w.heap.size + 1 < w16.heap.size := Nat.lt_of_lt_of_le hlhpp2_ hstep.size
  replace hwr0_0 := (hstep.cell (p := ⟨nbw, 0, none⟩) hlhwr0_).trans hwr0_0
  replace hwr0_1 := (hstep.cell (p := ⟨nbw, 1, none⟩) hlhwr0_).trans hwr0_1
  replace hwr0_2 := (hstep.cell (p := ⟨nbw, 2, none⟩) hlhwr0_).trans hwr0_2
  replace hlhwr0_ : nbw < w16.heap.size := Nat.lt_of_lt_of_le hlhwr0_ hstep.size
  replace hxp1_0 := (hstep.cell (p := ⟨w5.heap.size, 0, none⟩) hlhxp1_).trans hxp1_0
  replace hxp1_1 := (hstep.cell (p := ⟨w5.heap.size, 1, none⟩) hlhxp1_).trans hxp1_1
  replace hxp1_2 := (hstep.cell (p := ⟨w5.heap.size, 2, none⟩) hlhxp1_).trans hxp1_2
  replace hlhxp1_ : w5.heap.size < w16.heap.size := Nat.lt_of_lt_of_le hlhxp1_ hstep.size
  replace hxp2_0 := (hstep.cell (p := ⟨w6.heap.size, 0, none⟩) hlhxp2_).trans hxp2_0
  replace hxp2_1 := (hstep.cell (p := ⟨w6.heap.size, 1, none⟩) hlhxp2_).trans hxp2_1
  replace hxp2_2 := (hstep.cell (p := ⟨w6.heap.size, 2, none⟩) hlhxp2_).trans hxp2_2
  replace hlhxp2_ : w6.heap.size < w16.heap.size := Nat.lt_of_lt_of_le hlhxp2_ hstep.size
  replace hgr0_0 := (hstep.cell (p := ⟨w7.heap.size, 0, none⟩) hlhgr0_).trans hgr0_0
  replace hgr0_1 := (hstep.cell (p := ⟨w7.heap.size, 1, none⟩) hlhgr0_).trans hgr0_1
  replace hgr0_2 := (hstep.cell (p := ⟨w7.heap.size, 2, none⟩) hlhgr0_).trans hgr0_2
  replace hlhgr0_ : w7.heap.size < w16.heap.size := Nat.lt_of_lt_of_le hlhgr0_ hstep.size
  replace HOwr0_2 := Lib.hid (HOwr0_2.out.below hstep (fun _ _ hq => hq))
  replace HOgr0_2 := Lib.hid (HOgr0_2.out.below hstep (fun _ _ hq => hq))
  replace HBN := Lib.hid (HBN.out.trans (hstep.mono HBN.out.size))
  have hzw16 : w15.heap.size ≤ w16.heap.size := hstep.size
  have hlhhr0_q := hlhhr0_
  obtain ⟨SHOhr0_2, HSHOhr0_2, HOhr0_2⟩ : ∃ S : Nat → Prop, Hid (∀ k, S k → w15.heap.size ≤ k ∧ k < w16.heap.size) ∧ Hid (OwnP w16 S (.slice Ahr0_2 r0_2.length chr0_2) r0_2) := ⟨fun k => w15.heap.size ≤ k ∧ k < w16.heap.size, Lib.hid (fun k hk => hk), Lib.hid (ohr0_2.mono (fun k hk hk2 => ⟨by have hk3 := hk; (try simp at hk3); omega, hk2⟩))⟩
  clear hstep ohr0_2
  go_wp2_with fail
  refine (eqRelation_ok _ w16.heap.size r0_0 r0_1 r0_2 _ _ ?_ ?_ ?_).mono ?_
  · exact (HOhr0_2.out.rd).below (B' := w16.heap.size) (by repeat' (first | exact Below.refl _ _ | apply Below.drew | apply Below.setCell | apply Below.alloc | (simp; done) | omega | (simp; omega))) (Nat.le_refl _)
  · exact (HOwr0_2.out.rd).below (B' := w16.heap.size) (by repeat' (first | exact Below.refl _ _ | apply Below.drew | apply Below.setCell | apply Below.alloc | (simp; done) | omega | (simp; omega))) (Nat.le_refl _)
  · (first | exact Nat.le_refl _ | (simp; done) | (simp; omega))
  rintro e w17 ⟨rfl, b⟩
  have hstep : Below w16.heap.size w16 w17 := Below.trans (by repeat' (first | exact Below.refl _ _ | apply Below.drew | apply Below.setCell | apply Below.alloc | (simp; done) | omega | (simp; omega))) (b.mono (by (first | exact Nat.le_refl _ | (simp; done) | (simp; omega))))
  replace hpp1_0 := (hstep.cell (p := ⟨w.heap.size, 0, none⟩) hlhpp1_).trans hpp1_0
  replace hpp1_1 := (hstep.cell (p := ⟨w.heap.size, 1, none⟩) hlhpp1_).trans hpp1_1
  replace hpp1_2 := (hstep.cell (p := ⟨w.heap.size, 2, none⟩) hlhpp1_).trans hpp1_2
  replace hlhpp1_ : w.heap.size < w17.heap.size := Nat.lt_of_lt_of_le hlhpp1_ hstep.size
  replace hpp2_0 := (hstep.cell (p := ⟨w.heap.size + 1, 0, none⟩) hlhpp2_).trans hpp2_0
  replace hpp2_1 := (hstep.cell (p := ⟨w.heap.size + 1, 1, none⟩) hlhpp2_).trans hpp2_1
  replace hpp2_2 := (hstep.cell (p := ⟨w.heap.size + 1, 2, none⟩) hlhpp2_).trans hpp2_2
  replace hlhpp2_ : w.heap.size + 1 < w17.heap.size := Nat.lt_of_lt_of_le hlhpp2_ hstep.size
  replace hwr0_0 := (hstep.cell (p := ⟨nbw, 0, none⟩) hlhwr0_).trans hwr0_0
  replace hwr0_1 := (hstep.cell (p := ⟨nbw, 1, none⟩) hlhwr0_).trans hwr0_1
  replace hwr0_2 := (hstep.cell (p := ⟨nbw, 2, none⟩) hlhwr0_).trans hwr0_2
  replace hlhwr0_ : nbw < w17.heap.size := Nat.lt_of_lt_of_le hlhwr0_ hstep.size
  replace hxp1_0 := (hstep.cell (p := ⟨w5.heap.size, 0, none⟩) hlhxp1_).trans hxp1_0
  replace hxp1_1 := (hstep.cell (p := ⟨w5.heap.size, 1, none⟩) hlhxp1_).trans hxp1_1
  replace hxp1_2 := (hstep.cell (p := ⟨w5.heap.size, 2, none⟩) hlhxp1_).trans hxp1_2
  replace hlhxp1_ : w5.heap.size < w17.heap.size := Nat.lt_of_lt_of_le hlhxp1_ hstep.size
  replace hxp2_0 := (hstep.cell (p := ⟨w6.heap.size, 0, none⟩) hlhxp2_).trans hxp2_0
  replace hxp2_1 := (hstep.cell (p := ⟨w6.heap.size, 1, none⟩) hlhxp2_).trans hxp2_1
  replace hxp2_2 := (hstep.cell (p := ⟨w6.heap.size, 2, none⟩) hlhxp2_).trans hxp2_2
  replace hlhxp2_ : w6.heap.size < w17.heap.size := Nat.lt_of_lt_of_le hlhxp2_ hstep.size
  replace hgr0_0 := (hstep.cell (p := ⟨w7.heap.size, 0, none⟩) hlhgr0_).trans hgr0_0
  replace hgr0_1 := (hstep.cell (p := ⟨w7.heap.size, 1, none⟩) hlhgr0_).trans hgr0_1
  replace hgr0_2 := (hstep.cell (p := ⟨w7.heap.size, 2, none⟩) hlhgr0_).trans hgr0_2
  replace hlhgr0_ : w7.heap.size < w17.heap.size := Nat.lt_of_lt_of_le hlhgr0_ hstep.size
  replace hhr0_0 := (hstep.cell (p := ⟨nbh, 0, none⟩) hlhhr0_).trans hhr0_0
  replace hhr0_1 := (hstep.cell (p := ⟨nbh, 1, none⟩) hlhhr0_).trans hhr0_1
  replace hhr0_2 := (hstep.cell (p := ⟨nbh, 2, none⟩) hlhhr0_).trans hhr0_2
  replace hlhhr0_ : nbh < w17.heap.size := Nat.lt_of_lt_of_le hlhhr0_ hstep.size
  replace HOwr0_2 := Lib.hid (HOwr0_2.out.below hstep (fun _ _ hq => hq))
  replace HOgr0_2 := Lib.hid (HOgr0_2.out.below hstep (fun _ _ hq => hq))
  replace HOhr0_2 := Lib.hid (HOhr0_2.out.below hstep (fun _ _ hq => hq))
  replace HBN := Lib.hid (HBN.out.trans (hstep.mono HBN.out.size))
  have hzw17 : w16.heap.size ≤ w17.heap.size := hstep.size
  clear b hstep 
  go_wp2_with fail
  refine (heldRelation_ok _ w17.heap.size r0_0 r0_1 r0_2 _ 1 ?_ ?_ (by omega) (by omega)).mono ?_
  · exact (HOgr0_2.out.rd).below (B' := w17.heap.size) (by repeat' (first | exact Below.refl _ _ | apply Below.drew | apply Below.setCell | apply Below.alloc | (simp; done) | omega | (simp; omega))) (Nat.le_refl _)
  · (first | exact Nat.le_refl _ | (simp; done) | (simp; omega))
  rintro e w18 ⟨h2, b⟩
  have hstep : Below w17.heap.size w17 w18 := Below.trans (by repeat' (first | exact Below.refl _ _ | apply Below.drew | apply Below.setCell | apply Below.alloc | (simp; done) | omega | (simp; omega))) (b.mono (by (first | exact Nat.le_refl _ | (simp; done) | (simp; omega))))
  replace hpp1_0 := (hstep.cell (p := ⟨w.heap.size, 0, none⟩) hlhpp1_).trans hpp1_0
  replace hpp1_1 := (hstep.cell (p := ⟨w.heap.size, 1, none⟩) hlhpp1_).trans hpp1_1
  replace hpp1_2 := (hstep.cell (p := ⟨w.heap.size, 2, none⟩) hlhpp1_).trans hpp1_2
  replace hlhpp1_ : w.heap.size < w18.heap.size := Nat.lt_of_lt_of_le hlhpp1_ hstep.size
  replace hpp2_0 := (hstep.cell (p := ⟨w.heap.size + 1, 0, none⟩) hlhpp2_).trans hpp2_0
  replace hpp2_1 := (hstep.cell (p := ⟨w.heap.size + 1, 1, none⟩) hlhpp2_).trans hpp2_1
  replace hpp2_2 := (hstep.cell (p := ⟨w.heap.size + 1, 2, none⟩) hlhpp2_).trans hpp2_2
  replace hlhpp2_ : w.heap.size + 1 < w18.heap.size := Nat.lt_of_lt_of_le hlhpp2_ hstep.size
  replace hwr0_0 := (hstep.cell (p := ⟨nbw, 0, none⟩) hlhwr0_).trans hwr0_0
  replace hwr0_1 := (hstep.cell (p := ⟨nbw, 1, none⟩) hlhwr0_).trans hwr0_1
  replace hwr0_2 := (hstep.cell (p := ⟨nbw, 2, none⟩) hlhwr0_).trans hwr0_2
  replace hlhwr0_ : nbw < w18.heap.size := Nat.lt_of_lt_of_le hlhwr0_ hstep.size
  replace hxp1_0 := (hstep.cell (p := ⟨w5.heap.size, 0, none⟩) hlhxp1_).trans hxp1_0
  replace hxp1_1 := (hstep.cell (p := ⟨w5.heap.size, 1, none⟩) hlhxp1_).trans hxp1_1
  replace hxp1_2 := (hstep.cell (p := ⟨w5.heap.size, 2, none⟩) hlhxp1_).trans hxp1_2
  replace hlhxp1_ : w5.heap.size < w18.heap.size := Nat.lt_of_lt_of_le hlhxp1_ hstep.size
  replace hxp2_0 := (hstep.cell (p := ⟨w6.heap.size, 0, none⟩) hlhxp2_).trans hxp2_0
  replace hxp2_1 := (hstep.cell (p := ⟨w6.heap.size, 1, none⟩) hlhxp2_).trans hxp2_1
  replace hxp2_2 := (hstep.cell (p := ⟨w6.heap.size, 2, none⟩) hlhxp2_).trans hxp2_2
  replace hlhxp2_ : w6.heap.size < w18.heap.size := Nat.lt_of_lt_of_le hlhxp2_ hstep.size
  replace hgr0_0 := (hstep.cell (p := ⟨w7.heap.size, 0, none⟩) hlhgr0_).trans hgr0_0
  replace hgr0_1 := (hstep.cell (p := ⟨w7.heap.size, 1, none⟩) hlhgr0_).trans hgr0_1
  replace hgr0_2 := (hstep.cell (p := ⟨w7.heap.size, 2, none⟩) hlhgr0_).trans hgr0_2
  replace hlhgr0_ : w7.heap.size < w18.heap.size := Nat.lt_of_lt_of_le hlhgr0_ hstep.size
  replace hhr0_0 := (hstep.cell (p := ⟨nbh, 0, none⟩) hlhhr0_).trans hhr0_0
  replace hhr0_1 := (hstep.cell (p := ⟨nbh, 1, none⟩) hlhhr0_).trans hhr0_1
  replace hhr0_2 := (hstep.cell (p := ⟨nbh, 2, none⟩) hlhhr0_).trans hhr0_2
  replace hlhhr0_ : nbh < w18.heap.size := Nat.lt_of_lt_of_le hlhhr0_ hstep.size
  replace HOwr0_2 := Lib.hid (HOwr0_2.out.below hstep (fun _ _ hq => hq))
  replace HOgr0_2 := Lib.hid (HOgr0_2.out.below hstep (fun _ _ hq => hq))
  replace HOhr0_2 := Lib.hid (HOhr0_2.out.below hstep (fun _ _ hq => hq))
  replace HBN := Lib.hid (HBN.out.trans (hstep.mono HBN.out.size))
  have hzw18 : w17.heap.size ≤ w18.heap.size := hstep.size
  clear b hstep 
  rw [HMr0_.out] at h2
  subst h2
  have hmneg : ¬ mr0_ < 0 := by omega
  go_wp2
  go_ret
  exact ⟨rfl, HBN.out⟩
end Go.Proofs.YtdjgkcnhmfkjoaaDoor
