/- The harness of the law FnExactMirrorTerm: it returns true if both functions return what they should. -/
import Derived.Test.YtiealgnmhjebeaaTTerm
import Derived.Test.YtiealgnmhjebeaaRetTermB
import Derived.Test.YtiealgnmhjebeaaFdWalks
import Derived.Deep.Cut
import Derived.Deep.QuietTactic
namespace Go.Proofs.Ytiealgnmhjebeaa
set_option maxRecDepth 100000
open Go Go.RowKit Go.Deep

set_option maxHeartbeats 6400000 in
set_option maxRecDepth 100000 in
theorem harness_MirrorTerm (p0_0 : List Nd) (up0_0 : Value) (w : World) (r0_0 : List Nd) (r1_0 : Bool) (hvp0_0 : LfN w w.heap.size up0_0 p0_0) 
    (hspec : ∀ (w : World) (B : Nat) (vp0_0 : Value) , LfN w B vp0_0 p0_0 → B ≤ w.heap.size → szN p0_0 ≤ 1048576 → Calls Try.prog 9 #[.agg #[vp0_0]] w (SRetTermB w r0_0 r1_0))
    (himpl : ∀ (w : World) (B : Nat) (vp0_0 : Value) , LfN w B vp0_0 p0_0 → B ≤ w.heap.size → szN p0_0 ≤ 1048576 → Calls Try.prog 11 #[.agg #[vp0_0]] w (IRetTermB w r0_0 r1_0)) :
    Calls Try.prog 3 #[.agg #[up0_0]] w fun e w' => e = .returned (.bool true) ∧ Below w.heap.size w w' := by
  have HBN := Lib.hid (Below.refl w.heap.size w)
  have HSP := Lib.hid hspec
  have HIM := Lib.hid himpl
  clear hspec himpl
  obtain ⟨Aup0_0, cup0_0, rfl⟩ := hvp0_0.len
  have HVp0_0 := Lib.hid hvp0_0
  clear hvp0_0
  have hbbr1_0 : (r1_0 != r1_0) = false := by simp
  go_enter Try.func3, Try.ntmps3
  go_wp2_with fail
  refine (szTerm_ok _ w.heap.size p0_0 _ 1048576 ?_ ?_ (by omega) (by omega)).mono ?_
  · exact (HVp0_0.out.below HBN.out (Nat.le_refl _)).below (B' := w.heap.size) (by repeat' (first | exact Below.refl _ _ | apply Below.drew | apply Below.setCell | apply Below.alloc | (simp; done) | omega | (simp; omega))) HBN.out.size
  · (have := HBN.out.size; first | exact this | (simp; done) | (simp; omega))
  rintro e w2 ⟨b, h2⟩
  have hstep : Below w.heap.size w w2 := Below.trans (by repeat' (first | exact Below.refl _ _ | apply Below.drew | apply Below.setCell | apply Below.alloc | (simp; done) | omega | (simp; omega))) (b.mono (by (first | exact Nat.le_refl _ | (simp; done) | (simp; omega))))
  replace HBN := Lib.hid (HBN.out.trans (hstep.mono HBN.out.size))
  have hzw2 : w.heap.size ≤ w2.heap.size := hstep.size
  have hpp0_0 : w2.cell? ⟨w.heap.size, 0, none⟩ = some (.slice Aup0_0 p0_0.length cup0_0) := by have := b.cell (p := ⟨w.heap.size, 0, none⟩) (by first | (simp; done) | (simp; omega)); simpa [go_sem] using this
  have hlhpp0_ : w.heap.size < w2.heap.size := by have := b.size; simp at this; omega
  have hlhpp0_q := hlhpp0_
  clear b hstep 
  rcases h2 with rfl | ⟨hle, h2⟩
  · go_wp2
    go_ret
    exact ⟨rfl, HBN.out⟩
  obtain ⟨zp0_, hzp0_a, hzp0_b, rfl⟩ : ∃ z : Int, 0 ≤ z ∧ z ≤ 1048576 ∧ e = .returned (.int .i64 z) := ⟨_, by omega, by omega, h2⟩
  have hsp0_0 : szN p0_0 ≤ 1048576 := by omega
  clear h2 hle
  go_wp2_with fail
  refine (toTerm_ok _ w.heap.size p0_0 _ ?_ ?_ hsp0_0).mono ?_
  · exact (HVp0_0.out.below HBN.out (Nat.le_refl _)).below (B' := w2.heap.size) (by repeat' (first | exact Below.refl _ _ | apply Below.drew | apply Below.setCell | apply Below.alloc | (simp; done) | omega | (simp; omega))) HBN.out.size
  · (have := HBN.out.size; first | exact this | (simp; done) | (simp; omega))
  rintro e w3 ⟨vap0_0, rfl, b, oap0_0⟩
  obtain ⟨Aap0_0, cap0_0, rfl⟩ := oap0_0.len
  have hstep : Below w2.heap.size w2 w3 := Below.trans (by repeat' (first | exact Below.refl _ _ | apply Below.drew | apply Below.setCell | apply Below.alloc | (simp; done) | omega | (simp; omega))) (b.mono (by (first | exact Nat.le_refl _ | (simp; done) | (simp; omega))))
  replace hpp0_0 := (hstep.cell (p := ⟨w.heap.size, 0, none⟩) hlhpp0_).trans hpp0_0
  replace hlhpp0_ : w.heap.size < w3.heap.size := Nat.lt_of_lt_of_le hlhpp0_ hstep.size
  replace HBN := Lib.hid (HBN.out.trans (hstep.mono HBN.out.size))
  have hzw3 : w2.heap.size ≤ w3.heap.size := hstep.size
  obtain ⟨SHOap0_0, HSHOap0_0, HOap0_0⟩ : ∃ S : Nat → Prop, Hid (∀ k, S k → w2.heap.size + 0 ≤ k ∧ k < w3.heap.size) ∧ Hid (OwnN w3 S (.slice Aap0_0 p0_0.length cap0_0) p0_0) := ⟨fun k => w2.heap.size + 0 ≤ k ∧ k < w3.heap.size, Lib.hid (fun k hk => hk), Lib.hid (oap0_0.mono (fun k hk hk2 => ⟨by have hk3 := hk; (try simp at hk3); omega, hk2⟩))⟩
  clear b hstep oap0_0
  go_wp2_with fail
  refine (HSP.out _ w3.heap.size _ ?_ ?_ hsp0_0).mono ?_
  · exact (HOap0_0.out.rd).below (B' := w3.heap.size) (by repeat' (first | exact Below.refl _ _ | apply Below.drew | apply Below.setCell | apply Below.alloc | (simp; done) | omega | (simp; omega))) (Nat.le_refl _)
  · (first | exact Nat.le_refl _ | (simp; done) | (simp; omega))
  rintro e w4 ⟨vwr0_0, rfl, b, owr0_0⟩
  obtain ⟨Awr0_0, cwr0_0, rfl⟩ := owr0_0.len
  have hstep : Below w3.heap.size w3 w4 := Below.trans (by repeat' (first | exact Below.refl _ _ | apply Below.drew | apply Below.setCell | apply Below.alloc | (simp; done) | omega | (simp; omega))) (b.mono (by (first | exact Nat.le_refl _ | (simp; done) | (simp; omega))))
  replace hpp0_0 := (hstep.cell (p := ⟨w.heap.size, 0, none⟩) hlhpp0_).trans hpp0_0
  replace hlhpp0_ : w.heap.size < w4.heap.size := Nat.lt_of_lt_of_le hlhpp0_ hstep.size
  replace HOap0_0 := Lib.hid (HOap0_0.out.below hstep (fun _ _ hq => hq))
  replace HBN := Lib.hid (HBN.out.trans (hstep.mono HBN.out.size))
  have hzw4 : w3.heap.size ≤ w4.heap.size := hstep.size
  obtain ⟨SHOwr0_0, HSHOwr0_0, HOwr0_0⟩ : ∃ S : Nat → Prop, Hid (∀ k, S k → w3.heap.size + 0 ≤ k ∧ k < w4.heap.size) ∧ Hid (OwnN w4 S (.slice Awr0_0 r0_0.length cwr0_0) r0_0) := ⟨fun k => w3.heap.size + 0 ≤ k ∧ k < w4.heap.size, Lib.hid (fun k hk => hk), Lib.hid (owr0_0.mono (fun k hk hk2 => ⟨by have hk3 := hk; (try simp at hk3); omega, hk2⟩))⟩
  clear b hstep owr0_0
  clear HOap0_0 HSHOap0_0
  go_wp2_with fail
  refine (toTerm_ok _ w.heap.size p0_0 _ ?_ ?_ hsp0_0).mono ?_
  · exact (HVp0_0.out.below HBN.out (Nat.le_refl _)).below (B' := w4.heap.size) (by repeat' (first | exact Below.refl _ _ | apply Below.drew | apply Below.setCell | apply Below.alloc | (simp; done) | omega | (simp; omega))) HBN.out.size
  · (have := HBN.out.size; first | exact this | (simp; done) | (simp; omega))
  rintro e w5 ⟨vxp0_0, rfl, b, oxp0_0⟩
  obtain ⟨Axp0_0, cxp0_0, rfl⟩ := oxp0_0.len
  have hstep : Below w4.heap.size w4 w5 := Below.trans (by repeat' (first | exact Below.refl _ _ | apply Below.drew | apply Below.setCell | apply Below.alloc | (simp; done) | omega | (simp; omega))) (b.mono (by (first | exact Nat.le_refl _ | (simp; done) | (simp; omega))))
  replace hpp0_0 := (hstep.cell (p := ⟨w.heap.size, 0, none⟩) hlhpp0_).trans hpp0_0
  replace hlhpp0_ : w.heap.size < w5.heap.size := Nat.lt_of_lt_of_le hlhpp0_ hstep.size
  replace HOwr0_0 := Lib.hid (HOwr0_0.out.below hstep (fun _ _ hq => hq))
  replace HBN := Lib.hid (HBN.out.trans (hstep.mono HBN.out.size))
  have hzw5 : w4.heap.size ≤ w5.heap.size := hstep.size
  have hwr0_0 : w5.cell? ⟨w4.heap.size, 0, none⟩ = some (.slice Awr0_0 r0_0.length cwr0_0) := by have := b.cell (p := ⟨w4.heap.size, 0, none⟩) (by first | (simp; done) | (simp; omega)); simpa [go_sem] using this
  have hlhwr0_ : w4.heap.size < w5.heap.size := by have := b.size; simp at this; omega
  have hlhwr0_q := hlhwr0_
  obtain ⟨SHOxp0_0, HSHOxp0_0, HOxp0_0⟩ : ∃ S : Nat → Prop, Hid (∀ k, S k → w4.heap.size + 1 ≤ k ∧ k < w5.heap.size) ∧ Hid (OwnN w5 S (.slice Axp0_0 p0_0.length cxp0_0) p0_0) := ⟨fun k => w4.heap.size + 1 ≤ k ∧ k < w5.heap.size, Lib.hid (fun k hk => hk), Lib.hid (oxp0_0.mono (fun k hk hk2 => ⟨by have hk3 := hk; (try simp at hk3); omega, hk2⟩))⟩
  clear b hstep oxp0_0
  go_wp2_with fail
  refine (HIM.out _ w5.heap.size _ ?_ ?_ hsp0_0).mono ?_
  · exact (HOxp0_0.out.rd).below (B' := w5.heap.size) (by repeat' (first | exact Below.refl _ _ | apply Below.drew | apply Below.setCell | apply Below.alloc | (simp; done) | omega | (simp; omega))) (Nat.le_refl _)
  · (first | exact Nat.le_refl _ | (simp; done) | (simp; omega))
  rintro e w6 ⟨vgr0_0, rfl, b, ogr0_0⟩
  obtain ⟨Agr0_0, cgr0_0, rfl⟩ := ogr0_0.len
  have hstep : Below w5.heap.size w5 w6 := Below.trans (by repeat' (first | exact Below.refl _ _ | apply Below.drew | apply Below.setCell | apply Below.alloc | (simp; done) | omega | (simp; omega))) (b.mono (by (first | exact Nat.le_refl _ | (simp; done) | (simp; omega))))
  replace hpp0_0 := (hstep.cell (p := ⟨w.heap.size, 0, none⟩) hlhpp0_).trans hpp0_0
  replace hlhpp0_ : w.heap.size < w6.heap.size := Nat.lt_of_lt_of_le hlhpp0_ hstep.size
  replace hwr0_0 := (hstep.cell (p := ⟨w4.heap.size, 0, none⟩) hlhwr0_).trans hwr0_0
  replace hlhwr0_ : w4.heap.size < w6.heap.size := Nat.lt_of_lt_of_le hlhwr0_ hstep.size
  replace HOwr0_0 := Lib.hid (HOwr0_0.out.below hstep (fun _ _ hq => hq))
  replace HOxp0_0 := Lib.hid (HOxp0_0.out.below hstep (fun _ _ hq => hq))
  replace HBN := Lib.hid (HBN.out.trans (hstep.mono HBN.out.size))
  have hzw6 : w5.heap.size ≤ w6.heap.size := hstep.size
  have hxp0_0 : w6.cell? ⟨w5.heap.size, 0, none⟩ = some (.slice Axp0_0 p0_0.length cxp0_0) := by have := b.cell (p := ⟨w5.heap.size, 0, none⟩) (by first | (simp; done) | (simp; omega)); simpa [go_sem] using this
  have hlhxp0_ : w5.heap.size < w6.heap.size := by have := b.size; simp at this; omega
  have hlhxp0_q := hlhxp0_
  obtain ⟨SHOgr0_0, HSHOgr0_0, HOgr0_0⟩ : ∃ S : Nat → Prop, Hid (∀ k, S k → w5.heap.size + 1 ≤ k ∧ k < w6.heap.size) ∧ Hid (OwnN w6 S (.slice Agr0_0 r0_0.length cgr0_0) r0_0) := ⟨fun k => w5.heap.size + 1 ≤ k ∧ k < w6.heap.size, Lib.hid (fun k hk => hk), Lib.hid (ogr0_0.mono (fun k hk hk2 => ⟨by have hk3 := hk; (try simp at hk3); omega, hk2⟩))⟩
  clear b hstep ogr0_0
  go_wp2_with fail
  refine (eqTerm_ok _ w6.heap.size r0_0 _ _ ?_ ?_ ?_).mono ?_
  · exact (HOgr0_0.out.rd).below (B' := w6.heap.size) (by repeat' (first | exact Below.refl _ _ | apply Below.drew | apply Below.setCell | apply Below.alloc | (simp; done) | omega | (simp; omega))) (Nat.le_refl _)
  · exact (HOwr0_0.out.rd).below (B' := w6.heap.size) (by repeat' (first | exact Below.refl _ _ | apply Below.drew | apply Below.setCell | apply Below.alloc | (simp; done) | omega | (simp; omega))) (Nat.le_refl _)
  · (first | exact Nat.le_refl _ | (simp; done) | (simp; omega))
  rintro e w7 ⟨rfl, b⟩
  have hstep : Below w6.heap.size w6 w7 := Below.trans (by repeat' (first | exact Below.refl _ _ | apply Below.drew | apply Below.setCell | apply Below.alloc | (simp; done) | omega | (simp; omega))) (b.mono (by (first | exact Nat.le_refl _ | (simp; done) | (simp; omega))))
  replace hpp0_0 := (hstep.cell (p := ⟨w.heap.size, 0, none⟩) hlhpp0_).trans hpp0_0
  replace hlhpp0_ : w.heap.size < w7.heap.size := Nat.lt_of_lt_of_le hlhpp0_ hstep.size
  replace hwr0_0 := (hstep.cell (p := ⟨w4.heap.size, 0, none⟩) hlhwr0_).trans hwr0_0
  replace hlhwr0_ : w4.heap.size < w7.heap.size := Nat.lt_of_lt_of_le hlhwr0_ hstep.size
  replace hxp0_0 := (hstep.cell (p := ⟨w5.heap.size, 0, none⟩) hlhxp0_).trans hxp0_0
  replace hlhxp0_ : w5.heap.size < w7.heap.size := Nat.lt_of_lt_of_le hlhxp0_ hstep.size
  replace HOwr0_0 := Lib.hid (HOwr0_0.out.below hstep (fun _ _ hq => hq))
  replace HOxp0_0 := Lib.hid (HOxp0_0.out.below hstep (fun _ _ hq => hq))
  replace HOgr0_0 := Lib.hid (HOgr0_0.out.below hstep (fun _ _ hq => hq))
  replace HBN := Lib.hid (HBN.out.trans (hstep.mono HBN.out.size))
  have hzw7 : w6.heap.size ≤ w7.heap.size := hstep.size
  have hgr0_0 : w7.cell? ⟨w6.heap.size, 0, none⟩ = some (.slice Agr0_0 r0_0.length cgr0_0) := by have := b.cell (p := ⟨w6.heap.size, 0, none⟩) (by first | (simp; done) | (simp; omega)); simpa [go_sem] using this
  have hlhgr0_ : w6.heap.size < w7.heap.size := by have := b.size; simp at this; omega
  have hlhgr0_q := hlhgr0_
  clear b hstep 
  have HD : Hid (Below w7.heap.size w7 w7.drew) := Lib.hid (Below.refl _ _).drew
  have HV60 := Lib.hid ((HVp0_0.out.below HBN.out (Nat.le_refl _)).mono HBN.out.size)
  have HG60 := Lib.hid (HOxp0_0.out.rd)
  have HELD : Hid (∀ w' : World, Hid (Below w7.heap.size w7 w') → w'.cell? ⟨w.heap.size, 0, none⟩ = some (.slice Aup0_0 p0_0.length cup0_0) ∧ w'.cell? ⟨w5.heap.size, 0, none⟩ = some (.slice Axp0_0 p0_0.length cxp0_0) ∧ Hid (Below w7.heap.size w7 w')) := Lib.hid (fun w' H => ⟨(H.out.cell (p := ⟨w.heap.size, 0, none⟩) hlhpp0_).trans hpp0_0, (H.out.cell (p := ⟨w5.heap.size, 0, none⟩) hlhxp0_).trans hxp0_0, H⟩)
  go_wp2_with fail
  go_region_held3 (fun w' => w'.cell? ⟨w.heap.size, 0, none⟩ = some (.slice Aup0_0 p0_0.length cup0_0) ∧ w'.cell? ⟨w5.heap.size, 0, none⟩ = some (.slice Axp0_0 p0_0.length cxp0_0) ∧ Hid (Below w7.heap.size w7 w'))
    (exact HELD.out _ (by assumption))
    (first
      | (go_at_call 10; go_split_ands; refine (toTerm_fr w7 _ (by assumption) p0_0 _ HV60.out hsp0_0).mono ?_; rintro e wa ⟨vyp0_0, rfl, ba, bb, oyp0_0⟩)
      | (go_at_call 12; go_split_ands; refine (eqTerm_fr w7 _ (by assumption) p0_0 _ _ HG60.out (by assumption)).mono ?_; rintro e w8 ⟨rfl, bc⟩))
  have hstep := bc.out
  clear HD HELD HV60 HG60 oyp0_0 ba bb bc
  replace hpp0_0 := (hstep.cell (p := ⟨w.heap.size, 0, none⟩) hlhpp0_).trans hpp0_0
  replace hlhpp0_ : w.heap.size < w8.heap.size := Nat.lt_of_lt_of_le hlhpp0_ hstep.size
  replace hwr0_0 := (hstep.cell (p := ⟨w4.heap.size, 0, none⟩) hlhwr0_).trans hwr0_0
  replace hlhwr0_ : w4.heap.size < w8.heap.size := Nat.lt_of_lt_of_le hlhwr0_ hstep.size
  replace hxp0_0 := (hstep.cell (p := ⟨w5.heap.size, 0, none⟩) hlhxp0_).trans hxp0_0
  replace hlhxp0_ : w5.heap.size < w8.heap.size := Nat.lt_of_lt_of_le hlhxp0_ hstep.size
  replace hgr0_0 := (hstep.cell (p := ⟨w6.heap.size, 0, none⟩) hlhgr0_).trans hgr0_0
  replace hlhgr0_ : w6.heap.size < w8.heap.size := Nat.lt_of_lt_of_le hlhgr0_ hstep.size
  replace HOwr0_0 := Lib.hid (HOwr0_0.out.below hstep (fun _ _ hq => hq))
  replace HOxp0_0 := Lib.hid (HOxp0_0.out.below hstep (fun _ _ hq => hq))
  replace HOgr0_0 := Lib.hid (HOgr0_0.out.below hstep (fun _ _ hq => hq))
  replace HBN := Lib.hid (HBN.out.trans (hstep.mono HBN.out.size))
  have hzw8 : w7.heap.size ≤ w8.heap.size := hstep.size
  clear hstep
  have := cntN_le p0_0
  go_wp2_with fail
  refine (markTerm_ok _ p0_0 _ SHOxp0_0 1 (HOxp0_0.out) (by omega) (by omega)).mono ?_
  rintro e w9 ⟨h2, t, om0⟩
  replace hpp0_0 := (t.cellAt (p := ⟨w.heap.size, 0, none⟩) hlhpp0_ (fun hk => by (first | (have := HSHOxp0_0.out _ hk; dsimp only at this; omega)))).trans hpp0_0
  replace hwr0_0 := (t.cellAt (p := ⟨w4.heap.size, 0, none⟩) hlhwr0_ (fun hk => by (first | (have := HSHOxp0_0.out _ hk; dsimp only at this; omega)))).trans hwr0_0
  replace hxp0_0 := (t.cellAt (p := ⟨w5.heap.size, 0, none⟩) hlhxp0_ (fun hk => by (first | (have := HSHOxp0_0.out _ hk; dsimp only at this; omega)))).trans hxp0_0
  replace hgr0_0 := (t.cellAt (p := ⟨w6.heap.size, 0, none⟩) hlhgr0_ (fun hk => by (first | (have := HSHOxp0_0.out _ hk; dsimp only at this; omega)))).trans hgr0_0
  replace hlhpp0_ : w.heap.size < w9.heap.size := Nat.lt_of_lt_of_le hlhpp0_ t.size
  replace hlhwr0_ : w4.heap.size < w9.heap.size := Nat.lt_of_lt_of_le hlhwr0_ t.size
  replace hlhxp0_ : w5.heap.size < w9.heap.size := Nat.lt_of_lt_of_le hlhxp0_ t.size
  replace hlhgr0_ : w6.heap.size < w9.heap.size := Nat.lt_of_lt_of_le hlhgr0_ t.size
  replace HOwr0_0 := Lib.hid (HOwr0_0.out.blocks (w' := w9) (fun q hq hql => t.block q hql (fun hx => by (first | (have := HSHOxp0_0.out q hx; have := HSHOwr0_0.out q hq; omega)))))
  replace HOgr0_0 := Lib.hid (HOgr0_0.out.blocks (w' := w9) (fun q hq hql => t.block q hql (fun hx => by (first | (have := HSHOxp0_0.out q hx; have := HSHOgr0_0.out q hq; omega)))))
  replace HBN := Lib.hid (HBN.out.trans (t.below HBN.out.size (fun k hk => by (first | (have := HSHOxp0_0.out k hk; have := HBN.out.size; omega)))))
  have hzw9 : w8.heap.size ≤ w9.heap.size := t.size
  replace HOxp0_0 := Lib.hid om0
  clear t om0
  obtain ⟨kp0_, hkp0_a, hkp0_b, rfl⟩ : ∃ z : Int, 0 ≤ z ∧ z ≤ 1 + 1048576 * 3 ∧ e = .returned (.int .i64 z) := ⟨_, by omega, by omega, h2⟩
  clear h2
  clear HOxp0_0 HSHOxp0_0
  have hkneg : ¬ kp0_ < 0 := by omega
  go_wp2_with fail
  refine (eqTerm_ok _ w9.heap.size r0_0 _ _ ?_ ?_ ?_).mono ?_
  · exact (HOgr0_0.out.rd).below (B' := w9.heap.size) (by repeat' (first | exact Below.refl _ _ | apply Below.drew | apply Below.setCell | apply Below.alloc | (simp; done) | omega | (simp; omega))) (Nat.le_refl _)
  · exact (HOwr0_0.out.rd).below (B' := w9.heap.size) (by repeat' (first | exact Below.refl _ _ | apply Below.drew | apply Below.setCell | apply Below.alloc | (simp; done) | omega | (simp; omega))) (Nat.le_refl _)
  · (first | exact Nat.le_refl _ | (simp; done) | (simp; omega))
  rintro e w10 ⟨rfl, b⟩
  have hstep : Below w9.heap.size w9 w10 := Below.trans (by repeat' (first | exact Below.refl _ _ | apply Below.drew | apply Below.setCell | apply Below.alloc | (simp; done) | omega | (simp; omega))) (b.mono (by (first | exact Nat.le_refl _ | (simp; done) | (simp; omega))))
  replace hpp0_0 := (hstep.cell (p := ⟨w.heap.size, 0, none⟩) hlhpp0_).trans hpp0_0
  replace hlhpp0_ : w.heap.size < w10.heap.size := Nat.lt_of_lt_of_le hlhpp0_ hstep.size
  replace hwr0_0 := (hstep.cell (p := ⟨w4.heap.size, 0, none⟩) hlhwr0_).trans hwr0_0
  replace hlhwr0_ : w4.heap.size < w10.heap.size := Nat.lt_of_lt_of_le hlhwr0_ hstep.size
  replace hxp0_0 := (hstep.cell (p := ⟨w5.heap.size, 0, none⟩) hlhxp0_).trans hxp0_0
  replace hlhxp0_ : w5.heap.size < w10.heap.size := Nat.lt_of_lt_of_le hlhxp0_ hstep.size
  replace hgr0_0 := (hstep.cell (p := ⟨w6.heap.size, 0, none⟩) hlhgr0_).trans hgr0_0
  replace hlhgr0_ : w6.heap.size < w10.heap.size := Nat.lt_of_lt_of_le hlhgr0_ hstep.size
  replace HOwr0_0 := Lib.hid (HOwr0_0.out.below hstep (fun _ _ hq => hq))
  replace HOgr0_0 := Lib.hid (HOgr0_0.out.below hstep (fun _ _ hq => hq))
  replace HBN := Lib.hid (HBN.out.trans (hstep.mono HBN.out.size))
  have hzw10 : w9.heap.size ≤ w10.heap.size := hstep.size
  clear b hstep 
  have hcbr0_0 : cntN r0_0 ≤ 1099511627776 := HOgr0_0.out.2.1
  go_wp2_with fail
  refine (markTerm_ok _ r0_0 _ SHOgr0_0 1 (HOgr0_0.out) (by omega) (by omega)).mono ?_
  rintro e w11 ⟨h2, t, om0⟩
  replace hpp0_0 := (t.cellAt (p := ⟨w.heap.size, 0, none⟩) hlhpp0_ (fun hk => by (first | (have := HSHOgr0_0.out _ hk; dsimp only at this; omega)))).trans hpp0_0
  replace hwr0_0 := (t.cellAt (p := ⟨w4.heap.size, 0, none⟩) hlhwr0_ (fun hk => by (first | (have := HSHOgr0_0.out _ hk; dsimp only at this; omega)))).trans hwr0_0
  replace hxp0_0 := (t.cellAt (p := ⟨w5.heap.size, 0, none⟩) hlhxp0_ (fun hk => by (first | (have := HSHOgr0_0.out _ hk; dsimp only at this; omega)))).trans hxp0_0
  replace hgr0_0 := (t.cellAt (p := ⟨w6.heap.size, 0, none⟩) hlhgr0_ (fun hk => by (first | (have := HSHOgr0_0.out _ hk; dsimp only at this; omega)))).trans hgr0_0
  replace hlhpp0_ : w.heap.size < w11.heap.size := Nat.lt_of_lt_of_le hlhpp0_ t.size
  replace hlhwr0_ : w4.heap.size < w11.heap.size := Nat.lt_of_lt_of_le hlhwr0_ t.size
  replace hlhxp0_ : w5.heap.size < w11.heap.size := Nat.lt_of_lt_of_le hlhxp0_ t.size
  replace hlhgr0_ : w6.heap.size < w11.heap.size := Nat.lt_of_lt_of_le hlhgr0_ t.size
  replace HOwr0_0 := Lib.hid (HOwr0_0.out.blocks (w' := w11) (fun q hq hql => t.block q hql (fun hx => by (first | (have := HSHOgr0_0.out q hx; have := HSHOwr0_0.out q hq; omega)))))
  replace HBN := Lib.hid (HBN.out.trans (t.below HBN.out.size (fun k hk => by (first | (have := HSHOgr0_0.out k hk; have := HBN.out.size; omega)))))
  have hzw11 : w10.heap.size ≤ w11.heap.size := t.size
  replace HOgr0_0 := Lib.hid om0
  clear t om0
  obtain ⟨mr0_, HMr0_, hmr0_a, hmr0_b, rfl⟩ : ∃ z : Int, Hid (1 + ((cntN r0_0 : Nat) : Int) = z) ∧ 0 ≤ z ∧ z ≤ 1 + 1099511627776 * 1 ∧ e = .returned (.int .i64 z) := ⟨_, Lib.hid rfl, by omega, by omega, h2⟩
  clear h2
  have hmm : (mr0_ != mr0_) = false := by simp
  go_wp2_with fail
  refine (heldTerm_ok _ w11.heap.size r0_0 _ 1 ?_ ?_ (by omega) (by omega)).mono ?_
  · exact (HOgr0_0.out.rd).below (B' := w11.heap.size) (by repeat' (first | exact Below.refl _ _ | apply Below.drew | apply Below.setCell | apply Below.alloc | (simp; done) | omega | (simp; omega))) (Nat.le_refl _)
  · (first | exact Nat.le_refl _ | (simp; done) | (simp; omega))
  rintro e w12 ⟨h2, b⟩
  have hstep : Below w11.heap.size w11 w12 := Below.trans (by repeat' (first | exact Below.refl _ _ | apply Below.drew | apply Below.setCell | apply Below.alloc | (simp; done) | omega | (simp; omega))) (b.mono (by (first | exact Nat.le_refl _ | (simp; done) | (simp; omega))))
  replace hpp0_0 := (hstep.cell (p := ⟨w.heap.size, 0, none⟩) hlhpp0_).trans hpp0_0
  replace hlhpp0_ : w.heap.size < w12.heap.size := Nat.lt_of_lt_of_le hlhpp0_ hstep.size
  replace hwr0_0 := (hstep.cell (p := ⟨w4.heap.size, 0, none⟩) hlhwr0_).trans hwr0_0
  replace hlhwr0_ : w4.heap.size < w12.heap.size := Nat.lt_of_lt_of_le hlhwr0_ hstep.size
  replace hxp0_0 := (hstep.cell (p := ⟨w5.heap.size, 0, none⟩) hlhxp0_).trans hxp0_0
  replace hlhxp0_ : w5.heap.size < w12.heap.size := Nat.lt_of_lt_of_le hlhxp0_ hstep.size
  replace hgr0_0 := (hstep.cell (p := ⟨w6.heap.size, 0, none⟩) hlhgr0_).trans hgr0_0
  replace hlhgr0_ : w6.heap.size < w12.heap.size := Nat.lt_of_lt_of_le hlhgr0_ hstep.size
  replace HOwr0_0 := Lib.hid (HOwr0_0.out.below hstep (fun _ _ hq => hq))
  replace HOgr0_0 := Lib.hid (HOgr0_0.out.below hstep (fun _ _ hq => hq))
  replace HBN := Lib.hid (HBN.out.trans (hstep.mono HBN.out.size))
  have hzw12 : w11.heap.size ≤ w12.heap.size := hstep.size
  clear b hstep 
  rw [HMr0_.out] at h2
  subst h2
  have hmneg : ¬ mr0_ < 0 := by omega
  go_wp2_with fail
  refine (toTerm_ok _ w.heap.size p0_0 _ ?_ ?_ hsp0_0).mono ?_
  · exact (HVp0_0.out.below HBN.out (Nat.le_refl _)).below (B' := w12.heap.size) (by repeat' (first | exact Below.refl _ _ | apply Below.drew | apply Below.setCell | apply Below.alloc | (simp; done) | omega | (simp; omega))) HBN.out.size
  · (have := HBN.out.size; first | exact this | (simp; done) | (simp; omega))
  rintro e w13 ⟨vyp0_0, rfl, b, oyp0_0⟩
  obtain ⟨Ayp0_0, cyp0_0, rfl⟩ := oyp0_0.len
  have hstep : Below w12.heap.size w12 w13 := Below.trans (by repeat' (first | exact Below.refl _ _ | apply Below.drew | apply Below.setCell | apply Below.alloc | (simp; done) | omega | (simp; omega))) (b.mono (by (first | exact Nat.le_refl _ | (simp; done) | (simp; omega))))
  replace hpp0_0 := (hstep.cell (p := ⟨w.heap.size, 0, none⟩) hlhpp0_).trans hpp0_0
  replace hlhpp0_ : w.heap.size < w13.heap.size := Nat.lt_of_lt_of_le hlhpp0_ hstep.size
  replace hwr0_0 := (hstep.cell (p := ⟨w4.heap.size, 0, none⟩) hlhwr0_).trans hwr0_0
  replace hlhwr0_ : w4.heap.size < w13.heap.size := Nat.lt_of_lt_of_le hlhwr0_ hstep.size
  replace hxp0_0 := (hstep.cell (p := ⟨w5.heap.size, 0, none⟩) hlhxp0_).trans hxp0_0
  replace hlhxp0_ : w5.heap.size < w13.heap.size := Nat.lt_of_lt_of_le hlhxp0_ hstep.size
  replace hgr0_0 := (hstep.cell (p := ⟨w6.heap.size, 0, none⟩) hlhgr0_).trans hgr0_0
  replace hlhgr0_ : w6.heap.size < w13.heap.size := Nat.lt_of_lt_of_le hlhgr0_ hstep.size
  replace HOwr0_0 := Lib.hid (HOwr0_0.out.below hstep (fun _ _ hq => hq))
  replace HOgr0_0 := Lib.hid (HOgr0_0.out.below hstep (fun _ _ hq => hq))
  replace HBN := Lib.hid (HBN.out.trans (hstep.mono HBN.out.size))
  have hzw13 : w12.heap.size ≤ w13.heap.size := hstep.size
  obtain ⟨SHOyp0_0, HSHOyp0_0, HOyp0_0⟩ : ∃ S : Nat → Prop, Hid (∀ k, S k → w12.heap.size + 0 ≤ k ∧ k < w13.heap.size) ∧ Hid (OwnN w13 S (.slice Ayp0_0 p0_0.length cyp0_0) p0_0) := ⟨fun k => w12.heap.size + 0 ≤ k ∧ k < w13.heap.size, Lib.hid (fun k hk => hk), Lib.hid (oyp0_0.mono (fun k hk hk2 => ⟨by have hk3 := hk; (try simp at hk3); omega, hk2⟩))⟩
  clear b hstep oyp0_0
  go_wp2_with fail
  refine (HIM.out _ w13.heap.size _ ?_ ?_ hsp0_0).mono ?_
  · exact (HOyp0_0.out.rd).below (B' := w13.heap.size) (by repeat' (first | exact Below.refl _ _ | apply Below.drew | apply Below.setCell | apply Below.alloc | (simp; done) | omega | (simp; omega))) (Nat.le_refl _)
  · (first | exact Nat.le_refl _ | (simp; done) | (simp; omega))
  rintro e w14 ⟨vhr0_0, rfl, b, ohr0_0⟩
  obtain ⟨Ahr0_0, chr0_0, rfl⟩ := ohr0_0.len
  have hstep : Below w13.heap.size w13 w14 := Below.trans (by repeat' (first | exact Below.refl _ _ | apply Below.drew | apply Below.setCell | apply Below.alloc | (simp; done) | omega | (simp; omega))) (b.mono (by (first | exact Nat.le_refl _ | (simp; done) | (simp; omega))))
  replace hpp0_0 := (hstep.cell (p := ⟨w.heap.size, 0, none⟩) hlhpp0_).trans hpp0_0
  replace hlhpp0_ : w.heap.size < w14.heap.size := Nat.lt_of_lt_of_le hlhpp0_ hstep.size
  replace hwr0_0 := (hstep.cell (p := ⟨w4.heap.size, 0, none⟩) hlhwr0_).trans hwr0_0
  replace hlhwr0_ : w4.heap.size < w14.heap.size := Nat.lt_of_lt_of_le hlhwr0_ hstep.size
  replace hxp0_0 := (hstep.cell (p := ⟨w5.heap.size, 0, none⟩) hlhxp0_).trans hxp0_0
  replace hlhxp0_ : w5.heap.size < w14.heap.size := Nat.lt_of_lt_of_le hlhxp0_ hstep.size
  replace hgr0_0 := (hstep.cell (p := ⟨w6.heap.size, 0, none⟩) hlhgr0_).trans hgr0_0
  replace hlhgr0_ : w6.heap.size < w14.heap.size := Nat.lt_of_lt_of_le hlhgr0_ hstep.size
  replace HOwr0_0 := Lib.hid (HOwr0_0.out.below hstep (fun _ _ hq => hq))
  replace HOgr0_0 := Lib.hid (HOgr0_0.out.below hstep (fun _ _ hq => hq))
  replace HOyp0_0 := Lib.hid (HOyp0_0.out.below hstep (fun _ _ hq => hq))
  replace HBN := Lib.hid (HBN.out.trans (hstep.mono HBN.out.size))
  have hzw14 : w13.heap.size ≤ w14.heap.size := hstep.size
  obtain ⟨SHOhr0_0, HSHOhr0_0, HOhr0_0⟩ : ∃ S : Nat → Prop, Hid (∀ k, S k → w13.heap.size + 0 ≤ k ∧ k < w14.heap.size) ∧ Hid (OwnN w14 S (.slice Ahr0_0 r0_0.length chr0_0) r0_0) := ⟨fun k => w13.heap.size + 0 ≤ k ∧ k < w14.heap.size, Lib.hid (fun k hk => hk), Lib.hid (ohr0_0.mono (fun k hk hk2 => ⟨by have hk3 := hk; (try simp at hk3); omega, hk2⟩))⟩
  clear b hstep ohr0_0
  clear HOyp0_0 HSHOyp0_0
  go_wp2_with fail
  refine (eqTerm_ok _ w14.heap.size r0_0 _ _ ?_ ?_ ?_).mono ?_
  · exact (HOhr0_0.out.rd).below (B' := w14.heap.size) (by repeat' (first | exact Below.refl _ _ | apply Below.drew | apply Below.setCell | apply Below.alloc | (simp; done) | omega | (simp; omega))) (Nat.le_refl _)
  · exact (HOwr0_0.out.rd).below (B' := w14.heap.size) (by repeat' (first | exact Below.refl _ _ | apply Below.drew | apply Below.setCell | apply Below.alloc | (simp; done) | omega | (simp; omega))) (Nat.le_refl _)
  · (first | exact Nat.le_refl _ | (simp; done) | (simp; omega))
  rintro e w15 ⟨rfl, b⟩
  have hstep : Below w14.heap.size w14 w15 := Below.trans (by repeat' (first | exact Below.refl _ _ | apply Below.drew | apply Below.setCell | apply Below.alloc | (simp; done) | omega | (simp; omega))) (b.mono (by (first | exact Nat.le_refl _ | (simp; done) | (simp; omega))))
  replace hpp0_0 := (hstep.cell (p := ⟨w.heap.size, 0, none⟩) hlhpp0_).trans hpp0_0
  replace hlhpp0_ : w.heap.size < w15.heap.size := Nat.lt_of_lt_of_le hlhpp0_ hstep.size
  replace hwr0_0 := (hstep.cell (p := ⟨w4.heap.size, 0, none⟩) hlhwr0_).trans hwr0_0
  replace hlhwr0_ : w4.heap.size < w15.heap.size := Nat.lt_of_lt_of_le hlhwr0_ hstep.size
  replace hxp0_0 := (hstep.cell (p := ⟨w5.heap.size, 0, none⟩) hlhxp0_).trans hxp0_0
  replace hlhxp0_ : w5.heap.size < w15.heap.size := Nat.lt_of_lt_of_le hlhxp0_ hstep.size
  replace hgr0_0 := (hstep.cell (p := ⟨w6.heap.size, 0, none⟩) hlhgr0_).trans hgr0_0
  replace hlhgr0_ : w6.heap.size < w15.heap.size := Nat.lt_of_lt_of_le hlhgr0_ hstep.size
  replace HOwr0_0 := Lib.hid (HOwr0_0.out.below hstep (fun _ _ hq => hq))
  replace HOgr0_0 := Lib.hid (HOgr0_0.out.below hstep (fun _ _ hq => hq))
  replace HOhr0_0 := Lib.hid (HOhr0_0.out.below hstep (fun _ _ hq => hq))
  replace HBN := Lib.hid (HBN.out.trans (hstep.mono HBN.out.size))
  have hzw15 : w14.heap.size ≤ w15.heap.size := hstep.size
  have hhr0_0 : w15.cell? ⟨w14.heap.size, 0, none⟩ = some (.slice Ahr0_0 r0_0.length chr0_0) := by have := b.cell (p := ⟨w14.heap.size, 0, none⟩) (by first | (simp; done) | (simp; omega)); simpa [go_sem] using this
  have hlhhr0_ : w14.heap.size < w15.heap.size := by have := b.size; simp at this; omega
  have hlhhr0_q := hlhhr0_
  clear b hstep 
  go_wp2_with fail
  refine (heldTerm_ok _ w15.heap.size r0_0 _ 1 ?_ ?_ (by omega) (by omega)).mono ?_
  · exact (HOgr0_0.out.rd).below (B' := w15.heap.size) (by repeat' (first | exact Below.refl _ _ | apply Below.drew | apply Below.setCell | apply Below.alloc | (simp; done) | omega | (simp; omega))) (Nat.le_refl _)
  · (first | exact Nat.le_refl _ | (simp; done) | (simp; omega))
  rintro e w16 ⟨h2, b⟩
  have hstep : Below w15.heap.size w15 w16 := Below.trans (by repeat' (first | exact Below.refl _ _ | apply Below.drew | apply Below.setCell | apply Below.alloc | (simp; done) | omega | (simp; omega))) (b.mono (by (first | exact Nat.le_refl _ | (simp; done) | (simp; omega))))
  replace hpp0_0 := (hstep.cell (p := ⟨w.heap.size, 0, none⟩) hlhpp0_).trans hpp0_0
  replace hlhpp0_ : w.heap.size < w16.heap.size := Nat.lt_of_lt_of_le hlhpp0_ hstep.size
  replace hwr0_0 := (hstep.cell (p := ⟨w4.heap.size, 0, none⟩) hlhwr0_).trans hwr0_0
  replace hlhwr0_ : w4.heap.size < w16.heap.size := Nat.lt_of_lt_of_le hlhwr0_ hstep.size
  replace hxp0_0 := (hstep.cell (p := ⟨w5.heap.size, 0, none⟩) hlhxp0_).trans hxp0_0
  replace hlhxp0_ : w5.heap.size < w16.heap.size := Nat.lt_of_lt_of_le hlhxp0_ hstep.size
  replace hgr0_0 := (hstep.cell (p := ⟨w6.heap.size, 0, none⟩) hlhgr0_).trans hgr0_0
  replace hlhgr0_ : w6.heap.size < w16.heap.size := Nat.lt_of_lt_of_le hlhgr0_ hstep.size
  replace hhr0_0 := (hstep.cell (p := ⟨w14.heap.size, 0, none⟩) hlhhr0_).trans hhr0_0
  replace hlhhr0_ : w14.heap.size < w16.heap.size := Nat.lt_of_lt_of_le hlhhr0_ hstep.size
  replace HOwr0_0 := Lib.hid (HOwr0_0.out.below hstep (fun _ _ hq => hq))
  replace HOgr0_0 := Lib.hid (HOgr0_0.out.below hstep (fun _ _ hq => hq))
  replace HOhr0_0 := Lib.hid (HOhr0_0.out.below hstep (fun _ _ hq => hq))
  replace HBN := Lib.hid (HBN.out.trans (hstep.mono HBN.out.size))
  have hzw16 : w15.heap.size ≤ w16.heap.size := hstep.size
  clear b hstep 
  rw [HMr0_.out] at h2
  subst h2
  have hmneg : ¬ mr0_ < 0 := by omega
  go_wp2
  go_ret
  exact ⟨rfl, HBN.out⟩
end Go.Proofs.Ytiealgnmhjebeaa
