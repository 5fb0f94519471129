/- The harness of the law FnExactSpanOf: it returns true if both functions return what they should. -/
import Derived.Test.YthppfooomdlonaaDoorTSpace
import Derived.Test.YthppfooomdlonaaDoorRetSpaceB
import Derived.Test.YthppfooomdlonaaDoorFdWalks
import Derived.Deep.Cut
import Derived.Deep.QuietTactic
namespace Go.Proofs.YthppfooomdlonaaDoor
set_option maxRecDepth 100000
open Go Go.RowKit Go.Deep

set_option maxHeartbeats 6400000 in
set_option maxRecDepth 100000 in
theorem harness_SpanOf (p0_0 : Int) (p1_0 : Int) (p2_0 : List (List Int)) (up2_0 : Value) (w : World) (r0_0 : Int) (r0_1 : List (List Int)) (r1_0 : Bool) (ht : Tab w) (hvp2_0 : LfG w w.heap.size up2_0 p2_0) 
    (hspec : ∀ (w : World) (B : Nat) (vp2_0 : Value) , LfG w B vp2_0 p2_0 → B ≤ w.heap.size → szG p2_0 ≤ 1048576 → Calls Tryd.prog 44 #[.int .i64 p0_0, .int .i64 p1_0, vp2_0] w (SRetSpaceB w r0_0 r0_1 r1_0))
    (himpl : ∀ (w : World) (B : Nat) (vp2_0 : Value) , Tab w → LfG w B vp2_0 p2_0 → B ≤ w.heap.size → szG p2_0 ≤ 1048576 → Calls Tryd.prog 46 #[.int .i64 p0_0, .int .i64 p1_0, vp2_0] w (IRetSpaceB w r0_0 r0_1 r1_0)) :
    Calls Tryd.prog 10 #[.int .i64 p0_0, .int .i64 p1_0, up2_0] w fun e w' => e = .returned (.bool true) ∧ Below w.heap.size w w' := by
  have HBN := Lib.hid (Below.refl w.heap.size w)
  have HT := Lib.hid ht
  have HSP := Lib.hid hspec
  have HIM := Lib.hid himpl
  clear ht hspec himpl
  obtain ⟨Aup2_0, cup2_0, rfl⟩ := hvp2_0.len
  have HVp2_0 := Lib.hid hvp2_0
  clear hvp2_0
  have hbbr0_0 : (r0_0 != r0_0) = false := by simp
  have hbbr1_0 : (r1_0 != r1_0) = false := by simp
  go_enter Tryd.func10, Tryd.ntmps10
  go_wp2_with fail
  refine (szG_any _ w.heap.size _ p2_0 1048576 ?_ (by omega) (by omega)).mono ?_
  · exact (HVp2_0.out.below HBN.out (Nat.le_refl _)).below (B' := w.heap.size) (by repeat' (first | exact Below.refl _ _ | apply Below.drew | apply Below.setCell | apply Below.alloc | (simp; done) | omega | (simp; omega))) HBN.out.size
  rintro e w2 ⟨b, h2⟩
  have hstep : Below w.heap.size w w2 := Below.trans (by repeat' (first | exact Below.refl _ _ | apply Below.drew | apply Below.setCell | apply Below.alloc | (simp; done) | omega | (simp; omega))) (b.mono (by (first | exact Nat.le_refl _ | (simp; done) | (simp; omega))))
  replace HBN := Lib.hid (HBN.out.trans (hstep.mono HBN.out.size))
  have hzw2 : w.heap.size ≤ w2.heap.size := hstep.size
  clear b hstep 
  rcases h2 with rfl | ⟨hle, h2⟩
  · go_wp2
    go_ret
    exact ⟨rfl, HBN.out⟩
  obtain ⟨zp2_, hzp2_a, hzp2_b, rfl⟩ : ∃ z : Int, 0 ≤ z ∧ z ≤ 1048576 ∧ e = .returned (.int .i64 z) := ⟨_, by omega, by omega, h2⟩
  have hsp2_0 : szG p2_0 ≤ 1048576 := by omega
  clear h2 hle
  go_wp2_with fail
  refine (toG_any _ w.heap.size _ p2_0 ?_ ?_ hsp2_0).mono ?_
  · exact (HVp2_0.out.below HBN.out (Nat.le_refl _)).below (B' := w2.heap.size) (by repeat' (first | exact Below.refl _ _ | apply Below.drew | apply Below.setCell | apply Below.alloc | (simp; done) | omega | (simp; omega))) HBN.out.size
  · (have := HBN.out.size; first | exact this | (simp; done) | (simp; omega))
  rintro e w3 ⟨vap2_0, rfl, b, oap2_0⟩
  obtain ⟨Aap2_0, cap2_0, rfl⟩ := oap2_0.len
  have hstep : Below w2.heap.size w2 w3 := Below.trans (by repeat' (first | exact Below.refl _ _ | apply Below.drew | apply Below.setCell | apply Below.alloc | (simp; done) | omega | (simp; omega))) (b.mono (by (first | exact Nat.le_refl _ | (simp; done) | (simp; omega))))
  replace HBN := Lib.hid (HBN.out.trans (hstep.mono HBN.out.size))
  have hzw3 : w2.heap.size ≤ w3.heap.size := hstep.size
  obtain ⟨SHOap2_0, HSHOap2_0, HOap2_0⟩ : ∃ S : Nat → Prop, Hid (∀ k, S k → w2.heap.size + 0 ≤ k ∧ k < w3.heap.size) ∧ Hid (OwnG w3 S (.slice Aap2_0 p2_0.length cap2_0) p2_0) := ⟨fun k => w2.heap.size + 0 ≤ k ∧ k < w3.heap.size, Lib.hid (fun k hk => hk), Lib.hid (oap2_0.mono (fun k hk hk2 => ⟨by have hk3 := hk; (try simp at hk3); omega, hk2⟩))⟩
  clear b hstep oap2_0
  go_wp2_with fail
  refine (HSP.out _ w3.heap.size _ ?_ ?_ hsp2_0).mono ?_
  · exact (HOap2_0.out.rd).below (B' := w3.heap.size) (by repeat' (first | exact Below.refl _ _ | apply Below.drew | apply Below.setCell | apply Below.alloc | (simp; done) | omega | (simp; omega))) (Nat.le_refl _)
  · (first | exact Nat.le_refl _ | (simp; done) | (simp; omega))
  rintro e w4 ⟨vwr0_1, rfl, b, owr0_1⟩
  obtain ⟨Awr0_1, cwr0_1, rfl⟩ := owr0_1.len
  have hstep : Below w3.heap.size w3 w4 := Below.trans (by repeat' (first | exact Below.refl _ _ | apply Below.drew | apply Below.setCell | apply Below.alloc | (simp; done) | omega | (simp; omega))) (b.mono (by (first | exact Nat.le_refl _ | (simp; done) | (simp; omega))))
  replace HOap2_0 := Lib.hid (HOap2_0.out.below hstep (fun _ _ hq => hq))
  replace HBN := Lib.hid (HBN.out.trans (hstep.mono HBN.out.size))
  have hzw4 : w3.heap.size ≤ w4.heap.size := hstep.size
  obtain ⟨SHOwr0_1, HSHOwr0_1, HOwr0_1⟩ : ∃ S : Nat → Prop, Hid (∀ k, S k → w3.heap.size + 0 ≤ k ∧ k < w4.heap.size) ∧ Hid (OwnG w4 S (.slice Awr0_1 r0_1.length cwr0_1) r0_1) := ⟨fun k => w3.heap.size + 0 ≤ k ∧ k < w4.heap.size, Lib.hid (fun k hk => hk), Lib.hid (owr0_1.mono (fun k hk hk2 => ⟨by have hk3 := hk; (try simp at hk3); omega, hk2⟩))⟩
  clear b hstep owr0_1
  clear HOap2_0 HSHOap2_0
  go_wp2_with fail
  refine (toG_any _ w.heap.size _ p2_0 ?_ ?_ hsp2_0).mono ?_
  · exact (HVp2_0.out.below HBN.out (Nat.le_refl _)).below (B' := w4.heap.size) (by repeat' (first | exact Below.refl _ _ | apply Below.drew | apply Below.setCell | apply Below.alloc | (simp; done) | omega | (simp; omega))) HBN.out.size
  · (have := HBN.out.size; first | exact this | (simp; done) | (simp; omega))
  rintro e w5 ⟨vxp2_0, rfl, b, oxp2_0⟩
  obtain ⟨Axp2_0, cxp2_0, rfl⟩ := oxp2_0.len
  have hstep : Below w4.heap.size w4 w5 := Below.trans (by repeat' (first | exact Below.refl _ _ | apply Below.drew | apply Below.setCell | apply Below.alloc | (simp; done) | omega | (simp; omega))) (b.mono (by (first | exact Nat.le_refl _ | (simp; done) | (simp; omega))))
  replace HOwr0_1 := Lib.hid (HOwr0_1.out.below hstep (fun _ _ hq => hq))
  replace HBN := Lib.hid (HBN.out.trans (hstep.mono HBN.out.size))
  have hzw5 : w4.heap.size ≤ w5.heap.size := hstep.size
  have hwr0_0 : w5.cell? ⟨w4.heap.size, 0, none⟩ = some (.int .i64 r0_0) := by have := b.cell (p := ⟨w4.heap.size, 0, none⟩) (by first | (simp; done) | (simp; omega)); simpa [go_sem] using this
  have hwr0_1 : w5.cell? ⟨w4.heap.size, 1, none⟩ = some (.slice Awr0_1 r0_1.length cwr0_1) := by have := b.cell (p := ⟨w4.heap.size, 1, none⟩) (by first | (simp; done) | (simp; omega)); simpa [go_sem] using this
  have hlhwr0_ : w4.heap.size < w5.heap.size := by have := b.size; simp at this; omega
  have hlhwr0_q := hlhwr0_
  obtain ⟨SHOxp2_0, HSHOxp2_0, HOxp2_0⟩ : ∃ S : Nat → Prop, Hid (∀ k, S k → w4.heap.size + 1 ≤ k ∧ k < w5.heap.size) ∧ Hid (OwnG w5 S (.slice Axp2_0 p2_0.length cxp2_0) p2_0) := ⟨fun k => w4.heap.size + 1 ≤ k ∧ k < w5.heap.size, Lib.hid (fun k hk => hk), Lib.hid (oxp2_0.mono (fun k hk hk2 => ⟨by have hk3 := hk; (try simp at hk3); omega, hk2⟩))⟩
  clear b hstep oxp2_0
  go_wp2_with fail
  refine (HIM.out _ w5.heap.size _ ?_ ?_ ?_ hsp2_0).mono ?_
  · exact (HT.out.below HBN.out).below (by repeat' (first | exact Below.refl _ _ | apply Below.drew | apply Below.setCell | apply Below.alloc | (simp; done) | omega | (simp; omega)))
  · exact (HOxp2_0.out.rd).below (B' := w5.heap.size) (by repeat' (first | exact Below.refl _ _ | apply Below.drew | apply Below.setCell | apply Below.alloc | (simp; done) | omega | (simp; omega))) (Nat.le_refl _)
  · (first | exact Nat.le_refl _ | (simp; done) | (simp; omega))
  rintro e w6 ⟨vgr0_1, rfl, b, ogr0_1⟩
  obtain ⟨Agr0_1, cgr0_1, rfl⟩ := ogr0_1.len
  have hstep : Below w5.heap.size w5 w6 := Below.trans (by repeat' (first | exact Below.refl _ _ | apply Below.drew | apply Below.setCell | apply Below.alloc | (simp; done) | omega | (simp; omega))) (b.mono (by (first | exact Nat.le_refl _ | (simp; done) | (simp; omega))))
  replace hwr0_0 := (hstep.cell (p := ⟨w4.heap.size, 0, none⟩) hlhwr0_).trans hwr0_0
  replace hwr0_1 := (hstep.cell (p := ⟨w4.heap.size, 1, none⟩) hlhwr0_).trans hwr0_1
  replace hlhwr0_ : w4.heap.size < w6.heap.size := Nat.lt_of_lt_of_le hlhwr0_ hstep.size
  replace HOwr0_1 := Lib.hid (HOwr0_1.out.below hstep (fun _ _ hq => hq))
  replace HOxp2_0 := Lib.hid (HOxp2_0.out.below hstep (fun _ _ hq => hq))
  replace HBN := Lib.hid (HBN.out.trans (hstep.mono HBN.out.size))
  have hzw6 : w5.heap.size ≤ w6.heap.size := hstep.size
  obtain ⟨SHOgr0_1, HSHOgr0_1, HOgr0_1⟩ : ∃ S : Nat → Prop, Hid (∀ k, S k → w5.heap.size + 0 ≤ k ∧ k < w6.heap.size) ∧ Hid (OwnG w6 S (.slice Agr0_1 r0_1.length cgr0_1) r0_1) := ⟨fun k => w5.heap.size + 0 ≤ k ∧ k < w6.heap.size, Lib.hid (fun k hk => hk), Lib.hid (ogr0_1.mono (fun k hk hk2 => ⟨by have hk3 := hk; (try simp at hk3); omega, hk2⟩))⟩
  clear b hstep ogr0_1
  go_wp2_with fail
  refine (eqSpace_ok _ w6.heap.size r0_0 r0_1 _ _ ?_ ?_ ?_).mono ?_
  · exact (HOgr0_1.out.rd).below (B' := w6.heap.size) (by repeat' (first | exact Below.refl _ _ | apply Below.drew | apply Below.setCell | apply Below.alloc | (simp; done) | omega | (simp; omega))) (Nat.le_refl _)
  · exact (HOwr0_1.out.rd).below (B' := w6.heap.size) (by repeat' (first | exact Below.refl _ _ | apply Below.drew | apply Below.setCell | apply Below.alloc | (simp; done) | omega | (simp; omega))) (Nat.le_refl _)
  · (first | exact Nat.le_refl _ | (simp; done) | (simp; omega))
  rintro e w7 ⟨rfl, b⟩
  have hstep : Below w6.heap.size w6 w7 := Below.trans (by repeat' (first | exact Below.refl _ _ | apply Below.drew | apply Below.setCell | apply Below.alloc | (simp; done) | omega | (simp; omega))) (b.mono (by (first | exact Nat.le_refl _ | (simp; done) | (simp; omega))))
  replace hwr0_0 := (hstep.cell (p := ⟨w4.heap.size, 0, none⟩) hlhwr0_).trans hwr0_0
  replace hwr0_1 := (hstep.cell (p := ⟨w4.heap.size, 1, none⟩) hlhwr0_).trans hwr0_1
  replace hlhwr0_ : w4.heap.size < w7.heap.size := Nat.lt_of_lt_of_le hlhwr0_ hstep.size
  replace HOwr0_1 := Lib.hid (HOwr0_1.out.below hstep (fun _ _ hq => hq))
  replace HOxp2_0 := Lib.hid (HOxp2_0.out.below hstep (fun _ _ hq => hq))
  replace HOgr0_1 := Lib.hid (HOgr0_1.out.below hstep (fun _ _ hq => hq))
  replace HBN := Lib.hid (HBN.out.trans (hstep.mono HBN.out.size))
  have hzw7 : w6.heap.size ≤ w7.heap.size := hstep.size
  have hgr0_0 : w7.cell? ⟨w6.heap.size, 0, none⟩ = some (.int .i64 r0_0) := by have := b.cell (p := ⟨w6.heap.size, 0, none⟩) (by first | (simp; done) | (simp; omega)); simpa [go_sem] using this
  have hgr0_1 : w7.cell? ⟨w6.heap.size, 1, none⟩ = some (.slice Agr0_1 r0_1.length cgr0_1) := by have := b.cell (p := ⟨w6.heap.size, 1, none⟩) (by first | (simp; done) | (simp; omega)); simpa [go_sem] using this
  have hlhgr0_ : w6.heap.size < w7.heap.size := by have := b.size; simp at this; omega
  have hlhgr0_q := hlhgr0_
  clear b hstep 
  go_wp2_with fail
  refine (toG_any _ w.heap.size _ p2_0 ?_ ?_ hsp2_0).mono ?_
  · exact (HVp2_0.out.below HBN.out (Nat.le_refl _)).below (B' := w7.heap.size) (by repeat' (first | exact Below.refl _ _ | apply Below.drew | apply Below.setCell | apply Below.alloc | (simp; done) | omega | (simp; omega))) HBN.out.size
  · (have := HBN.out.size; first | exact this | (simp; done) | (simp; omega))
  rintro e w8 ⟨vyp2_0, rfl, b, oyp2_0⟩
  obtain ⟨Ayp2_0, cyp2_0, rfl⟩ := oyp2_0.len
  have hstep : Below w7.heap.size w7 w8 := Below.trans (by repeat' (first | exact Below.refl _ _ | apply Below.drew | apply Below.setCell | apply Below.alloc | (simp; done) | omega | (simp; omega))) (b.mono (by (first | exact Nat.le_refl _ | (simp; done) | (simp; omega))))
  replace hwr0_0 := (hstep.cell (p := ⟨w4.heap.size, 0, none⟩) hlhwr0_).trans hwr0_0
  replace hwr0_1 := (hstep.cell (p := ⟨w4.heap.size, 1, none⟩) hlhwr0_).trans hwr0_1
  replace hlhwr0_ : w4.heap.size < w8.heap.size := Nat.lt_of_lt_of_le hlhwr0_ hstep.size
  replace hgr0_0 := (hstep.cell (p := ⟨w6.heap.size, 0, none⟩) hlhgr0_).trans hgr0_0
  replace hgr0_1 := (hstep.cell (p := ⟨w6.heap.size, 1, none⟩) hlhgr0_).trans hgr0_1
  replace hlhgr0_ : w6.heap.size < w8.heap.size := Nat.lt_of_lt_of_le hlhgr0_ hstep.size
  replace HOwr0_1 := Lib.hid (HOwr0_1.out.below hstep (fun _ _ hq => hq))
  replace HOxp2_0 := Lib.hid (HOxp2_0.out.below hstep (fun _ _ hq => hq))
  replace HOgr0_1 := Lib.hid (HOgr0_1.out.below hstep (fun _ _ hq => hq))
  replace HBN := Lib.hid (HBN.out.trans (hstep.mono HBN.out.size))
  have hzw8 : w7.heap.size ≤ w8.heap.size := hstep.size
  obtain ⟨SHOyp2_0, HSHOyp2_0, HOyp2_0⟩ : ∃ S : Nat → Prop, Hid (∀ k, S k → w7.heap.size + 0 ≤ k ∧ k < w8.heap.size) ∧ Hid (OwnG w8 S (.slice Ayp2_0 p2_0.length cyp2_0) p2_0) := ⟨fun k => w7.heap.size + 0 ≤ k ∧ k < w8.heap.size, Lib.hid (fun k hk => hk), Lib.hid (oyp2_0.mono (fun k hk hk2 => ⟨by have hk3 := hk; (try simp at hk3); omega, hk2⟩))⟩
  clear b hstep oyp2_0
  go_wp2_with fail
  refine (eqG_any _ w8.heap.size _ _ p2_0 (HOxp2_0.out.rd) (HOyp2_0.out.rd)).mono ?_
  rintro e w9 ⟨rfl, b⟩
  have hstep : Below w8.heap.size w8 w9 := Below.trans (by repeat' (first | exact Below.refl _ _ | apply Below.drew | apply Below.setCell | apply Below.alloc | (simp; done) | omega | (simp; omega))) (b.mono (by (first | exact Nat.le_refl _ | (simp; done) | (simp; omega))))
  replace hwr0_0 := (hstep.cell (p := ⟨w4.heap.size, 0, none⟩) hlhwr0_).trans hwr0_0
  replace hwr0_1 := (hstep.cell (p := ⟨w4.heap.size, 1, none⟩) hlhwr0_).trans hwr0_1
  replace hlhwr0_ : w4.heap.size < w9.heap.size := Nat.lt_of_lt_of_le hlhwr0_ hstep.size
  replace hgr0_0 := (hstep.cell (p := ⟨w6.heap.size, 0, none⟩) hlhgr0_).trans hgr0_0
  replace hgr0_1 := (hstep.cell (p := ⟨w6.heap.size, 1, none⟩) hlhgr0_).trans hgr0_1
  replace hlhgr0_ : w6.heap.size < w9.heap.size := Nat.lt_of_lt_of_le hlhgr0_ hstep.size
  replace HOwr0_1 := Lib.hid (HOwr0_1.out.below hstep (fun _ _ hq => hq))
  replace HOxp2_0 := Lib.hid (HOxp2_0.out.below hstep (fun _ _ hq => hq))
  replace HOgr0_1 := Lib.hid (HOgr0_1.out.below hstep (fun _ _ hq => hq))
  replace HOyp2_0 := Lib.hid (HOyp2_0.out.below hstep (fun _ _ hq => hq))
  replace HBN := Lib.hid (HBN.out.trans (hstep.mono HBN.out.size))
  have hzw9 : w8.heap.size ≤ w9.heap.size := hstep.size
  clear b hstep 
  clear HOyp2_0 HSHOyp2_0
  have := cntG_le p2_0
  go_wp2_with fail
  refine (markedG_any _ SHOxp2_0 _ p2_0 1 (HOxp2_0.out) (by omega) (by omega)).mono ?_
  rintro e w10 ⟨h2, t, om0⟩
  replace hwr0_0 := (t.cellAt (p := ⟨w4.heap.size, 0, none⟩) hlhwr0_ (fun hk => by (first | (have := HSHOxp2_0.out _ hk; dsimp only at this; omega)))).trans hwr0_0
  replace hwr0_1 := (t.cellAt (p := ⟨w4.heap.size, 1, none⟩) hlhwr0_ (fun hk => by (first | (have := HSHOxp2_0.out _ hk; dsimp only at this; omega)))).trans hwr0_1
  replace hgr0_0 := (t.cellAt (p := ⟨w6.heap.size, 0, none⟩) hlhgr0_ (fun hk => by (first | (have := HSHOxp2_0.out _ hk; dsimp only at this; omega)))).trans hgr0_0
  replace hgr0_1 := (t.cellAt (p := ⟨w6.heap.size, 1, none⟩) hlhgr0_ (fun hk => by (first | (have := HSHOxp2_0.out _ hk; dsimp only at this; omega)))).trans hgr0_1
  replace hlhwr0_ : w4.heap.size < w10.heap.size := Nat.lt_of_lt_of_le hlhwr0_ t.size
  replace hlhgr0_ : w6.heap.size < w10.heap.size := Nat.lt_of_lt_of_le hlhgr0_ t.size
  replace HOwr0_1 := Lib.hid (HOwr0_1.out.blocks (w' := w10) (fun q hq hql => t.block q hql (fun hx => by (first | (have := HSHOxp2_0.out q hx; have := HSHOwr0_1.out q hq; omega)))))
  replace HOgr0_1 := Lib.hid (HOgr0_1.out.blocks (w' := w10) (fun q hq hql => t.block q hql (fun hx => by (first | (have := HSHOxp2_0.out q hx; have := HSHOgr0_1.out q hq; omega)))))
  replace HBN := Lib.hid (HBN.out.trans (t.below HBN.out.size (fun k hk => by (first | (have := HSHOxp2_0.out k hk; have := HBN.out.size; omega)))))
  have hzw10 : w9.heap.size ≤ w10.heap.size := t.size
  replace HOxp2_0 := Lib.hid om0
  clear t om0
  obtain ⟨kp2_, hkp2_a, hkp2_b, rfl⟩ : ∃ z : Int, 0 ≤ z ∧ z ≤ 1 + 1048576 * 1 ∧ e = .returned (.int .i64 z) := ⟨_, by omega, by omega, h2⟩
  clear h2
  clear HOxp2_0 HSHOxp2_0
  have hkneg : ¬ kp2_ < 0 := by omega
  go_wp2_with fail
  refine (eqSpace_ok _ w10.heap.size r0_0 r0_1 _ _ ?_ ?_ ?_).mono ?_
  · exact (HOgr0_1.out.rd).below (B' := w10.heap.size) (by repeat' (first | exact Below.refl _ _ | apply Below.drew | apply Below.setCell | apply Below.alloc | (simp; done) | omega | (simp; omega))) (Nat.le_refl _)
  · exact (HOwr0_1.out.rd).below (B' := w10.heap.size) (by repeat' (first | exact Below.refl _ _ | apply Below.drew | apply Below.setCell | apply Below.alloc | (simp; done) | omega | (simp; omega))) (Nat.le_refl _)
  · (first | exact Nat.le_refl _ | (simp; done) | (simp; omega))
  rintro e w11 ⟨rfl, b⟩
  have hstep : Below w10.heap.size w10 w11 := Below.trans (by repeat' (first | exact Below.refl _ _ | apply Below.drew | apply Below.setCell | apply Below.alloc | (simp; done) | omega | (simp; omega))) (b.mono (by (first | exact Nat.le_refl _ | (simp; done) | (simp; omega))))
  replace hwr0_0 := (hstep.cell (p := ⟨w4.heap.size, 0, none⟩) hlhwr0_).trans hwr0_0
  replace hwr0_1 := (hstep.cell (p := ⟨w4.heap.size, 1, none⟩) hlhwr0_).trans hwr0_1
  replace hlhwr0_ : w4.heap.size < w11.heap.size := Nat.lt_of_lt_of_le hlhwr0_ hstep.size
  replace hgr0_0 := (hstep.cell (p := ⟨w6.heap.size, 0, none⟩) hlhgr0_).trans hgr0_0
  replace hgr0_1 := (hstep.cell (p := ⟨w6.heap.size, 1, none⟩) hlhgr0_).trans hgr0_1
  replace hlhgr0_ : w6.heap.size < w11.heap.size := Nat.lt_of_lt_of_le hlhgr0_ hstep.size
  replace HOwr0_1 := Lib.hid (HOwr0_1.out.below hstep (fun _ _ hq => hq))
  replace HOgr0_1 := Lib.hid (HOgr0_1.out.below hstep (fun _ _ hq => hq))
  replace HBN := Lib.hid (HBN.out.trans (hstep.mono HBN.out.size))
  have hzw11 : w10.heap.size ≤ w11.heap.size := hstep.size
  clear b hstep 
  have hcbr0_1 : cntG r0_1 ≤ 1099511627776 := Nat.le_trans (cntG_le _) HOgr0_1.out.2
  go_wp2_with fail
  refine (markSpace_ok _ r0_0 r0_1 _ SHOgr0_1 1 (HOgr0_1.out) (by omega) (by omega)).mono ?_
  rintro e w12 ⟨h2, t, om0⟩
  replace hwr0_0 := (t.cellAt (p := ⟨w4.heap.size, 0, none⟩) hlhwr0_ (fun hk => by (first | (have := HSHOgr0_1.out _ hk; dsimp only at this; omega)))).trans hwr0_0
  replace hwr0_1 := (t.cellAt (p := ⟨w4.heap.size, 1, none⟩) hlhwr0_ (fun hk => by (first | (have := HSHOgr0_1.out _ hk; dsimp only at this; omega)))).trans hwr0_1
  replace hgr0_0 := (t.cellAt (p := ⟨w6.heap.size, 0, none⟩) hlhgr0_ (fun hk => by (first | (have := HSHOgr0_1.out _ hk; dsimp only at this; omega)))).trans hgr0_0
  replace hgr0_1 := (t.cellAt (p := ⟨w6.heap.size, 1, none⟩) hlhgr0_ (fun hk => by (first | (have := HSHOgr0_1.out _ hk; dsimp only at this; omega)))).trans hgr0_1
  replace hlhwr0_ : w4.heap.size < w12.heap.size := Nat.lt_of_lt_of_le hlhwr0_ t.size
  replace hlhgr0_ : w6.heap.size < w12.heap.size := Nat.lt_of_lt_of_le hlhgr0_ t.size
  replace HOwr0_1 := Lib.hid (HOwr0_1.out.blocks (w' := w12) (fun q hq hql => t.block q hql (fun hx => by (first | (have := HSHOgr0_1.out q hx; have := HSHOwr0_1.out q hq; omega)))))
  replace HBN := Lib.hid (HBN.out.trans (t.below HBN.out.size (fun k hk => by (first | (have := HSHOgr0_1.out k hk; have := HBN.out.size; omega)))))
  have hzw12 : w11.heap.size ≤ w12.heap.size := t.size
  replace HOgr0_1 := Lib.hid om0
  clear t om0
  obtain ⟨mr0_, HMr0_, hmr0_a, hmr0_b, rfl⟩ : ∃ z : Int, Hid (1 + ((cntG r0_1 : Nat) : Int) = z) ∧ 0 ≤ z ∧ z ≤ 1 + 1099511627776 * 1 ∧ e = .returned (.int .i64 z) := ⟨_, Lib.hid rfl, by omega, by omega, h2⟩
  clear h2
  have hmm : (mr0_ != mr0_) = false := by simp
  go_wp2_with fail
  refine (heldSpace_ok _ w12.heap.size r0_0 r0_1 _ 1 ?_ ?_ (by omega) (by omega)).mono ?_
  · exact (HOgr0_1.out.rd).below (B' := w12.heap.size) (by repeat' (first | exact Below.refl _ _ | apply Below.drew | apply Below.setCell | apply Below.alloc | (simp; done) | omega | (simp; omega))) (Nat.le_refl _)
  · (first | exact Nat.le_refl _ | (simp; done) | (simp; omega))
  rintro e w13 ⟨h2, b⟩
  have hstep : Below w12.heap.size w12 w13 := Below.trans (by repeat' (first | exact Below.refl _ _ | apply Below.drew | apply Below.setCell | apply Below.alloc | (simp; done) | omega | (simp; omega))) (b.mono (by (first | exact Nat.le_refl _ | (simp; done) | (simp; omega))))
  replace hwr0_0 := (hstep.cell (p := ⟨w4.heap.size, 0, none⟩) hlhwr0_).trans hwr0_0
  replace hwr0_1 := (hstep.cell (p := ⟨w4.heap.size, 1, none⟩) hlhwr0_).trans hwr0_1
  replace hlhwr0_ : w4.heap.size < w13.heap.size := Nat.lt_of_lt_of_le hlhwr0_ hstep.size
  replace hgr0_0 := (hstep.cell (p := ⟨w6.heap.size, 0, none⟩) hlhgr0_).trans hgr0_0
  replace hgr0_1 := (hstep.cell (p := ⟨w6.heap.size, 1, none⟩) hlhgr0_).trans hgr0_1
  replace hlhgr0_ : w6.heap.size < w13.heap.size := Nat.lt_of_lt_of_le hlhgr0_ hstep.size
  replace HOwr0_1 := Lib.hid (HOwr0_1.out.below hstep (fun _ _ hq => hq))
  replace HOgr0_1 := Lib.hid (HOgr0_1.out.below hstep (fun _ _ hq => hq))
  replace HBN := Lib.hid (HBN.out.trans (hstep.mono HBN.out.size))
  have hzw13 : w12.heap.size ≤ w13.heap.size := hstep.size
  clear b hstep 
  rw [HMr0_.out] at h2
  subst h2
  have hmneg : ¬ mr0_ < 0 := by omega
  go_wp2_with fail
  refine (toG_any _ w.heap.size _ p2_0 ?_ ?_ hsp2_0).mono ?_
  · exact (HVp2_0.out.below HBN.out (Nat.le_refl _)).below (B' := w13.heap.size) (by repeat' (first | exact Below.refl _ _ | apply Below.drew | apply Below.setCell | apply Below.alloc | (simp; done) | omega | (simp; omega))) HBN.out.size
  · (have := HBN.out.size; first | exact this | (simp; done) | (simp; omega))
  rintro e w14 ⟨vyp2_0, rfl, b, oyp2_0⟩
  obtain ⟨Ayp2_0, cyp2_0, rfl⟩ := oyp2_0.len
  have hstep : Below w13.heap.size w13 w14 := Below.trans (by repeat' (first | exact Below.refl _ _ | apply Below.drew | apply Below.setCell | apply Below.alloc | (simp; done) | omega | (simp; omega))) (b.mono (by (first | exact Nat.le_refl _ | (simp; done) | (simp; omega))))
  replace hwr0_0 := (hstep.cell (p := ⟨w4.heap.size, 0, none⟩) hlhwr0_).trans hwr0_0
  replace hwr0_1 := (hstep.cell (p := ⟨w4.heap.size, 1, none⟩) hlhwr0_).trans hwr0_1
  replace hlhwr0_ : w4.heap.size < w14.heap.size := Nat.lt_of_lt_of_le hlhwr0_ hstep.size
  replace hgr0_0 := (hstep.cell (p := ⟨w6.heap.size, 0, none⟩) hlhgr0_).trans hgr0_0
  replace hgr0_1 := (hstep.cell (p := ⟨w6.heap.size, 1, none⟩) hlhgr0_).trans hgr0_1
  replace hlhgr0_ : w6.heap.size < w14.heap.size := Nat.lt_of_lt_of_le hlhgr0_ hstep.size
  replace HOwr0_1 := Lib.hid (HOwr0_1.out.below hstep (fun _ _ hq => hq))
  replace HOgr0_1 := Lib.hid (HOgr0_1.out.below hstep (fun _ _ hq => hq))
  replace HBN := Lib.hid (HBN.out.trans (hstep.mono HBN.out.size))
  have hzw14 : w13.heap.size ≤ w14.heap.size := hstep.size
  obtain ⟨SHOyp2_0, HSHOyp2_0, HOyp2_0⟩ : ∃ S : Nat → Prop, Hid (∀ k, S k → w13.heap.size + 0 ≤ k ∧ k < w14.heap.size) ∧ Hid (OwnG w14 S (.slice Ayp2_0 p2_0.length cyp2_0) p2_0) := ⟨fun k => w13.heap.size + 0 ≤ k ∧ k < w14.heap.size, Lib.hid (fun k hk => hk), Lib.hid (oyp2_0.mono (fun k hk hk2 => ⟨by have hk3 := hk; (try simp at hk3); omega, hk2⟩))⟩
  clear b hstep oyp2_0
  go_wp2_with fail
  refine (HIM.out _ w14.heap.size _ ?_ ?_ ?_ hsp2_0).mono ?_
  · exact (HT.out.below HBN.out).below (by repeat' (first | exact Below.refl _ _ | apply Below.drew | apply Below.setCell | apply Below.alloc | (simp; done) | omega | (simp; omega)))
  · exact (HOyp2_0.out.rd).below (B' := w14.heap.size) (by repeat' (first | exact Below.refl _ _ | apply Below.drew | apply Below.setCell | apply Below.alloc | (simp; done) | omega | (simp; omega))) (Nat.le_refl _)
  · (first | exact Nat.le_refl _ | (simp; done) | (simp; omega))
  rintro e w15 ⟨vhr0_1, rfl, b, ohr0_1⟩
  obtain ⟨Ahr0_1, chr0_1, rfl⟩ := ohr0_1.len
  have hstep : Below w14.heap.size w14 w15 := Below.trans (by repeat' (first | exact Below.refl _ _ | apply Below.drew | apply Below.setCell | apply Below.alloc | (simp; done) | omega | (simp; omega))) (b.mono (by (first | exact Nat.le_refl _ | (simp; done) | (simp; omega))))
  replace hwr0_0 := (hstep.cell (p := ⟨w4.heap.size, 0, none⟩) hlhwr0_).trans hwr0_0
  replace hwr0_1 := (hstep.cell (p := ⟨w4.heap.size, 1, none⟩) hlhwr0_).trans hwr0_1
  replace hlhwr0_ : w4.heap.size < w15.heap.size := Nat.lt_of_lt_of_le hlhwr0_ hstep.size
  replace hgr0_0 := (hstep.cell (p := ⟨w6.heap.size, 0, none⟩) hlhgr0_).trans hgr0_0
  replace hgr0_1 := (hstep.cell (p := ⟨w6.heap.size, 1, none⟩) hlhgr0_).trans hgr0_1
  replace hlhgr0_ : w6.heap.size < w15.heap.size := Nat.lt_of_lt_of_le hlhgr0_ hstep.size
  replace HOwr0_1 := Lib.hid (HOwr0_1.out.below hstep (fun _ _ hq => hq))
  replace HOgr0_1 := Lib.hid (HOgr0_1.out.below hstep (fun _ _ hq => hq))
  replace HOyp2_0 := Lib.hid (HOyp2_0.out.below hstep (fun _ _ hq => hq))
  replace HBN := Lib.hid (HBN.out.trans (hstep.mono HBN.out.size))
  have hzw15 : w14.heap.size ≤ w15.heap.size := hstep.size
  obtain ⟨SHOhr0_1, HSHOhr0_1, HOhr0_1⟩ : ∃ S : Nat → Prop, Hid (∀ k, S k → w14.heap.size + 0 ≤ k ∧ k < w15.heap.size) ∧ Hid (OwnG w15 S (.slice Ahr0_1 r0_1.length chr0_1) r0_1) := ⟨fun k => w14.heap.size + 0 ≤ k ∧ k < w15.heap.size, Lib.hid (fun k hk => hk), Lib.hid (ohr0_1.mono (fun k hk hk2 => ⟨by have hk3 := hk; (try simp at hk3); omega, hk2⟩))⟩
  clear b hstep ohr0_1
  clear HOyp2_0 HSHOyp2_0
  go_wp2_with fail
  refine (eqSpace_ok _ w15.heap.size r0_0 r0_1 _ _ ?_ ?_ ?_).mono ?_
  · exact (HOhr0_1.out.rd).below (B' := w15.heap.size) (by repeat' (first | exact Below.refl _ _ | apply Below.drew | apply Below.setCell | apply Below.alloc | (simp; done) | omega | (simp; omega))) (Nat.le_refl _)
  · exact (HOwr0_1.out.rd).below (B' := w15.heap.size) (by repeat' (first | exact Below.refl _ _ | apply Below.drew | apply Below.setCell | apply Below.alloc | (simp; done) | omega | (simp; omega))) (Nat.le_refl _)
  · (first | exact Nat.le_refl _ | (simp; done) | (simp; omega))
  rintro e w16 ⟨rfl, b⟩
  have hstep : Below w15.heap.size w15 w16 := Below.trans (by repeat' (first | exact Below.refl _ _ | apply Below.drew | apply Below.setCell | apply Below.alloc | (simp; done) | omega | (simp; omega))) (b.mono (by (first | exact Nat.le_refl _ | (simp; done) | (simp; omega))))
  replace hwr0_0 := (hstep.cell (p := ⟨w4.heap.size, 0, none⟩) hlhwr0_).trans hwr0_0
  replace hwr0_1 := (hstep.cell (p := ⟨w4.heap.size, 1, none⟩) hlhwr0_).trans hwr0_1
  replace hlhwr0_ : w4.heap.size < w16.heap.size := Nat.lt_of_lt_of_le hlhwr0_ hstep.size
  replace hgr0_0 := (hstep.cell (p := ⟨w6.heap.size, 0, none⟩) hlhgr0_).trans hgr0_0
  replace hgr0_1 := (hstep.cell (p := ⟨w6.heap.size, 1, none⟩) hlhgr0_).trans hgr0_1
  replace hlhgr0_ : w6.heap.size < w16.heap.size := Nat.lt_of_lt_of_le hlhgr0_ hstep.size
  replace HOwr0_1 := Lib.hid (HOwr0_1.out.below hstep (fun _ _ hq => hq))
  replace HOgr0_1 := Lib.hid (HOgr0_1.out.below hstep (fun _ _ hq => hq))
  replace HOhr0_1 := Lib.hid (HOhr0_1.out.below hstep (fun _ _ hq => hq))
  replace HBN := Lib.hid (HBN.out.trans (hstep.mono HBN.out.size))
  have hzw16 : w15.heap.size ≤ w16.heap.size := hstep.size
  have hhr0_0 : w16.cell? ⟨w15.heap.size, 0, none⟩ = some (.int .i64 r0_0) := by have := b.cell (p := ⟨w15.heap.size, 0, none⟩) (by first | (simp; done) | (simp; omega)); simpa [go_sem] using this
  have hhr0_1 : w16.cell? ⟨w15.heap.size, 1, none⟩ = some (.slice Ahr0_1 r0_1.length chr0_1) := by have := b.cell (p := ⟨w15.heap.size, 1, none⟩) (by first | (simp; done) | (simp; omega)); simpa [go_sem] using this
  have hlhhr0_ : w15.heap.size < w16.heap.size := by have := b.size; simp at this; omega
  have hlhhr0_q := hlhhr0_
  clear b hstep 
  go_wp2_with fail
  refine (heldSpace_ok _ w16.heap.size r0_0 r0_1 _ 1 ?_ ?_ (by omega) (by omega)).mono ?_
  · exact (HOgr0_1.out.rd).below (B' := w16.heap.size) (by repeat' (first | exact Below.refl _ _ | apply Below.drew | apply Below.setCell | apply Below.alloc | (simp; done) | omega | (simp; omega))) (Nat.le_refl _)
  · (first | exact Nat.le_refl _ | (simp; done) | (simp; omega))
  rintro e w17 ⟨h2, b⟩
  have hstep : Below w16.heap.size w16 w17 := Below.trans (by repeat' (first | exact Below.refl _ _ | apply Below.drew | apply Below.setCell | apply Below.alloc | (simp; done) | omega | (simp; omega))) (b.mono (by (first | exact Nat.le_refl _ | (simp; done) | (simp; omega))))
  replace hwr0_0 := (hstep.cell (p := ⟨w4.heap.size, 0, none⟩) hlhwr0_).trans hwr0_0
  replace hwr0_1 := (hstep.cell (p := ⟨w4.heap.size, 1, none⟩) hlhwr0_).trans hwr0_1
  replace hlhwr0_ : w4.heap.size < w17.heap.size := Nat.lt_of_lt_of_le hlhwr0_ hstep.size
  replace hgr0_0 := (hstep.cell (p := ⟨w6.heap.size, 0, none⟩) hlhgr0_).trans hgr0_0
  replace hgr0_1 := (hstep.cell (p := ⟨w6.heap.size, 1, none⟩) hlhgr0_).trans hgr0_1
  replace hlhgr0_ : w6.heap.size < w17.heap.size := Nat.lt_of_lt_of_le hlhgr0_ hstep.size
  replace hhr0_0 := (hstep.cell (p := ⟨w15.heap.size, 0, none⟩) hlhhr0_).trans hhr0_0
  replace hhr0_1 := (hstep.cell (p := ⟨w15.heap.size, 1, none⟩) hlhhr0_).trans hhr0_1
  replace hlhhr0_ : w15.heap.size < w17.heap.size := Nat.lt_of_lt_of_le hlhhr0_ hstep.size
  replace HOwr0_1 := Lib.hid (HOwr0_1.out.below hstep (fun _ _ hq => hq))
  replace HOgr0_1 := Lib.hid (HOgr0_1.out.below hstep (fun _ _ hq => hq))
  replace HOhr0_1 := Lib.hid (HOhr0_1.out.below hstep (fun _ _ hq => hq))
  replace HBN := Lib.hid (HBN.out.trans (hstep.mono HBN.out.size))
  have hzw17 : w16.heap.size ≤ w17.heap.size := hstep.size
  clear b hstep 
  rw [HMr0_.out] at h2
  subst h2
  have hmneg : ¬ mr0_ < 0 := by omega
  go_wp2
  go_ret
  exact ⟨rfl, HBN.out⟩
end Go.Proofs.YthppfooomdlonaaDoor
