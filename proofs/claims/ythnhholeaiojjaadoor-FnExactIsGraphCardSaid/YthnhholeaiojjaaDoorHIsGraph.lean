/- The harness of the law FnExactIsGraph: it returns true if both functions return what they should. -/
import Derived.Test.YthnhholeaiojjaaDoorTGraph
import Derived.Test.YthnhholeaiojjaaDoorRetB
import Derived.Test.YthnhholeaiojjaaDoorFdWalks
import Derived.Deep.Cut
import Derived.Deep.QuietTactic
namespace Go.Proofs.YthnhholeaiojjaaDoor
set_option maxRecDepth 100000
open Go Go.RowKit Go.Deep

set_option maxHeartbeats 6400000 in
set_option maxRecDepth 100000 in
theorem harness_IsGraph (p0_0 : Int) (p1_0 : Int) (p1_1 : List Ed) (p1_2 : List Int) (p1_3 : List Int) (up1_1 : Value) (up1_2 : Value) (up1_3 : Value) (w : World) (r0_0 : Bool) (ht : Tab w) (hvp1_1 : LfE w w.heap.size up1_1 p1_1) (hvp1_2 : LfR w w.heap.size up1_2 p1_2) (hvp1_3 : LfR w w.heap.size up1_3 p1_3) 
    (hspec : ∀ (w : World) (B : Nat) (vp1_1 : Value) (vp1_2 : Value) (vp1_3 : Value) , LfE w B vp1_1 p1_1 → LfR w B vp1_2 p1_2 → LfR w B vp1_3 p1_3 → B ≤ w.heap.size → szE p1_1 ≤ 1048576 → szR p1_2 ≤ 1048576 → szR p1_3 ≤ 1048576 → Calls Tryd.prog 5 #[.int .i64 p0_0, .agg #[.int .i64 p1_0, vp1_1, vp1_2, vp1_3]] w (SRetB w r0_0))
    (himpl : ∀ (w : World) (B : Nat) (vp1_1 : Value) (vp1_2 : Value) (vp1_3 : Value) , Tab w → LfE w B vp1_1 p1_1 → LfR w B vp1_2 p1_2 → LfR w B vp1_3 p1_3 → B ≤ w.heap.size → szE p1_1 ≤ 1048576 → szR p1_2 ≤ 1048576 → szR p1_3 ≤ 1048576 → Calls Tryd.prog 7 #[.int .i64 p0_0, .agg #[.int .i64 p1_0, vp1_1, vp1_2, vp1_3]] w (IRetB w r0_0)) :
    Calls Tryd.prog 3 #[.int .i64 p0_0, .agg #[.int .i64 p1_0, up1_1, up1_2, up1_3]] w fun e w' => e = .returned (.bool true) ∧ Below w.heap.size w w' := by
  have HBN := Lib.hid (Below.refl w.heap.size w)
  have HT := Lib.hid ht
  have HSP := Lib.hid hspec
  have HIM := Lib.hid himpl
  clear ht hspec himpl
  obtain ⟨Aup1_1, cup1_1, rfl⟩ := hvp1_1.len
  have HVp1_1 := Lib.hid hvp1_1
  clear hvp1_1
  obtain ⟨Aup1_2, cup1_2, rfl⟩ := hvp1_2.len
  have HVp1_2 := Lib.hid hvp1_2
  clear hvp1_2
  obtain ⟨Aup1_3, cup1_3, rfl⟩ := hvp1_3.len
  have HVp1_3 := Lib.hid hvp1_3
  clear hvp1_3
  have hbbr0_0 : (r0_0 != r0_0) = false := by simp
  go_enter Tryd.func3, Tryd.ntmps3
  go_wp2_with fail
  refine (szGraph_ok _ w.heap.size p1_0 p1_1 p1_2 p1_3 _ _ _ 1048576 ?_ ?_ ?_ ?_ (by omega) (by omega)).mono ?_
  · exact (HVp1_1.out.below HBN.out (Nat.le_refl _)).below (B' := w.heap.size) (by repeat' (first | exact Below.refl _ _ | apply Below.drew | apply Below.setCell | apply Below.alloc | (simp; done) | omega | (simp; omega))) HBN.out.size
  · exact (HVp1_2.out.below HBN.out (Nat.le_refl _)).below (B' := w.heap.size) (by repeat' (first | exact Below.refl _ _ | apply Below.drew | apply Below.setCell | apply Below.alloc | (simp; done) | omega | (simp; omega))) HBN.out.size
  · exact (HVp1_3.out.below HBN.out (Nat.le_refl _)).below (B' := w.heap.size) (by repeat' (first | exact Below.refl _ _ | apply Below.drew | apply Below.setCell | apply Below.alloc | (simp; done) | omega | (simp; omega))) HBN.out.size
  · (have := HBN.out.size; first | exact this | (simp; done) | (simp; omega))
  rintro e w2 ⟨b, h2⟩
  have hstep : Below w.heap.size w w2 := Below.trans (by repeat' (first | exact Below.refl _ _ | apply Below.drew | apply Below.setCell | apply Below.alloc | (simp; done) | omega | (simp; omega))) (b.mono (by (first | exact Nat.le_refl _ | (simp; done) | (simp; omega))))
  replace HBN := Lib.hid (HBN.out.trans (hstep.mono HBN.out.size))
  have hzw2 : w.heap.size ≤ w2.heap.size := hstep.size
  have hpp1_0 : w2.cell? ⟨w.heap.size, 0, none⟩ = some (.int .i64 p1_0) := by have := b.cell (p := ⟨w.heap.size, 0, none⟩) (by first | (simp; done) | (simp; omega)); simpa [go_sem] using this
  have hpp1_1 : w2.cell? ⟨w.heap.size, 1, none⟩ = some (.slice Aup1_1 p1_1.length cup1_1) := by have := b.cell (p := ⟨w.heap.size, 1, none⟩) (by first | (simp; done) | (simp; omega)); simpa [go_sem] using this
  have hpp1_2 : w2.cell? ⟨w.heap.size, 2, none⟩ = some (.slice Aup1_2 p1_2.length cup1_2) := by have := b.cell (p := ⟨w.heap.size, 2, none⟩) (by first | (simp; done) | (simp; omega)); simpa [go_sem] using this
  have hpp1_3 : w2.cell? ⟨w.heap.size, 3, none⟩ = some (.slice Aup1_3 p1_3.length cup1_3) := by have := b.cell (p := ⟨w.heap.size, 3, none⟩) (by first | (simp; done) | (simp; omega)); simpa [go_sem] using this
  have hlhpp1_ : w.heap.size < w2.heap.size := by have := b.size; simp at this; omega
  have hlhpp1_q := hlhpp1_
  clear b hstep 
  rcases h2 with rfl | ⟨hle, h2⟩
  · go_wp2
    go_ret
    exact ⟨rfl, HBN.out⟩
  obtain ⟨zp1_, hzp1_a, hzp1_b, rfl⟩ : ∃ z : Int, 0 ≤ z ∧ z ≤ 1048576 ∧ e = .returned (.int .i64 z) := ⟨_, by omega, by omega, h2⟩
  have hsp1_1 : szE p1_1 ≤ 1048576 := by omega
  have hsp1_2 : szR p1_2 ≤ 1048576 := by omega
  have hsp1_3 : szR p1_3 ≤ 1048576 := by omega
  clear h2 hle
  go_wp2_with fail
  refine (toGraph_ok _ w.heap.size p1_0 p1_1 p1_2 p1_3 _ _ _ ?_ ?_ ?_ ?_ hsp1_1 hsp1_2 hsp1_3).mono ?_
  · exact (HVp1_1.out.below HBN.out (Nat.le_refl _)).below (B' := w2.heap.size) (by repeat' (first | exact Below.refl _ _ | apply Below.drew | apply Below.setCell | apply Below.alloc | (simp; done) | omega | (simp; omega))) HBN.out.size
  · exact (HVp1_2.out.below HBN.out (Nat.le_refl _)).below (B' := w2.heap.size) (by repeat' (first | exact Below.refl _ _ | apply Below.drew | apply Below.setCell | apply Below.alloc | (simp; done) | omega | (simp; omega))) HBN.out.size
  · exact (HVp1_3.out.below HBN.out (Nat.le_refl _)).below (B' := w2.heap.size) (by repeat' (first | exact Below.refl _ _ | apply Below.drew | apply Below.setCell | apply Below.alloc | (simp; done) | omega | (simp; omega))) HBN.out.size
  · (have := HBN.out.size; first | exact this | (simp; done) | (simp; omega))
  rintro e w3 ⟨vap1_1, vap1_2, vap1_3, Tap1_1, Tap1_2, Tap1_3, rfl, b, loap1_1, loap1_2, loap1_3, disap1_1_ap1_2, disap1_1_ap1_3, disap1_2_ap1_3, oap1_1, oap1_2, oap1_3⟩
  obtain ⟨Aap1_1, cap1_1, rfl⟩ := oap1_1.len
  obtain ⟨Aap1_2, cap1_2, rfl⟩ := oap1_2.len
  obtain ⟨Aap1_3, cap1_3, rfl⟩ := oap1_3.len
  have hstep : Below w2.heap.size w2 w3 := Below.trans (by repeat' (first | exact Below.refl _ _ | apply Below.drew | apply Below.setCell | apply Below.alloc | (simp; done) | omega | (simp; omega))) (b.mono (by (first | exact Nat.le_refl _ | (simp; done) | (simp; omega))))
  replace hpp1_0 := (hstep.cell (p := ⟨w.heap.size, 0, none⟩) hlhpp1_).trans hpp1_0
  replace hpp1_1 := (hstep.cell (p := ⟨w.heap.size, 1, none⟩) hlhpp1_).trans hpp1_1
  replace hpp1_2 := (hstep.cell (p := ⟨w.heap.size, 2, none⟩) hlhpp1_).trans hpp1_2
  replace hpp1_3 := (hstep.cell (p := ⟨w.heap.size, 3, none⟩) hlhpp1_).trans hpp1_3
  replace hlhpp1_ : w.heap.size < w3.heap.size := Nat.lt_of_lt_of_le hlhpp1_ hstep.size
  replace HBN := Lib.hid (HBN.out.trans (hstep.mono HBN.out.size))
  have hzw3 : w2.heap.size ≤ w3.heap.size := hstep.size
  obtain ⟨SHOap1_1, HSHOap1_1, HTHOap1_1, HOap1_1⟩ : ∃ S : Nat → Prop, Hid (∀ k, S k → w2.heap.size + 0 ≤ k ∧ k < w3.heap.size) ∧ Hid (∀ k, S k → Tap1_1 k) ∧ Hid (OwnE w3 S (.slice Aap1_1 p1_1.length cap1_1) p1_1) := ⟨fun k => Tap1_1 k ∧ k < w3.heap.size, Lib.hid (fun k hk => ⟨by have hk3 := loap1_1 k hk.1; (try simp at hk3); omega, hk.2⟩), Lib.hid (fun k hk => hk.1), Lib.hid (oap1_1.mono (fun k hk hk2 => ⟨hk, hk2⟩))⟩
  obtain ⟨SHOap1_2, HSHOap1_2, HTHOap1_2, HOap1_2⟩ : ∃ S : Nat → Prop, Hid (∀ k, S k → w2.heap.size + 0 ≤ k ∧ k < w3.heap.size) ∧ Hid (∀ k, S k → Tap1_2 k) ∧ Hid (OwnR w3 S (.slice Aap1_2 p1_2.length cap1_2) p1_2) := ⟨fun k => Tap1_2 k ∧ k < w3.heap.size, Lib.hid (fun k hk => ⟨by have hk3 := loap1_2 k hk.1; (try simp at hk3); omega, hk.2⟩), Lib.hid (fun k hk => hk.1), Lib.hid (oap1_2.mono (fun k hk hk2 => ⟨hk, hk2⟩))⟩
  obtain ⟨SHOap1_3, HSHOap1_3, HTHOap1_3, HOap1_3⟩ : ∃ S : Nat → Prop, Hid (∀ k, S k → w2.heap.size + 0 ≤ k ∧ k < w3.heap.size) ∧ Hid (∀ k, S k → Tap1_3 k) ∧ Hid (OwnR w3 S (.slice Aap1_3 p1_3.length cap1_3) p1_3) := ⟨fun k => Tap1_3 k ∧ k < w3.heap.size, Lib.hid (fun k hk => ⟨by have hk3 := loap1_3 k hk.1; (try simp at hk3); omega, hk.2⟩), Lib.hid (fun k hk => hk.1), Lib.hid (oap1_3.mono (fun k hk hk2 => ⟨hk, hk2⟩))⟩
  have HDap1_1_ap1_2 := Lib.hid (show ∀ k, SHOap1_1 k → SHOap1_2 k → False from fun k h1 h2 => disap1_1_ap1_2 k (HTHOap1_1.out k h1) (HTHOap1_2.out k h2))
  have HDap1_1_ap1_3 := Lib.hid (show ∀ k, SHOap1_1 k → SHOap1_3 k → False from fun k h1 h2 => disap1_1_ap1_3 k (HTHOap1_1.out k h1) (HTHOap1_3.out k h2))
  have HDap1_2_ap1_3 := Lib.hid (show ∀ k, SHOap1_2 k → SHOap1_3 k → False from fun k h1 h2 => disap1_2_ap1_3 k (HTHOap1_2.out k h1) (HTHOap1_3.out k h2))
  clear HTHOap1_1 HTHOap1_2 HTHOap1_3
  clear b hstep oap1_1 oap1_2 oap1_3 loap1_1 loap1_2 loap1_3 disap1_1_ap1_2 disap1_1_ap1_3 disap1_2_ap1_3
  go_wp2_with fail
  refine (HSP.out _ w3.heap.size _ _ _ ?_ ?_ ?_ ?_ hsp1_1 hsp1_2 hsp1_3).mono ?_
  · exact (HOap1_1.out.rd).below (B' := w3.heap.size) (by repeat' (first | exact Below.refl _ _ | apply Below.drew | apply Below.setCell | apply Below.alloc | (simp; done) | omega | (simp; omega))) (Nat.le_refl _)
  · exact (HOap1_2.out.rd).below (B' := w3.heap.size) (by repeat' (first | exact Below.refl _ _ | apply Below.drew | apply Below.setCell | apply Below.alloc | (simp; done) | omega | (simp; omega))) (Nat.le_refl _)
  · exact (HOap1_3.out.rd).below (B' := w3.heap.size) (by repeat' (first | exact Below.refl _ _ | apply Below.drew | apply Below.setCell | apply Below.alloc | (simp; done) | omega | (simp; omega))) (Nat.le_refl _)
  · (first | exact Nat.le_refl _ | (simp; done) | (simp; omega))
  rintro e w4 ⟨rfl, b⟩
  have hstep : Below w3.heap.size w3 w4 := Below.trans (by repeat' (first | exact Below.refl _ _ | apply Below.drew | apply Below.setCell | apply Below.alloc | (simp; done) | omega | (simp; omega))) (b.mono (by (first | exact Nat.le_refl _ | (simp; done) | (simp; omega))))
  replace hpp1_0 := (hstep.cell (p := ⟨w.heap.size, 0, none⟩) hlhpp1_).trans hpp1_0
  replace hpp1_1 := (hstep.cell (p := ⟨w.heap.size, 1, none⟩) hlhpp1_).trans hpp1_1
  replace hpp1_2 := (hstep.cell (p := ⟨w.heap.size, 2, none⟩) hlhpp1_).trans hpp1_2
  replace hpp1_3 := (hstep.cell (p := ⟨w.heap.size, 3, none⟩) hlhpp1_).trans hpp1_3
  replace hlhpp1_ : w.heap.size < w4.heap.size := Nat.lt_of_lt_of_le hlhpp1_ hstep.size
  replace HOap1_1 := Lib.hid (HOap1_1.out.below hstep (fun _ _ hq => hq))
  replace HOap1_2 := Lib.hid (HOap1_2.out.below hstep (fun _ _ hq => hq))
  replace HOap1_3 := Lib.hid (HOap1_3.out.below hstep (fun _ _ hq => hq))
  replace HBN := Lib.hid (HBN.out.trans (hstep.mono HBN.out.size))
  have hzw4 : w3.heap.size ≤ w4.heap.size := hstep.size
  clear b hstep 
  clear HOap1_1 HSHOap1_1
  clear HOap1_2 HSHOap1_2
  clear HOap1_3 HSHOap1_3
  go_wp2_with fail
  refine (toGraph_ok _ w.heap.size p1_0 p1_1 p1_2 p1_3 _ _ _ ?_ ?_ ?_ ?_ hsp1_1 hsp1_2 hsp1_3).mono ?_
  · exact (HVp1_1.out.below HBN.out (Nat.le_refl _)).below (B' := w4.heap.size) (by repeat' (first | exact Below.refl _ _ | apply Below.drew | apply Below.setCell | apply Below.alloc | (simp; done) | omega | (simp; omega))) HBN.out.size
  · exact (HVp1_2.out.below HBN.out (Nat.le_refl _)).below (B' := w4.heap.size) (by repeat' (first | exact Below.refl _ _ | apply Below.drew | apply Below.setCell | apply Below.alloc | (simp; done) | omega | (simp; omega))) HBN.out.size
  · exact (HVp1_3.out.below HBN.out (Nat.le_refl _)).below (B' := w4.heap.size) (by repeat' (first | exact Below.refl _ _ | apply Below.drew | apply Below.setCell | apply Below.alloc | (simp; done) | omega | (simp; omega))) HBN.out.size
  · (have := HBN.out.size; first | exact this | (simp; done) | (simp; omega))
  rintro e w5 ⟨vxp1_1, vxp1_2, vxp1_3, Txp1_1, Txp1_2, Txp1_3, rfl, b, loxp1_1, loxp1_2, loxp1_3, disxp1_1_xp1_2, disxp1_1_xp1_3, disxp1_2_xp1_3, oxp1_1, oxp1_2, oxp1_3⟩
  obtain ⟨Axp1_1, cxp1_1, rfl⟩ := oxp1_1.len
  obtain ⟨Axp1_2, cxp1_2, rfl⟩ := oxp1_2.len
  obtain ⟨Axp1_3, cxp1_3, rfl⟩ := oxp1_3.len
  have hstep : Below w4.heap.size w4 w5 := Below.trans (by repeat' (first | exact Below.refl _ _ | apply Below.drew | apply Below.setCell | apply Below.alloc | (simp; done) | omega | (simp; omega))) (b.mono (by (first | exact Nat.le_refl _ | (simp; done) | (simp; omega))))
  replace hpp1_0 := (hstep.cell (p := ⟨w.heap.size, 0, none⟩) hlhpp1_).trans hpp1_0
  replace hpp1_1 := (hstep.cell (p := ⟨w.heap.size, 1, none⟩) hlhpp1_).trans hpp1_1
  replace hpp1_2 := (hstep.cell (p := ⟨w.heap.size, 2, none⟩) hlhpp1_).trans hpp1_2
  replace hpp1_3 := (hstep.cell (p := ⟨w.heap.size, 3, none⟩) hlhpp1_).trans hpp1_3
  replace hlhpp1_ : w.heap.size < w5.heap.size := Nat.lt_of_lt_of_le hlhpp1_ hstep.size
  replace HBN := Lib.hid (HBN.out.trans (hstep.mono HBN.out.size))
  have hzw5 : w4.heap.size ≤ w5.heap.size := hstep.size
  obtain ⟨SHOxp1_1, HSHOxp1_1, HTHOxp1_1, HOxp1_1⟩ : ∃ S : Nat → Prop, Hid (∀ k, S k → w4.heap.size + 0 ≤ k ∧ k < w5.heap.size) ∧ Hid (∀ k, S k → Txp1_1 k) ∧ Hid (OwnE w5 S (.slice Axp1_1 p1_1.length cxp1_1) p1_1) := ⟨fun k => Txp1_1 k ∧ k < w5.heap.size, Lib.hid (fun k hk => ⟨by have hk3 := loxp1_1 k hk.1; (try simp at hk3); omega, hk.2⟩), Lib.hid (fun k hk => hk.1), Lib.hid (oxp1_1.mono (fun k hk hk2 => ⟨hk, hk2⟩))⟩
  obtain ⟨SHOxp1_2, HSHOxp1_2, HTHOxp1_2, HOxp1_2⟩ : ∃ S : Nat → Prop, Hid (∀ k, S k → w4.heap.size + 0 ≤ k ∧ k < w5.heap.size) ∧ Hid (∀ k, S k → Txp1_2 k) ∧ Hid (OwnR w5 S (.slice Axp1_2 p1_2.length cxp1_2) p1_2) := ⟨fun k => Txp1_2 k ∧ k < w5.heap.size, Lib.hid (fun k hk => ⟨by have hk3 := loxp1_2 k hk.1; (try simp at hk3); omega, hk.2⟩), Lib.hid (fun k hk => hk.1), Lib.hid (oxp1_2.mono (fun k hk hk2 => ⟨hk, hk2⟩))⟩
  obtain ⟨SHOxp1_3, HSHOxp1_3, HTHOxp1_3, HOxp1_3⟩ : ∃ S : Nat → Prop, Hid (∀ k, S k → w4.heap.size + 0 ≤ k ∧ k < w5.heap.size) ∧ Hid (∀ k, S k → Txp1_3 k) ∧ Hid (OwnR w5 S (.slice Axp1_3 p1_3.length cxp1_3) p1_3) := ⟨fun k => Txp1_3 k ∧ k < w5.heap.size, Lib.hid (fun k hk => ⟨by have hk3 := loxp1_3 k hk.1; (try simp at hk3); omega, hk.2⟩), Lib.hid (fun k hk => hk.1), Lib.hid (oxp1_3.mono (fun k hk hk2 => ⟨hk, hk2⟩))⟩
  have HDxp1_1_xp1_2 := Lib.hid (show ∀ k, SHOxp1_1 k → SHOxp1_2 k → False from fun k h1 h2 => disxp1_1_xp1_2 k (HTHOxp1_1.out k h1) (HTHOxp1_2.out k h2))
  have HDxp1_1_xp1_3 := Lib.hid (show ∀ k, SHOxp1_1 k → SHOxp1_3 k → False from fun k h1 h2 => disxp1_1_xp1_3 k (HTHOxp1_1.out k h1) (HTHOxp1_3.out k h2))
  have HDxp1_2_xp1_3 := Lib.hid (show ∀ k, SHOxp1_2 k → SHOxp1_3 k → False from fun k h1 h2 => disxp1_2_xp1_3 k (HTHOxp1_2.out k h1) (HTHOxp1_3.out k h2))
  clear HTHOxp1_1 HTHOxp1_2 HTHOxp1_3
  clear b hstep oxp1_1 oxp1_2 oxp1_3 loxp1_1 loxp1_2 loxp1_3 disxp1_1_xp1_2 disxp1_1_xp1_3 disxp1_2_xp1_3
  go_wp2_with fail
  refine (HIM.out _ w5.heap.size _ _ _ ?_ ?_ ?_ ?_ ?_ hsp1_1 hsp1_2 hsp1_3).mono ?_
  · exact (HT.out.below HBN.out).below (by repeat' (first | exact Below.refl _ _ | apply Below.drew | apply Below.setCell | apply Below.alloc | (simp; done) | omega | (simp; omega)))
  · exact (HOxp1_1.out.rd).below (B' := w5.heap.size) (by repeat' (first | exact Below.refl _ _ | apply Below.drew | apply Below.setCell | apply Below.alloc | (simp; done) | omega | (simp; omega))) (Nat.le_refl _)
  · exact (HOxp1_2.out.rd).below (B' := w5.heap.size) (by repeat' (first | exact Below.refl _ _ | apply Below.drew | apply Below.setCell | apply Below.alloc | (simp; done) | omega | (simp; omega))) (Nat.le_refl _)
  · exact (HOxp1_3.out.rd).below (B' := w5.heap.size) (by repeat' (first | exact Below.refl _ _ | apply Below.drew | apply Below.setCell | apply Below.alloc | (simp; done) | omega | (simp; omega))) (Nat.le_refl _)
  · (first | exact Nat.le_refl _ | (simp; done) | (simp; omega))
  rintro e w6 ⟨rfl, b⟩
  have hstep : Below w5.heap.size w5 w6 := Below.trans (by repeat' (first | exact Below.refl _ _ | apply Below.drew | apply Below.setCell | apply Below.alloc | (simp; done) | omega | (simp; omega))) (b.mono (by (first | exact Nat.le_refl _ | (simp; done) | (simp; omega))))
  replace hpp1_0 := (hstep.cell (p := ⟨w.heap.size, 0, none⟩) hlhpp1_).trans hpp1_0
  replace hpp1_1 := (hstep.cell (p := ⟨w.heap.size, 1, none⟩) hlhpp1_).trans hpp1_1
  replace hpp1_2 := (hstep.cell (p := ⟨w.heap.size, 2, none⟩) hlhpp1_).trans hpp1_2
  replace hpp1_3 := (hstep.cell (p := ⟨w.heap.size, 3, none⟩) hlhpp1_).trans hpp1_3
  replace hlhpp1_ : w.heap.size < w6.heap.size := Nat.lt_of_lt_of_le hlhpp1_ hstep.size
  replace HOxp1_1 := Lib.hid (HOxp1_1.out.below hstep (fun _ _ hq => hq))
  replace HOxp1_2 := Lib.hid (HOxp1_2.out.below hstep (fun _ _ hq => hq))
  replace HOxp1_3 := Lib.hid (HOxp1_3.out.below hstep (fun _ _ hq => hq))
  replace HBN := Lib.hid (HBN.out.trans (hstep.mono HBN.out.size))
  have hzw6 : w5.heap.size ≤ w6.heap.size := hstep.size
  have hxp1_0 : w6.cell? ⟨w5.heap.size, 0, none⟩ = some (.int .i64 p1_0) := by have := b.cell (p := ⟨w5.heap.size, 0, none⟩) (by first | (simp; done) | (simp; omega)); simpa [go_sem] using this
  have hxp1_1 : w6.cell? ⟨w5.heap.size, 1, none⟩ = some (.slice Axp1_1 p1_1.length cxp1_1) := by have := b.cell (p := ⟨w5.heap.size, 1, none⟩) (by first | (simp; done) | (simp; omega)); simpa [go_sem] using this
  have hxp1_2 : w6.cell? ⟨w5.heap.size, 2, none⟩ = some (.slice Axp1_2 p1_2.length cxp1_2) := by have := b.cell (p := ⟨w5.heap.size, 2, none⟩) (by first | (simp; done) | (simp; omega)); simpa [go_sem] using this
  have hxp1_3 : w6.cell? ⟨w5.heap.size, 3, none⟩ = some (.slice Axp1_3 p1_3.length cxp1_3) := by have := b.cell (p := ⟨w5.heap.size, 3, none⟩) (by first | (simp; done) | (simp; omega)); simpa [go_sem] using this
  have hlhxp1_ : w5.heap.size < w6.heap.size := by have := b.size; simp at this; omega
  have hlhxp1_q := hlhxp1_
  clear b hstep 
  have HD : Hid (Below w6.heap.size w6 w6.drew) := Lib.hid (Below.refl _ _).drew
  have HV61 := Lib.hid ((HVp1_1.out.below HBN.out (Nat.le_refl _)).mono HBN.out.size)
  have HG61 := Lib.hid (HOxp1_1.out.rd)
  have HV62 := Lib.hid ((HVp1_2.out.below HBN.out (Nat.le_refl _)).mono HBN.out.size)
  have HG62 := Lib.hid (HOxp1_2.out.rd)
  have HV63 := Lib.hid ((HVp1_3.out.below HBN.out (Nat.le_refl _)).mono HBN.out.size)
  have HG63 := Lib.hid (HOxp1_3.out.rd)
  have HELD : Hid (∀ w' : World, Hid (Below w6.heap.size w6 w') → w'.cell? ⟨w.heap.size, 0, none⟩ = some (.int .i64 p1_0) ∧ w'.cell? ⟨w.heap.size, 1, none⟩ = some (.slice Aup1_1 p1_1.length cup1_1) ∧ w'.cell? ⟨w.heap.size, 2, none⟩ = some (.slice Aup1_2 p1_2.length cup1_2) ∧ w'.cell? ⟨w.heap.size, 3, none⟩ = some (.slice Aup1_3 p1_3.length cup1_3) ∧ w'.cell? ⟨w5.heap.size, 0, none⟩ = some (.int .i64 p1_0) ∧ w'.cell? ⟨w5.heap.size, 1, none⟩ = some (.slice Axp1_1 p1_1.length cxp1_1) ∧ w'.cell? ⟨w5.heap.size, 2, none⟩ = some (.slice Axp1_2 p1_2.length cxp1_2) ∧ w'.cell? ⟨w5.heap.size, 3, none⟩ = some (.slice Axp1_3 p1_3.length cxp1_3) ∧ Hid (Below w6.heap.size w6 w')) := Lib.hid (fun w' H => ⟨(H.out.cell (p := ⟨w.heap.size, 0, none⟩) hlhpp1_).trans hpp1_0, (H.out.cell (p := ⟨w.heap.size, 1, none⟩) hlhpp1_).trans hpp1_1, (H.out.cell (p := ⟨w.heap.size, 2, none⟩) hlhpp1_).trans hpp1_2, (H.out.cell (p := ⟨w.heap.size, 3, none⟩) hlhpp1_).trans hpp1_3, (H.out.cell (p := ⟨w5.heap.size, 0, none⟩) hlhxp1_).trans hxp1_0, (H.out.cell (p := ⟨w5.heap.size, 1, none⟩) hlhxp1_).trans hxp1_1, (H.out.cell (p := ⟨w5.heap.size, 2, none⟩) hlhxp1_).trans hxp1_2, (H.out.cell (p := ⟨w5.heap.size, 3, none⟩) hlhxp1_).trans hxp1_3, H⟩)
  go_wp2_with fail
  go_region_held3 (fun w' => w'.cell? ⟨w.heap.size, 0, none⟩ = some (.int .i64 p1_0) ∧ w'.cell? ⟨w.heap.size, 1, none⟩ = some (.slice Aup1_1 p1_1.length cup1_1) ∧ w'.cell? ⟨w.heap.size, 2, none⟩ = some (.slice Aup1_2 p1_2.length cup1_2) ∧ w'.cell? ⟨w.heap.size, 3, none⟩ = some (.slice Aup1_3 p1_3.length cup1_3) ∧ w'.cell? ⟨w5.heap.size, 0, none⟩ = some (.int .i64 p1_0) ∧ w'.cell? ⟨w5.heap.size, 1, none⟩ = some (.slice Axp1_1 p1_1.length cxp1_1) ∧ w'.cell? ⟨w5.heap.size, 2, none⟩ = some (.slice Axp1_2 p1_2.length cxp1_2) ∧ w'.cell? ⟨w5.heap.size, 3, none⟩ = some (.slice Axp1_3 p1_3.length cxp1_3) ∧ Hid (Below w6.heap.size w6 w'))
    (exact HELD.out _ (by assumption))
    (first
      | (go_at_call 6; go_split_ands; refine (toGraph_fr w6 _ (by assumption) p1_0 p1_1 p1_2 p1_3 _ _ _ HV61.out HV62.out HV63.out hsp1_1 hsp1_2 hsp1_3).mono ?_; rintro e wa ⟨vyp1_1, vyp1_2, vyp1_3, rfl, ba, bb, oyp1_1, oyp1_2, oyp1_3⟩)
      | (go_at_call 8; go_split_ands; refine (eqGraph_fr w6 _ (by assumption) p1_0 p1_1 p1_2 p1_3 _ _ _ _ _ _ HG61.out HG62.out HG63.out (by assumption) (by assumption) (by assumption)).mono ?_; rintro e w7 ⟨rfl, bc⟩))
  have hstep := bc.out
  clear HD HELD HV61 HG61 oyp1_1 HV62 HG62 oyp1_2 HV63 HG63 oyp1_3 ba bb bc
  replace hpp1_0 := (hstep.cell (p := ⟨w.heap.size, 0, none⟩) hlhpp1_).trans hpp1_0
  replace hpp1_1 := (hstep.cell (p := ⟨w.heap.size, 1, none⟩) hlhpp1_).trans hpp1_1
  replace hpp1_2 := (hstep.cell (p := ⟨w.heap.size, 2, none⟩) hlhpp1_).trans hpp1_2
  replace hpp1_3 := (hstep.cell (p := ⟨w.heap.size, 3, none⟩) hlhpp1_).trans hpp1_3
  replace hlhpp1_ : w.heap.size < w7.heap.size := Nat.lt_of_lt_of_le hlhpp1_ hstep.size
  replace hxp1_0 := (hstep.cell (p := ⟨w5.heap.size, 0, none⟩) hlhxp1_).trans hxp1_0
  replace hxp1_1 := (hstep.cell (p := ⟨w5.heap.size, 1, none⟩) hlhxp1_).trans hxp1_1
  replace hxp1_2 := (hstep.cell (p := ⟨w5.heap.size, 2, none⟩) hlhxp1_).trans hxp1_2
  replace hxp1_3 := (hstep.cell (p := ⟨w5.heap.size, 3, none⟩) hlhxp1_).trans hxp1_3
  replace hlhxp1_ : w5.heap.size < w7.heap.size := Nat.lt_of_lt_of_le hlhxp1_ hstep.size
  replace HOxp1_1 := Lib.hid (HOxp1_1.out.below hstep (fun _ _ hq => hq))
  replace HOxp1_2 := Lib.hid (HOxp1_2.out.below hstep (fun _ _ hq => hq))
  replace HOxp1_3 := Lib.hid (HOxp1_3.out.below hstep (fun _ _ hq => hq))
  replace HBN := Lib.hid (HBN.out.trans (hstep.mono HBN.out.size))
  have hzw7 : w6.heap.size ≤ w7.heap.size := hstep.size
  clear hstep
  go_wp2
  go_ret
  exact ⟨rfl, HBN.out⟩
end Go.Proofs.YthnhholeaiojjaaDoor
