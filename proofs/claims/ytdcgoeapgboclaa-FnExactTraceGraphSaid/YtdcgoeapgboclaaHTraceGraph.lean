/- The harness of the law FnExactTraceGraph: it returns true if both functions return what they should. -/
import Derived.Test.YtdcgoeapgboclaaTGraph
import Derived.Test.YtdcgoeapgboclaaRetGraphB
import Derived.Test.YtdcgoeapgboclaaFdWalks
import Derived.Deep.Cut
import Derived.Deep.QuietTactic
namespace Go.Proofs.Ytdcgoeapgboclaa
set_option maxRecDepth 100000
open Go Go.RowKit Go.Deep

set_option maxHeartbeats 6400000 in
set_option maxRecDepth 100000 in
theorem harness_TraceGraph (p0_0 : Int) (p0_1 : List Ed) (p0_2 : List Int) (p0_3 : List Int) (p1_0 : Int) (up0_1 : Value) (up0_2 : Value) (up0_3 : Value) (w : World) (r0_0 : Int) (r0_1 : List Ed) (r0_2 : List Int) (r0_3 : List Int) (r1_0 : Bool) (hvp0_1 : LfE w w.heap.size up0_1 p0_1) (hvp0_2 : LfR w w.heap.size up0_2 p0_2) (hvp0_3 : LfR w w.heap.size up0_3 p0_3) 
    (hspec : ∀ (w : World) (B : Nat) (vp0_1 : Value) (vp0_2 : Value) (vp0_3 : Value) , LfE w B vp0_1 p0_1 → LfR w B vp0_2 p0_2 → LfR w B vp0_3 p0_3 → B ≤ w.heap.size → szE p0_1 ≤ 1048576 → szR p0_2 ≤ 1048576 → szR p0_3 ≤ 1048576 → Calls Try.prog 17 #[.agg #[.int .i64 p0_0, vp0_1, vp0_2, vp0_3], .int .i64 p1_0] w (SRetGraphB w r0_0 r0_1 r0_2 r0_3 r1_0))
    (himpl : ∀ (w : World) (B : Nat) (vp0_1 : Value) (vp0_2 : Value) (vp0_3 : Value) , LfE w B vp0_1 p0_1 → LfR w B vp0_2 p0_2 → LfR w B vp0_3 p0_3 → B ≤ w.heap.size → szE p0_1 ≤ 1048576 → szR p0_2 ≤ 1048576 → szR p0_3 ≤ 1048576 → Calls Try.prog 18 #[.agg #[.int .i64 p0_0, vp0_1, vp0_2, vp0_3], .int .i64 p1_0] w (IRetGraphB w r0_0 r0_1 r0_2 r0_3 r1_0)) :
    Calls Try.prog 5 #[.agg #[.int .i64 p0_0, up0_1, up0_2, up0_3], .int .i64 p1_0] w fun e w' => e = .returned (.bool true) ∧ Below w.heap.size w w' := by
  have HBN := Lib.hid (Below.refl w.heap.size w)
  have HSP := Lib.hid hspec
  have HIM := Lib.hid himpl
  clear hspec himpl
  obtain ⟨Aup0_1, cup0_1, rfl⟩ := hvp0_1.len
  have HVp0_1 := Lib.hid hvp0_1
  clear hvp0_1
  obtain ⟨Aup0_2, cup0_2, rfl⟩ := hvp0_2.len
  have HVp0_2 := Lib.hid hvp0_2
  clear hvp0_2
  obtain ⟨Aup0_3, cup0_3, rfl⟩ := hvp0_3.len
  have HVp0_3 := Lib.hid hvp0_3
  clear hvp0_3
  have hbbr0_0 : (r0_0 != r0_0) = false := by simp
  have hbbr1_0 : (r1_0 != r1_0) = false := by simp
  go_enter Try.func5, Try.ntmps5
  go_wp2_with fail
  refine (szGraph_ok _ w.heap.size p0_0 p0_1 p0_2 p0_3 _ _ _ 1048576 ?_ ?_ ?_ ?_ (by omega) (by omega)).mono ?_
  · exact (HVp0_1.out.below HBN.out (Nat.le_refl _)).below (B' := w.heap.size) (by repeat' (first | exact Below.refl _ _ | apply Below.drew | apply Below.setCell | apply Below.alloc | (simp; done) | omega | (simp; omega))) HBN.out.size
  · exact (HVp0_2.out.below HBN.out (Nat.le_refl _)).below (B' := w.heap.size) (by repeat' (first | exact Below.refl _ _ | apply Below.drew | apply Below.setCell | apply Below.alloc | (simp; done) | omega | (simp; omega))) HBN.out.size
  · exact (HVp0_3.out.below HBN.out (Nat.le_refl _)).below (B' := w.heap.size) (by repeat' (first | exact Below.refl _ _ | apply Below.drew | apply Below.setCell | apply Below.alloc | (simp; done) | omega | (simp; omega))) HBN.out.size
  · (have := HBN.out.size; first | exact this | (simp; done) | (simp; omega))
  rintro e w2 ⟨b, h2⟩
  have hstep : Below w.heap.size w w2 := Below.trans (by repeat' (first | exact Below.refl _ _ | apply Below.drew | apply Below.setCell | apply Below.alloc | (simp; done) | omega | (simp; omega))) (b.mono (by (first | exact Nat.le_refl _ | (simp; done) | (simp; omega))))
  replace HBN := Lib.hid (HBN.out.trans (hstep.mono HBN.out.size))
  have hzw2 : w.heap.size ≤ w2.heap.size := hstep.size
  have hpp0_0 : w2.cell? ⟨w.heap.size, 0, none⟩ = some (.int .i64 p0_0) := by have := b.cell (p := ⟨w.heap.size, 0, none⟩) (by first | (simp; done) | (simp; omega)); simpa [go_sem] using this
  have hpp0_1 : w2.cell? ⟨w.heap.size, 1, none⟩ = some (.slice Aup0_1 p0_1.length cup0_1) := by have := b.cell (p := ⟨w.heap.size, 1, none⟩) (by first | (simp; done) | (simp; omega)); simpa [go_sem] using this
  have hpp0_2 : w2.cell? ⟨w.heap.size, 2, none⟩ = some (.slice Aup0_2 p0_2.length cup0_2) := by have := b.cell (p := ⟨w.heap.size, 2, none⟩) (by first | (simp; done) | (simp; omega)); simpa [go_sem] using this
  have hpp0_3 : w2.cell? ⟨w.heap.size, 3, none⟩ = some (.slice Aup0_3 p0_3.length cup0_3) := by have := b.cell (p := ⟨w.heap.size, 3, none⟩) (by first | (simp; done) | (simp; omega)); simpa [go_sem] using this
  have hlhpp0_ : w.heap.size < w2.heap.size := by have := b.size; simp at this; omega
  have hlhpp0_q := hlhpp0_
  clear b hstep 
  rcases h2 with rfl | ⟨hle, h2⟩
  · go_wp2
    go_ret
    exact ⟨rfl, HBN.out⟩
  obtain ⟨zp0_, hzp0_a, hzp0_b, rfl⟩ : ∃ z : Int, 0 ≤ z ∧ z ≤ 1048576 ∧ e = .returned (.int .i64 z) := ⟨_, by omega, by omega, h2⟩
  have hsp0_1 : szE p0_1 ≤ 1048576 := by omega
  have hsp0_2 : szR p0_2 ≤ 1048576 := by omega
  have hsp0_3 : szR p0_3 ≤ 1048576 := by omega
  clear h2 hle
  go_wp2_with fail
  refine (toGraph_ok _ w.heap.size p0_0 p0_1 p0_2 p0_3 _ _ _ ?_ ?_ ?_ ?_ hsp0_1 hsp0_2 hsp0_3).mono ?_
  · exact (HVp0_1.out.below HBN.out (Nat.le_refl _)).below (B' := w2.heap.size) (by repeat' (first | exact Below.refl _ _ | apply Below.drew | apply Below.setCell | apply Below.alloc | (simp; done) | omega | (simp; omega))) HBN.out.size
  · exact (HVp0_2.out.below HBN.out (Nat.le_refl _)).below (B' := w2.heap.size) (by repeat' (first | exact Below.refl _ _ | apply Below.drew | apply Below.setCell | apply Below.alloc | (simp; done) | omega | (simp; omega))) HBN.out.size
  · exact (HVp0_3.out.below HBN.out (Nat.le_refl _)).below (B' := w2.heap.size) (by repeat' (first | exact Below.refl _ _ | apply Below.drew | apply Below.setCell | apply Below.alloc | (simp; done) | omega | (simp; omega))) HBN.out.size
  · (have := HBN.out.size; first | exact this | (simp; done) | (simp; omega))
  rintro e w3 ⟨vap0_1, vap0_2, vap0_3, Tap0_1, Tap0_2, Tap0_3, rfl, b, loap0_1, loap0_2, loap0_3, disap0_1_ap0_2, disap0_1_ap0_3, disap0_2_ap0_3, oap0_1, oap0_2, oap0_3⟩
  obtain ⟨Aap0_1, cap0_1, rfl⟩ := oap0_1.len
  obtain ⟨Aap0_2, cap0_2, rfl⟩ := oap0_2.len
  obtain ⟨Aap0_3, cap0_3, rfl⟩ := oap0_3.len
  have hstep : Below w2.heap.size w2 w3 := Below.trans (by repeat' (first | exact Below.refl _ _ | apply Below.drew | apply Below.setCell | apply Below.alloc | (simp; done) | omega | (simp; omega))) (b.mono (by (first | exact Nat.le_refl _ | (simp; done) | (simp; omega))))
  replace hpp0_0 := (hstep.cell (p := ⟨w.heap.size, 0, none⟩) hlhpp0_).trans hpp0_0
  replace hpp0_1 := (hstep.cell (p := ⟨w.heap.size, 1, none⟩) hlhpp0_).trans hpp0_1
  replace hpp0_2 := (hstep.cell (p := ⟨w.heap.size, 2, none⟩) hlhpp0_).trans hpp0_2
  replace hpp0_3 := (hstep.cell (p := ⟨w.heap.size, 3, none⟩) hlhpp0_).trans hpp0_3
  replace hlhpp0_ : w.heap.size < w3.heap.size := Nat.lt_of_lt_of_le hlhpp0_ hstep.size
  replace HBN := Lib.hid (HBN.out.trans (hstep.mono HBN.out.size))
  have hzw3 : w2.heap.size ≤ w3.heap.size := hstep.size
  obtain ⟨SHOap0_1, HSHOap0_1, HTHOap0_1, HOap0_1⟩ : ∃ S : Nat → Prop, Hid (∀ k, S k → w2.heap.size + 0 ≤ k ∧ k < w3.heap.size) ∧ Hid (∀ k, S k → Tap0_1 k) ∧ Hid (OwnE w3 S (.slice Aap0_1 p0_1.length cap0_1) p0_1) := ⟨fun k => Tap0_1 k ∧ k < w3.heap.size, Lib.hid (fun k hk => ⟨by have hk3 := loap0_1 k hk.1; (try simp at hk3); omega, hk.2⟩), Lib.hid (fun k hk => hk.1), Lib.hid (oap0_1.mono (fun k hk hk2 => ⟨hk, hk2⟩))⟩
  obtain ⟨SHOap0_2, HSHOap0_2, HTHOap0_2, HOap0_2⟩ : ∃ S : Nat → Prop, Hid (∀ k, S k → w2.heap.size + 0 ≤ k ∧ k < w3.heap.size) ∧ Hid (∀ k, S k → Tap0_2 k) ∧ Hid (OwnR w3 S (.slice Aap0_2 p0_2.length cap0_2) p0_2) := ⟨fun k => Tap0_2 k ∧ k < w3.heap.size, Lib.hid (fun k hk => ⟨by have hk3 := loap0_2 k hk.1; (try simp at hk3); omega, hk.2⟩), Lib.hid (fun k hk => hk.1), Lib.hid (oap0_2.mono (fun k hk hk2 => ⟨hk, hk2⟩))⟩
  obtain ⟨SHOap0_3, HSHOap0_3, HTHOap0_3, HOap0_3⟩ : ∃ S : Nat → Prop, Hid (∀ k, S k → w2.heap.size + 0 ≤ k ∧ k < w3.heap.size) ∧ Hid (∀ k, S k → Tap0_3 k) ∧ Hid (OwnR w3 S (.slice Aap0_3 p0_3.length cap0_3) p0_3) := ⟨fun k => Tap0_3 k ∧ k < w3.heap.size, Lib.hid (fun k hk => ⟨by have hk3 := loap0_3 k hk.1; (try simp at hk3); omega, hk.2⟩), Lib.hid (fun k hk => hk.1), Lib.hid (oap0_3.mono (fun k hk hk2 => ⟨hk, hk2⟩))⟩
  have HDap0_1_ap0_2 := Lib.hid (show ∀ k, SHOap0_1 k → SHOap0_2 k → False from fun k h1 h2 => disap0_1_ap0_2 k (HTHOap0_1.out k h1) (HTHOap0_2.out k h2))
  have HDap0_1_ap0_3 := Lib.hid (show ∀ k, SHOap0_1 k → SHOap0_3 k → False from fun k h1 h2 => disap0_1_ap0_3 k (HTHOap0_1.out k h1) (HTHOap0_3.out k h2))
  have HDap0_2_ap0_3 := Lib.hid (show ∀ k, SHOap0_2 k → SHOap0_3 k → False from fun k h1 h2 => disap0_2_ap0_3 k (HTHOap0_2.out k h1) (HTHOap0_3.out k h2))
  clear HTHOap0_1 HTHOap0_2 HTHOap0_3
  clear b hstep oap0_1 oap0_2 oap0_3 loap0_1 loap0_2 loap0_3 disap0_1_ap0_2 disap0_1_ap0_3 disap0_2_ap0_3
  go_wp2_with fail
  refine (HSP.out _ w3.heap.size _ _ _ ?_ ?_ ?_ ?_ hsp0_1 hsp0_2 hsp0_3).mono ?_
  · exact (HOap0_1.out.rd).below (B' := w3.heap.size) (by repeat' (first | exact Below.refl _ _ | apply Below.drew | apply Below.setCell | apply Below.alloc | (simp; done) | omega | (simp; omega))) (Nat.le_refl _)
  · exact (HOap0_2.out.rd).below (B' := w3.heap.size) (by repeat' (first | exact Below.refl _ _ | apply Below.drew | apply Below.setCell | apply Below.alloc | (simp; done) | omega | (simp; omega))) (Nat.le_refl _)
  · exact (HOap0_3.out.rd).below (B' := w3.heap.size) (by repeat' (first | exact Below.refl _ _ | apply Below.drew | apply Below.setCell | apply Below.alloc | (simp; done) | omega | (simp; omega))) (Nat.le_refl _)
  · (first | exact Nat.le_refl _ | (simp; done) | (simp; omega))
  rintro e w4 ⟨vwr0_1, vwr0_2, vwr0_3, rfl, b, owr0_1, owr0_2, owr0_3⟩
  obtain ⟨Awr0_1, cwr0_1, rfl⟩ := owr0_1.len
  obtain ⟨Awr0_2, cwr0_2, rfl⟩ := owr0_2.len
  obtain ⟨Awr0_3, cwr0_3, rfl⟩ := owr0_3.len
  have hstep : Below w3.heap.size w3 w4 := Below.trans (by repeat' (first | exact Below.refl _ _ | apply Below.drew | apply Below.setCell | apply Below.alloc | (simp; done) | omega | (simp; omega))) (b.mono (by (first | exact Nat.le_refl _ | (simp; done) | (simp; omega))))
  replace hpp0_0 := (hstep.cell (p := ⟨w.heap.size, 0, none⟩) hlhpp0_).trans hpp0_0
  replace hpp0_1 := (hstep.cell (p := ⟨w.heap.size, 1, none⟩) hlhpp0_).trans hpp0_1
  replace hpp0_2 := (hstep.cell (p := ⟨w.heap.size, 2, none⟩) hlhpp0_).trans hpp0_2
  replace hpp0_3 := (hstep.cell (p := ⟨w.heap.size, 3, none⟩) hlhpp0_).trans hpp0_3
  replace hlhpp0_ : w.heap.size < w4.heap.size := Nat.lt_of_lt_of_le hlhpp0_ hstep.size
  replace HOap0_1 := Lib.hid (HOap0_1.out.below hstep (fun _ _ hq => hq))
  replace HOap0_2 := Lib.hid (HOap0_2.out.below hstep (fun _ _ hq => hq))
  replace HOap0_3 := Lib.hid (HOap0_3.out.below hstep (fun _ _ hq => hq))
  replace HBN := Lib.hid (HBN.out.trans (hstep.mono HBN.out.size))
  have hzw4 : w3.heap.size ≤ w4.heap.size := hstep.size
  obtain ⟨SHOwr0_1, HSHOwr0_1, HOwr0_1⟩ : ∃ S : Nat → Prop, Hid (∀ k, S k → w3.heap.size + 0 ≤ k ∧ k < w4.heap.size) ∧ Hid (OwnE w4 S (.slice Awr0_1 r0_1.length cwr0_1) r0_1) := ⟨fun k => w3.heap.size + 0 ≤ k ∧ k < w4.heap.size, Lib.hid (fun k hk => hk), Lib.hid (owr0_1.mono (fun k hk hk2 => ⟨by have hk3 := hk; (try simp at hk3); omega, hk2⟩))⟩
  obtain ⟨SHOwr0_2, HSHOwr0_2, HOwr0_2⟩ : ∃ S : Nat → Prop, Hid (∀ k, S k → w3.heap.size + 0 ≤ k ∧ k < w4.heap.size) ∧ Hid (OwnR w4 S (.slice Awr0_2 r0_2.length cwr0_2) r0_2) := ⟨fun k => w3.heap.size + 0 ≤ k ∧ k < w4.heap.size, Lib.hid (fun k hk => hk), Lib.hid (owr0_2.mono (fun k hk hk2 => ⟨by have hk3 := hk; (try simp at hk3); omega, hk2⟩))⟩
  obtain ⟨SHOwr0_3, HSHOwr0_3, HOwr0_3⟩ : ∃ S : Nat → Prop, Hid (∀ k, S k → w3.heap.size + 0 ≤ k ∧ k < w4.heap.size) ∧ Hid (OwnR w4 S (.slice Awr0_3 r0_3.length cwr0_3) r0_3) := ⟨fun k => w3.heap.size + 0 ≤ k ∧ k < w4.heap.size, Lib.hid (fun k hk => hk), Lib.hid (owr0_3.mono (fun k hk hk2 => ⟨by have hk3 := hk; (try simp at hk3); omega, hk2⟩))⟩
  clear b hstep owr0_1 owr0_2 owr0_3
  clear HOap0_1 HSHOap0_1
  clear HOap0_2 HSHOap0_2
  clear HOap0_3 HSHOap0_3
  go_wp2_with fail
  refine (toGraph_ok _ w.heap.size p0_0 p0_1 p0_2 p0_3 _ _ _ ?_ ?_ ?_ ?_ hsp0_1 hsp0_2 hsp0_3).mono ?_
  · exact (HVp0_1.out.below HBN.out (Nat.le_refl _)).below (B' := w4.heap.size) (by repeat' (first | exact Below.refl _ _ | apply Below.drew | apply Below.setCell | apply Below.alloc | (simp; done) | omega | (simp; omega))) HBN.out.size
  · exact (HVp0_2.out.below HBN.out (Nat.le_refl _)).below (B' := w4.heap.size) (by repeat' (first | exact Below.refl _ _ | apply Below.drew | apply Below.setCell | apply Below.alloc | (simp; done) | omega | (simp; omega))) HBN.out.size
  · exact (HVp0_3.out.below HBN.out (Nat.le_refl _)).below (B' := w4.heap.size) (by repeat' (first | exact Below.refl _ _ | apply Below.drew | apply Below.setCell | apply Below.alloc | (simp; done) | omega | (simp; omega))) HBN.out.size
  · (have := HBN.out.size; first | exact this | (simp; done) | (simp; omega))
  rintro e w5 ⟨vxp0_1, vxp0_2, vxp0_3, Txp0_1, Txp0_2, Txp0_3, rfl, b, loxp0_1, loxp0_2, loxp0_3, disxp0_1_xp0_2, disxp0_1_xp0_3, disxp0_2_xp0_3, oxp0_1, oxp0_2, oxp0_3⟩
  obtain ⟨Axp0_1, cxp0_1, rfl⟩ := oxp0_1.len
  obtain ⟨Axp0_2, cxp0_2, rfl⟩ := oxp0_2.len
  obtain ⟨Axp0_3, cxp0_3, rfl⟩ := oxp0_3.len
  have hstep : Below w4.heap.size w4 w5 := Below.trans (by repeat' (first | exact Below.refl _ _ | apply Below.drew | apply Below.setCell | apply Below.alloc | (simp; done) | omega | (simp; omega))) (b.mono (by (first | exact Nat.le_refl _ | (simp; done) | (simp; omega))))
  replace hpp0_0 := (hstep.cell (p := ⟨w.heap.size, 0, none⟩) hlhpp0_).trans hpp0_0
  replace hpp0_1 := (hstep.cell (p := ⟨w.heap.size, 1, none⟩) hlhpp0_).trans hpp0_1
  replace hpp0_2 := (hstep.cell (p := ⟨w.heap.size, 2, none⟩) hlhpp0_).trans hpp0_2
  replace hpp0_3 := (hstep.cell (p := ⟨w.heap.size, 3, none⟩) hlhpp0_).trans hpp0_3
  replace hlhpp0_ : w.heap.size < w5.heap.size := Nat.lt_of_lt_of_le hlhpp0_ hstep.size
  replace HOwr0_1 := Lib.hid (HOwr0_1.out.below hstep (fun _ _ hq => hq))
  replace HOwr0_2 := Lib.hid (HOwr0_2.out.below hstep (fun _ _ hq => hq))
  replace HOwr0_3 := Lib.hid (HOwr0_3.out.below hstep (fun _ _ hq => hq))
  replace HBN := Lib.hid (HBN.out.trans (hstep.mono HBN.out.size))
  have hzw5 : w4.heap.size ≤ w5.heap.size := hstep.size
  have hwr0_0 : w5.cell? ⟨w4.heap.size, 0, none⟩ = some (.int .i64 r0_0) := by have := b.cell (p := ⟨w4.heap.size, 0, none⟩) (by first | (simp; done) | (simp; omega)); simpa [go_sem] using this
  have hwr0_1 : w5.cell? ⟨w4.heap.size, 1, none⟩ = some (.slice Awr0_1 r0_1.length cwr0_1) := by have := b.cell (p := ⟨w4.heap.size, 1, none⟩) (by first | (simp; done) | (simp; omega)); simpa [go_sem] using this
  have hwr0_2 : w5.cell? ⟨w4.heap.size, 2, none⟩ = some (.slice Awr0_2 r0_2.length cwr0_2) := by have := b.cell (p := ⟨w4.heap.size, 2, none⟩) (by first | (simp; done) | (simp; omega)); simpa [go_sem] using this
  have hwr0_3 : w5.cell? ⟨w4.heap.size, 3, none⟩ = some (.slice Awr0_3 r0_3.length cwr0_3) := by have := b.cell (p := ⟨w4.heap.size, 3, none⟩) (by first | (simp; done) | (simp; omega)); simpa [go_sem] using this
  have hlhwr0_ : w4.heap.size < w5.heap.size := by have := b.size; simp at this; omega
  have hlhwr0_q := hlhwr0_
  obtain ⟨SHOxp0_1, HSHOxp0_1, HTHOxp0_1, HOxp0_1⟩ : ∃ S : Nat → Prop, Hid (∀ k, S k → w4.heap.size + 1 ≤ k ∧ k < w5.heap.size) ∧ Hid (∀ k, S k → Txp0_1 k) ∧ Hid (OwnE w5 S (.slice Axp0_1 p0_1.length cxp0_1) p0_1) := ⟨fun k => Txp0_1 k ∧ k < w5.heap.size, Lib.hid (fun k hk => ⟨by have hk3 := loxp0_1 k hk.1; (try simp at hk3); omega, hk.2⟩), Lib.hid (fun k hk => hk.1), Lib.hid (oxp0_1.mono (fun k hk hk2 => ⟨hk, hk2⟩))⟩
  obtain ⟨SHOxp0_2, HSHOxp0_2, HTHOxp0_2, HOxp0_2⟩ : ∃ S : Nat → Prop, Hid (∀ k, S k → w4.heap.size + 1 ≤ k ∧ k < w5.heap.size) ∧ Hid (∀ k, S k → Txp0_2 k) ∧ Hid (OwnR w5 S (.slice Axp0_2 p0_2.length cxp0_2) p0_2) := ⟨fun k => Txp0_2 k ∧ k < w5.heap.size, Lib.hid (fun k hk => ⟨by have hk3 := loxp0_2 k hk.1; (try simp at hk3); omega, hk.2⟩), Lib.hid (fun k hk => hk.1), Lib.hid (oxp0_2.mono (fun k hk hk2 => ⟨hk, hk2⟩))⟩
  obtain ⟨SHOxp0_3, HSHOxp0_3, HTHOxp0_3, HOxp0_3⟩ : ∃ S : Nat → Prop, Hid (∀ k, S k → w4.heap.size + 1 ≤ k ∧ k < w5.heap.size) ∧ Hid (∀ k, S k → Txp0_3 k) ∧ Hid (OwnR w5 S (.slice Axp0_3 p0_3.length cxp0_3) p0_3) := ⟨fun k => Txp0_3 k ∧ k < w5.heap.size, Lib.hid (fun k hk => ⟨by have hk3 := loxp0_3 k hk.1; (try simp at hk3); omega, hk.2⟩), Lib.hid (fun k hk => hk.1), Lib.hid (oxp0_3.mono (fun k hk hk2 => ⟨hk, hk2⟩))⟩
  have HDxp0_1_xp0_2 := Lib.hid (show ∀ k, SHOxp0_1 k → SHOxp0_2 k → False from fun k h1 h2 => disxp0_1_xp0_2 k (HTHOxp0_1.out k h1) (HTHOxp0_2.out k h2))
  have HDxp0_1_xp0_3 := Lib.hid (show ∀ k, SHOxp0_1 k → SHOxp0_3 k → False from fun k h1 h2 => disxp0_1_xp0_3 k (HTHOxp0_1.out k h1) (HTHOxp0_3.out k h2))
  have HDxp0_2_xp0_3 := Lib.hid (show ∀ k, SHOxp0_2 k → SHOxp0_3 k → False from fun k h1 h2 => disxp0_2_xp0_3 k (HTHOxp0_2.out k h1) (HTHOxp0_3.out k h2))
  clear HTHOxp0_1 HTHOxp0_2 HTHOxp0_3
  clear b hstep oxp0_1 oxp0_2 oxp0_3 loxp0_1 loxp0_2 loxp0_3 disxp0_1_xp0_2 disxp0_1_xp0_3 disxp0_2_xp0_3
  go_wp2_with fail
  refine (HIM.out _ w5.heap.size _ _ _ ?_ ?_ ?_ ?_ hsp0_1 hsp0_2 hsp0_3).mono ?_
  · exact (HOxp0_1.out.rd).below (B' := w5.heap.size) (by repeat' (first | exact Below.refl _ _ | apply Below.drew | apply Below.setCell | apply Below.alloc | (simp; done) | omega | (simp; omega))) (Nat.le_refl _)
  · exact (HOxp0_2.out.rd).below (B' := w5.heap.size) (by repeat' (first | exact Below.refl _ _ | apply Below.drew | apply Below.setCell | apply Below.alloc | (simp; done) | omega | (simp; omega))) (Nat.le_refl _)
  · exact (HOxp0_3.out.rd).below (B' := w5.heap.size) (by repeat' (first | exact Below.refl _ _ | apply Below.drew | apply Below.setCell | apply Below.alloc | (simp; done) | omega | (simp; omega))) (Nat.le_refl _)
  · (first | exact Nat.le_refl _ | (simp; done) | (simp; omega))
  rintro e w6 ⟨vgr0_1, vgr0_2, vgr0_3, Tgr0_1, Tgr0_2, Tgr0_3, rfl, b, logr0_1, logr0_2, logr0_3, disgr0_1_gr0_2, disgr0_1_gr0_3, disgr0_2_gr0_3, ogr0_1, ogr0_2, ogr0_3⟩
  obtain ⟨Agr0_1, cgr0_1, rfl⟩ := ogr0_1.len
  obtain ⟨Agr0_2, cgr0_2, rfl⟩ := ogr0_2.len
  obtain ⟨Agr0_3, cgr0_3, rfl⟩ := ogr0_3.len
  have hstep : Below w5.heap.size w5 w6 := Below.trans (by repeat' (first | exact Below.refl _ _ | apply Below.drew | apply Below.setCell | apply Below.alloc | (simp; done) | omega | (simp; omega))) (b.mono (by (first | exact Nat.le_refl _ | (simp; done) | (simp; omega))))
  replace hpp0_0 := (hstep.cell (p := ⟨w.heap.size, 0, none⟩) hlhpp0_).trans hpp0_0
  replace hpp0_1 := (hstep.cell (p := ⟨w.heap.size, 1, none⟩) hlhpp0_).trans hpp0_1
  replace hpp0_2 := (hstep.cell (p := ⟨w.heap.size, 2, none⟩) hlhpp0_).trans hpp0_2
  replace hpp0_3 := (hstep.cell (p := ⟨w.heap.size, 3, none⟩) hlhpp0_).trans hpp0_3
  replace hlhpp0_ : w.heap.size < w6.heap.size := Nat.lt_of_lt_of_le hlhpp0_ hstep.size
  replace hwr0_0 := (hstep.cell (p := ⟨w4.heap.size, 0, none⟩) hlhwr0_).trans hwr0_0
  replace hwr0_1 := (hstep.cell (p := ⟨w4.heap.size, 1, none⟩) hlhwr0_).trans hwr0_1
  replace hwr0_2 := (hstep.cell (p := ⟨w4.heap.size, 2, none⟩) hlhwr0_).trans hwr0_2
  replace hwr0_3 := (hstep.cell (p := ⟨w4.heap.size, 3, none⟩) hlhwr0_).trans hwr0_3
  replace hlhwr0_ : w4.heap.size < w6.heap.size := Nat.lt_of_lt_of_le hlhwr0_ hstep.size
  replace HOwr0_1 := Lib.hid (HOwr0_1.out.below hstep (fun _ _ hq => hq))
  replace HOwr0_2 := Lib.hid (HOwr0_2.out.below hstep (fun _ _ hq => hq))
  replace HOwr0_3 := Lib.hid (HOwr0_3.out.below hstep (fun _ _ hq => hq))
  replace HOxp0_1 := Lib.hid (HOxp0_1.out.below hstep (fun _ _ hq => hq))
  replace HOxp0_2 := Lib.hid (HOxp0_2.out.below hstep (fun _ _ hq => hq))
  replace HOxp0_3 := Lib.hid (HOxp0_3.out.below hstep (fun _ _ hq => hq))
  replace HBN := Lib.hid (HBN.out.trans (hstep.mono HBN.out.size))
  have hzw6 : w5.heap.size ≤ w6.heap.size := hstep.size
  have hxp0_0 : w6.cell? ⟨w5.heap.size, 0, none⟩ = some (.int .i64 p0_0) := by have := b.cell (p := ⟨w5.heap.size, 0, none⟩) (by first | (simp; done) | (simp; omega)); simpa [go_sem] using this
  have hxp0_1 : w6.cell? ⟨w5.heap.size, 1, none⟩ = some (.slice Axp0_1 p0_1.length cxp0_1) := by have := b.cell (p := ⟨w5.heap.size, 1, none⟩) (by first | (simp; done) | (simp; omega)); simpa [go_sem] using this
  have hxp0_2 : w6.cell? ⟨w5.heap.size, 2, none⟩ = some (.slice Axp0_2 p0_2.length cxp0_2) := by have := b.cell (p := ⟨w5.heap.size, 2, none⟩) (by first | (simp; done) | (simp; omega)); simpa [go_sem] using this
  have hxp0_3 : w6.cell? ⟨w5.heap.size, 3, none⟩ = some (.slice Axp0_3 p0_3.length cxp0_3) := by have := b.cell (p := ⟨w5.heap.size, 3, none⟩) (by first | (simp; done) | (simp; omega)); simpa [go_sem] using this
  have hlhxp0_ : w5.heap.size < w6.heap.size := by have := b.size; simp at this; omega
  have hlhxp0_q := hlhxp0_
  obtain ⟨SHOgr0_1, HSHOgr0_1, HTHOgr0_1, HOgr0_1⟩ : ∃ S : Nat → Prop, Hid (∀ k, S k → w5.heap.size + 1 ≤ k ∧ k < w6.heap.size) ∧ Hid (∀ k, S k → Tgr0_1 k) ∧ Hid (OwnE w6 S (.slice Agr0_1 r0_1.length cgr0_1) r0_1) := ⟨fun k => Tgr0_1 k ∧ k < w6.heap.size, Lib.hid (fun k hk => ⟨by have hk3 := logr0_1 k hk.1; (try simp at hk3); omega, hk.2⟩), Lib.hid (fun k hk => hk.1), Lib.hid (ogr0_1.mono (fun k hk hk2 => ⟨hk, hk2⟩))⟩
  obtain ⟨SHOgr0_2, HSHOgr0_2, HTHOgr0_2, HOgr0_2⟩ : ∃ S : Nat → Prop, Hid (∀ k, S k → w5.heap.size + 1 ≤ k ∧ k < w6.heap.size) ∧ Hid (∀ k, S k → Tgr0_2 k) ∧ Hid (OwnR w6 S (.slice Agr0_2 r0_2.length cgr0_2) r0_2) := ⟨fun k => Tgr0_2 k ∧ k < w6.heap.size, Lib.hid (fun k hk => ⟨by have hk3 := logr0_2 k hk.1; (try simp at hk3); omega, hk.2⟩), Lib.hid (fun k hk => hk.1), Lib.hid (ogr0_2.mono (fun k hk hk2 => ⟨hk, hk2⟩))⟩
  obtain ⟨SHOgr0_3, HSHOgr0_3, HTHOgr0_3, HOgr0_3⟩ : ∃ S : Nat → Prop, Hid (∀ k, S k → w5.heap.size + 1 ≤ k ∧ k < w6.heap.size) ∧ Hid (∀ k, S k → Tgr0_3 k) ∧ Hid (OwnR w6 S (.slice Agr0_3 r0_3.length cgr0_3) r0_3) := ⟨fun k => Tgr0_3 k ∧ k < w6.heap.size, Lib.hid (fun k hk => ⟨by have hk3 := logr0_3 k hk.1; (try simp at hk3); omega, hk.2⟩), Lib.hid (fun k hk => hk.1), Lib.hid (ogr0_3.mono (fun k hk hk2 => ⟨hk, hk2⟩))⟩
  have HDgr0_1_gr0_2 := Lib.hid (show ∀ k, SHOgr0_1 k → SHOgr0_2 k → False from fun k h1 h2 => disgr0_1_gr0_2 k (HTHOgr0_1.out k h1) (HTHOgr0_2.out k h2))
  have HDgr0_1_gr0_3 := Lib.hid (show ∀ k, SHOgr0_1 k → SHOgr0_3 k → False from fun k h1 h2 => disgr0_1_gr0_3 k (HTHOgr0_1.out k h1) (HTHOgr0_3.out k h2))
  have HDgr0_2_gr0_3 := Lib.hid (show ∀ k, SHOgr0_2 k → SHOgr0_3 k → False from fun k h1 h2 => disgr0_2_gr0_3 k (HTHOgr0_2.out k h1) (HTHOgr0_3.out k h2))
  clear HTHOgr0_1 HTHOgr0_2 HTHOgr0_3
  clear b hstep ogr0_1 ogr0_2 ogr0_3 logr0_1 logr0_2 logr0_3 disgr0_1_gr0_2 disgr0_1_gr0_3 disgr0_2_gr0_3
  go_wp2_with fail
  refine (eqGraph_ok _ w6.heap.size r0_0 r0_1 r0_2 r0_3 _ _ _ _ _ _ ?_ ?_ ?_ ?_ ?_ ?_ ?_).mono ?_
  · exact (HOgr0_1.out.rd).below (B' := w6.heap.size) (by repeat' (first | exact Below.refl _ _ | apply Below.drew | apply Below.setCell | apply Below.alloc | (simp; done) | omega | (simp; omega))) (Nat.le_refl _)
  · exact (HOgr0_2.out.rd).below (B' := w6.heap.size) (by repeat' (first | exact Below.refl _ _ | apply Below.drew | apply Below.setCell | apply Below.alloc | (simp; done) | omega | (simp; omega))) (Nat.le_refl _)
  · exact (HOgr0_3.out.rd).below (B' := w6.heap.size) (by repeat' (first | exact Below.refl _ _ | apply Below.drew | apply Below.setCell | apply Below.alloc | (simp; done) | omega | (simp; omega))) (Nat.le_refl _)
  · exact (HOwr0_1.out.rd).below (B' := w6.heap.size) (by repeat' (first | exact Below.refl _ _ | apply Below.drew | apply Below.setCell | apply Below.alloc | (simp; done) | omega | (simp; omega))) (Nat.le_refl _)
  · exact (HOwr0_2.out.rd).below (B' := w6.heap.size) (by repeat' (first | exact Below.refl _ _ | apply Below.drew | apply Below.setCell | apply Below.alloc | (simp; done) | omega | (simp; omega))) (Nat.le_refl _)
  · exact (HOwr0_3.out.rd).below (B' := w6.heap.size) (by repeat' (first | exact Below.refl _ _ | apply Below.drew | apply Below.setCell | apply Below.alloc | (simp; done) | omega | (simp; omega))) (Nat.le_refl _)
  · (first | exact Nat.le_refl _ | (simp; done) | (simp; omega))
  rintro e w7 ⟨rfl, b⟩
  have hstep : Below w6.heap.size w6 w7 := Below.trans (by repeat' (first | exact Below.refl _ _ | apply Below.drew | apply Below.setCell | apply Below.alloc | (simp; done) | omega | (simp; omega))) (b.mono (by (first | exact Nat.le_refl _ | (simp; done) | (simp; omega))))
  replace hpp0_0 := (hstep.cell (p := ⟨w.heap.size, 0, none⟩) hlhpp0_).trans hpp0_0
  replace hpp0_1 := (hstep.cell (p := ⟨w.heap.size, 1, none⟩) hlhpp0_).trans hpp0_1
  replace hpp0_2 := (hstep.cell (p := ⟨w.heap.size, 2, none⟩) hlhpp0_).trans hpp0_2
  replace hpp0_3 := (hstep.cell (p := ⟨w.heap.size, 3, none⟩) hlhpp0_).trans hpp0_3
  replace hlhpp0_ : w.heap.size < w7.heap.size := Nat.lt_of_lt_of_le hlhpp0_ hstep.size
  replace hwr0_0 := (hstep.cell (p := ⟨w4.heap.size, 0, none⟩) hlhwr0_).trans hwr0_0
  replace hwr0_1 := (hstep.cell (p := ⟨w4.heap.size, 1, none⟩) hlhwr0_).trans hwr0_1
  replace hwr0_2 := (hstep.cell (p := ⟨w4.heap.size, 2, none⟩) hlhwr0_).trans hwr0_2
  replace hwr0_3 := (hstep.cell (p := ⟨w4.heap.size, 3, none⟩) hlhwr0_).trans hwr0_3
  replace hlhwr0_ : w4.heap.size < w7.heap.size := Nat.lt_of_lt_of_le hlhwr0_ hstep.size
  replace hxp0_0 := (hstep.cell (p := ⟨w5.heap.size, 0, none⟩) hlhxp0_).trans hxp0_0
  replace hxp0_1 := (hstep.cell (p := ⟨w5.heap.size, 1, none⟩) hlhxp0_).trans hxp0_1
  replace hxp0_2 := (hstep.cell (p := ⟨w5.heap.size, 2, none⟩) hlhxp0_).trans hxp0_2
  replace hxp0_3 := (hstep.cell (p := ⟨w5.heap.size, 3, none⟩) hlhxp0_).trans hxp0_3
  replace hlhxp0_ : w5.heap.size < w7.heap.size := Nat.lt_of_lt_of_le hlhxp0_ hstep.size
  replace HOwr0_1 := Lib.hid (HOwr0_1.out.below hstep (fun _ _ hq => hq))
  replace HOwr0_2 := Lib.hid (HOwr0_2.out.below hstep (fun _ _ hq => hq))
  replace HOwr0_3 := Lib.hid (HOwr0_3.out.below hstep (fun _ _ hq => hq))
  replace HOxp0_1 := Lib.hid (HOxp0_1.out.below hstep (fun _ _ hq => hq))
  replace HOxp0_2 := Lib.hid (HOxp0_2.out.below hstep (fun _ _ hq => hq))
  replace HOxp0_3 := Lib.hid (HOxp0_3.out.below hstep (fun _ _ hq => hq))
  replace HOgr0_1 := Lib.hid (HOgr0_1.out.below hstep (fun _ _ hq => hq))
  replace HOgr0_2 := Lib.hid (HOgr0_2.out.below hstep (fun _ _ hq => hq))
  replace HOgr0_3 := Lib.hid (HOgr0_3.out.below hstep (fun _ _ hq => hq))
  replace HBN := Lib.hid (HBN.out.trans (hstep.mono HBN.out.size))
  have hzw7 : w6.heap.size ≤ w7.heap.size := hstep.size
  have hgr0_0 : w7.cell? ⟨w6.heap.size, 0, none⟩ = some (.int .i64 r0_0) := by have := b.cell (p := ⟨w6.heap.size, 0, none⟩) (by first | (simp; done) | (simp; omega)); simpa [go_sem] using this
  have hgr0_1 : w7.cell? ⟨w6.heap.size, 1, none⟩ = some (.slice Agr0_1 r0_1.length cgr0_1) := by have := b.cell (p := ⟨w6.heap.size, 1, none⟩) (by first | (simp; done) | (simp; omega)); simpa [go_sem] using this
  have hgr0_2 : w7.cell? ⟨w6.heap.size, 2, none⟩ = some (.slice Agr0_2 r0_2.length cgr0_2) := by have := b.cell (p := ⟨w6.heap.size, 2, none⟩) (by first | (simp; done) | (simp; omega)); simpa [go_sem] using this
  have hgr0_3 : w7.cell? ⟨w6.heap.size, 3, none⟩ = some (.slice Agr0_3 r0_3.length cgr0_3) := by have := b.cell (p := ⟨w6.heap.size, 3, none⟩) (by first | (simp; done) | (simp; omega)); simpa [go_sem] using this
  have hlhgr0_ : w6.heap.size < w7.heap.size := by have := b.size; simp at this; omega
  have hlhgr0_q := hlhgr0_
  clear b hstep 
  have HD : Hid (Below w7.heap.size w7 w7.drew) := Lib.hid (Below.refl _ _).drew
  have HV61 := Lib.hid ((HVp0_1.out.below HBN.out (Nat.le_refl _)).mono HBN.out.size)
  have HG61 := Lib.hid (HOxp0_1.out.rd)
  have HV62 := Lib.hid ((HVp0_2.out.below HBN.out (Nat.le_refl _)).mono HBN.out.size)
  have HG62 := Lib.hid (HOxp0_2.out.rd)
  have HV63 := Lib.hid ((HVp0_3.out.below HBN.out (Nat.le_refl _)).mono HBN.out.size)
  have HG63 := Lib.hid (HOxp0_3.out.rd)
  have HELD : Hid (∀ w' : World, Hid (Below w7.heap.size w7 w') → w'.cell? ⟨w.heap.size, 0, none⟩ = some (.int .i64 p0_0) ∧ w'.cell? ⟨w.heap.size, 1, none⟩ = some (.slice Aup0_1 p0_1.length cup0_1) ∧ w'.cell? ⟨w.heap.size, 2, none⟩ = some (.slice Aup0_2 p0_2.length cup0_2) ∧ w'.cell? ⟨w.heap.size, 3, none⟩ = some (.slice Aup0_3 p0_3.length cup0_3) ∧ w'.cell? ⟨w5.heap.size, 0, none⟩ = some (.int .i64 p0_0) ∧ w'.cell? ⟨w5.heap.size, 1, none⟩ = some (.slice Axp0_1 p0_1.length cxp0_1) ∧ w'.cell? ⟨w5.heap.size, 2, none⟩ = some (.slice Axp0_2 p0_2.length cxp0_2) ∧ w'.cell? ⟨w5.heap.size, 3, none⟩ = some (.slice Axp0_3 p0_3.length cxp0_3) ∧ Hid (Below w7.heap.size w7 w')) := Lib.hid (fun w' H => ⟨(H.out.cell (p := ⟨w.heap.size, 0, none⟩) hlhpp0_).trans hpp0_0, (H.out.cell (p := ⟨w.heap.size, 1, none⟩) hlhpp0_).trans hpp0_1, (H.out.cell (p := ⟨w.heap.size, 2, none⟩) hlhpp0_).trans hpp0_2, (H.out.cell (p := ⟨w.heap.size, 3, none⟩) hlhpp0_).trans hpp0_3, (H.out.cell (p := ⟨w5.heap.size, 0, none⟩) hlhxp0_).trans hxp0_0, (H.out.cell (p := ⟨w5.heap.size, 1, none⟩) hlhxp0_).trans hxp0_1, (H.out.cell (p := ⟨w5.heap.size, 2, none⟩) hlhxp0_).trans hxp0_2, (H.out.cell (p := ⟨w5.heap.size, 3, none⟩) hlhxp0_).trans hxp0_3, H⟩)
  go_wp2_with fail
  go_region_held3 (fun w' => w'.cell? ⟨w.heap.size, 0, none⟩ = some (.int .i64 p0_0) ∧ w'.cell? ⟨w.heap.size, 1, none⟩ = some (.slice Aup0_1 p0_1.length cup0_1) ∧ w'.cell? ⟨w.heap.size, 2, none⟩ = some (.slice Aup0_2 p0_2.length cup0_2) ∧ w'.cell? ⟨w.heap.size, 3, none⟩ = some (.slice Aup0_3 p0_3.length cup0_3) ∧ w'.cell? ⟨w5.heap.size, 0, none⟩ = some (.int .i64 p0_0) ∧ w'.cell? ⟨w5.heap.size, 1, none⟩ = some (.slice Axp0_1 p0_1.length cxp0_1) ∧ w'.cell? ⟨w5.heap.size, 2, none⟩ = some (.slice Axp0_2 p0_2.length cxp0_2) ∧ w'.cell? ⟨w5.heap.size, 3, none⟩ = some (.slice Axp0_3 p0_3.length cxp0_3) ∧ Hid (Below w7.heap.size w7 w'))
    (exact HELD.out _ (by assumption))
    (first
      | (go_at_call 10; go_split_ands; refine (toGraph_fr w7 _ (by assumption) p0_0 p0_1 p0_2 p0_3 _ _ _ HV61.out HV62.out HV63.out hsp0_1 hsp0_2 hsp0_3).mono ?_; rintro e wa ⟨vyp0_1, vyp0_2, vyp0_3, rfl, ba, bb, oyp0_1, oyp0_2, oyp0_3⟩)
      | (go_at_call 12; go_split_ands; refine (eqGraph_fr w7 _ (by assumption) p0_0 p0_1 p0_2 p0_3 _ _ _ _ _ _ HG61.out HG62.out HG63.out (by assumption) (by assumption) (by assumption)).mono ?_; rintro e w8 ⟨rfl, bc⟩))
  have hstep := bc.out
  clear HD HELD HV61 HG61 oyp0_1 HV62 HG62 oyp0_2 HV63 HG63 oyp0_3 ba bb bc
  replace hpp0_0 := (hstep.cell (p := ⟨w.heap.size, 0, none⟩) hlhpp0_).trans hpp0_0
  replace hpp0_1 := (hstep.cell (p := ⟨w.heap.size, 1, none⟩) hlhpp0_).trans hpp0_1
  replace hpp0_2 := (hstep.cell (p := ⟨w.heap.size, 2, none⟩) hlhpp0_).trans hpp0_2
  replace hpp0_3 := (hstep.cell (p := ⟨w.heap.size, 3, none⟩) hlhpp0_).trans hpp0_3
  replace hlhpp0_ : w.heap.size < w8.heap.size := Nat.lt_of_lt_of_le hlhpp0_ hstep.size
  replace hwr0_0 := (hstep.cell (p := ⟨w4.heap.size, 0, none⟩) hlhwr0_).trans hwr0_0
  replace hwr0_1 := (hstep.cell (p := ⟨w4.heap.size, 1, none⟩) hlhwr0_).trans hwr0_1
  replace hwr0_2 := (hstep.cell (p := ⟨w4.heap.size, 2, none⟩) hlhwr0_).trans hwr0_2
  replace hwr0_3 := (hstep.cell (p := ⟨w4.heap.size, 3, none⟩) hlhwr0_).trans hwr0_3
  replace hlhwr0_ : w4.heap.size < w8.heap.size := Nat.lt_of_lt_of_le hlhwr0_ hstep.size
  replace hxp0_0 := (hstep.cell (p := ⟨w5.heap.size, 0, none⟩) hlhxp0_).trans hxp0_0
  replace hxp0_1 := (hstep.cell (p := ⟨w5.heap.size, 1, none⟩) hlhxp0_).trans hxp0_1
  replace hxp0_2 := (hstep.cell (p := ⟨w5.heap.size, 2, none⟩) hlhxp0_).trans hxp0_2
  replace hxp0_3 := (hstep.cell (p := ⟨w5.heap.size, 3, none⟩) hlhxp0_).trans hxp0_3
  replace hlhxp0_ : w5.heap.size < w8.heap.size := Nat.lt_of_lt_of_le hlhxp0_ hstep.size
  replace hgr0_0 := (hstep.cell (p := ⟨w6.heap.size, 0, none⟩) hlhgr0_).trans hgr0_0
  replace hgr0_1 := (hstep.cell (p := ⟨w6.heap.size, 1, none⟩) hlhgr0_).trans hgr0_1
  replace hgr0_2 := (hstep.cell (p := ⟨w6.heap.size, 2, none⟩) hlhgr0_).trans hgr0_2
  replace hgr0_3 := (hstep.cell (p := ⟨w6.heap.size, 3, none⟩) hlhgr0_).trans hgr0_3
  replace hlhgr0_ : w6.heap.size < w8.heap.size := Nat.lt_of_lt_of_le hlhgr0_ hstep.size
  replace HOwr0_1 := Lib.hid (HOwr0_1.out.below hstep (fun _ _ hq => hq))
  replace HOwr0_2 := Lib.hid (HOwr0_2.out.below hstep (fun _ _ hq => hq))
  replace HOwr0_3 := Lib.hid (HOwr0_3.out.below hstep (fun _ _ hq => hq))
  replace HOxp0_1 := Lib.hid (HOxp0_1.out.below hstep (fun _ _ hq => hq))
  replace HOxp0_2 := Lib.hid (HOxp0_2.out.below hstep (fun _ _ hq => hq))
  replace HOxp0_3 := Lib.hid (HOxp0_3.out.below hstep (fun _ _ hq => hq))
  replace HOgr0_1 := Lib.hid (HOgr0_1.out.below hstep (fun _ _ hq => hq))
  replace HOgr0_2 := Lib.hid (HOgr0_2.out.below hstep (fun _ _ hq => hq))
  replace HOgr0_3 := Lib.hid (HOgr0_3.out.below hstep (fun _ _ hq => hq))
  replace HBN := Lib.hid (HBN.out.trans (hstep.mono HBN.out.size))
  have hzw8 : w7.heap.size ≤ w8.heap.size := hstep.size
  clear hstep
  have := cntE_le p0_1
  have := cntR_le p0_2
  have := cntR_le p0_3
  go_wp2_with fail
  refine (markGraph_ok _ p0_0 p0_1 p0_2 p0_3 _ _ _ SHOxp0_1 SHOxp0_2 SHOxp0_3 1 (HOxp0_1.out) (HOxp0_2.out) (HOxp0_3.out) (HDxp0_1_xp0_2.out) (HDxp0_1_xp0_3.out) (HDxp0_2_xp0_3.out) (by omega) (by omega)).mono ?_
  rintro e w9 ⟨h2, t, om0, om1, om2⟩
  replace hpp0_0 := (t.cellAt (p := ⟨w.heap.size, 0, none⟩) hlhpp0_ (fun hk => by rcases hk with hk | hk | hk <;> (first | (have := HSHOxp0_1.out _ hk; dsimp only at this; omega) | (have := HSHOxp0_2.out _ hk; dsimp only at this; omega) | (have := HSHOxp0_3.out _ hk; dsimp only at this; omega)))).trans hpp0_0
  replace hpp0_1 := (t.cellAt (p := ⟨w.heap.size, 1, none⟩) hlhpp0_ (fun hk => by rcases hk with hk | hk | hk <;> (first | (have := HSHOxp0_1.out _ hk; dsimp only at this; omega) | (have := HSHOxp0_2.out _ hk; dsimp only at this; omega) | (have := HSHOxp0_3.out _ hk; dsimp only at this; omega)))).trans hpp0_1
  replace hpp0_2 := (t.cellAt (p := ⟨w.heap.size, 2, none⟩) hlhpp0_ (fun hk => by rcases hk with hk | hk | hk <;> (first | (have := HSHOxp0_1.out _ hk; dsimp only at this; omega) | (have := HSHOxp0_2.out _ hk; dsimp only at this; omega) | (have := HSHOxp0_3.out _ hk; dsimp only at this; omega)))).trans hpp0_2
  replace hpp0_3 := (t.cellAt (p := ⟨w.heap.size, 3, none⟩) hlhpp0_ (fun hk => by rcases hk with hk | hk | hk <;> (first | (have := HSHOxp0_1.out _ hk; dsimp only at this; omega) | (have := HSHOxp0_2.out _ hk; dsimp only at this; omega) | (have := HSHOxp0_3.out _ hk; dsimp only at this; omega)))).trans hpp0_3
  replace hwr0_0 := (t.cellAt (p := ⟨w4.heap.size, 0, none⟩) hlhwr0_ (fun hk => by rcases hk with hk | hk | hk <;> (first | (have := HSHOxp0_1.out _ hk; dsimp only at this; omega) | (have := HSHOxp0_2.out _ hk; dsimp only at this; omega) | (have := HSHOxp0_3.out _ hk; dsimp only at this; omega)))).trans hwr0_0
  replace hwr0_1 := (t.cellAt (p := ⟨w4.heap.size, 1, none⟩) hlhwr0_ (fun hk => by rcases hk with hk | hk | hk <;> (first | (have := HSHOxp0_1.out _ hk; dsimp only at this; omega) | (have := HSHOxp0_2.out _ hk; dsimp only at this; omega) | (have := HSHOxp0_3.out _ hk; dsimp only at this; omega)))).trans hwr0_1
  replace hwr0_2 := (t.cellAt (p := ⟨w4.heap.size, 2, none⟩) hlhwr0_ (fun hk => by rcases hk with hk | hk | hk <;> (first | (have := HSHOxp0_1.out _ hk; dsimp only at this; omega) | (have := HSHOxp0_2.out _ hk; dsimp only at this; omega) | (have := HSHOxp0_3.out _ hk; dsimp only at this; omega)))).trans hwr0_2
  replace hwr0_3 := (t.cellAt (p := ⟨w4.heap.size, 3, none⟩) hlhwr0_ (fun hk => by rcases hk with hk | hk | hk <;> (first | (have := HSHOxp0_1.out _ hk; dsimp only at this; omega) | (have := HSHOxp0_2.out _ hk; dsimp only at this; omega) | (have := HSHOxp0_3.out _ hk; dsimp only at this; omega)))).trans hwr0_3
  replace hxp0_0 := (t.cellAt (p := ⟨w5.heap.size, 0, none⟩) hlhxp0_ (fun hk => by rcases hk with hk | hk | hk <;> (first | (have := HSHOxp0_1.out _ hk; dsimp only at this; omega) | (have := HSHOxp0_2.out _ hk; dsimp only at this; omega) | (have := HSHOxp0_3.out _ hk; dsimp only at this; omega)))).trans hxp0_0
  replace hxp0_1 := (t.cellAt (p := ⟨w5.heap.size, 1, none⟩) hlhxp0_ (fun hk => by rcases hk with hk | hk | hk <;> (first | (have := HSHOxp0_1.out _ hk; dsimp only at this; omega) | (have := HSHOxp0_2.out _ hk; dsimp only at this; omega) | (have := HSHOxp0_3.out _ hk; dsimp only at this; omega)))).trans hxp0_1
  replace hxp0_2 := (t.cellAt (p := ⟨w5.heap.size, 2, none⟩) hlhxp0_ (fun hk => by rcases hk with hk | hk | hk <;> (first | (have := HSHOxp0_1.out _ hk; dsimp only at this; omega) | (have := HSHOxp0_2.out _ hk; dsimp only at this; omega) | (have := HSHOxp0_3.out _ hk; dsimp only at this; omega)))).trans hxp0_2
  replace hxp0_3 := (t.cellAt (p := ⟨w5.heap.size, 3, none⟩) hlhxp0_ (fun hk => by rcases hk with hk | hk | hk <;> (first | (have := HSHOxp0_1.out _ hk; dsimp only at this; omega) | (have := HSHOxp0_2.out _ hk; dsimp only at this; omega) | (have := HSHOxp0_3.out _ hk; dsimp only at this; omega)))).trans hxp0_3
  replace hgr0_0 := (t.cellAt (p := ⟨w6.heap.size, 0, none⟩) hlhgr0_ (fun hk => by rcases hk with hk | hk | hk <;> (first | (have := HSHOxp0_1.out _ hk; dsimp only at this; omega) | (have := HSHOxp0_2.out _ hk; dsimp only at this; omega) | (have := HSHOxp0_3.out _ hk; dsimp only at this; omega)))).trans hgr0_0
  replace hgr0_1 := (t.cellAt (p := ⟨w6.heap.size, 1, none⟩) hlhgr0_ (fun hk => by rcases hk with hk | hk | hk <;> (first | (have := HSHOxp0_1.out _ hk; dsimp only at this; omega) | (have := HSHOxp0_2.out _ hk; dsimp only at this; omega) | (have := HSHOxp0_3.out _ hk; dsimp only at this; omega)))).trans hgr0_1
  replace hgr0_2 := (t.cellAt (p := ⟨w6.heap.size, 2, none⟩) hlhgr0_ (fun hk => by rcases hk with hk | hk | hk <;> (first | (have := HSHOxp0_1.out _ hk; dsimp only at this; omega) | (have := HSHOxp0_2.out _ hk; dsimp only at this; omega) | (have := HSHOxp0_3.out _ hk; dsimp only at this; omega)))).trans hgr0_2
  replace hgr0_3 := (t.cellAt (p := ⟨w6.heap.size, 3, none⟩) hlhgr0_ (fun hk => by rcases hk with hk | hk | hk <;> (first | (have := HSHOxp0_1.out _ hk; dsimp only at this; omega) | (have := HSHOxp0_2.out _ hk; dsimp only at this; omega) | (have := HSHOxp0_3.out _ hk; dsimp only at this; omega)))).trans hgr0_3
  replace hlhpp0_ : w.heap.size < w9.heap.size := Nat.lt_of_lt_of_le hlhpp0_ t.size
  replace hlhwr0_ : w4.heap.size < w9.heap.size := Nat.lt_of_lt_of_le hlhwr0_ t.size
  replace hlhxp0_ : w5.heap.size < w9.heap.size := Nat.lt_of_lt_of_le hlhxp0_ t.size
  replace hlhgr0_ : w6.heap.size < w9.heap.size := Nat.lt_of_lt_of_le hlhgr0_ t.size
  replace HOwr0_1 := Lib.hid (HOwr0_1.out.blocks (w' := w9) (fun q hq hql => t.block q hql (fun hx => by rcases hx with hx | hx | hx <;> (first | (have := HSHOxp0_1.out q hx; have := HSHOwr0_1.out q hq; omega) | (have := HSHOxp0_2.out q hx; have := HSHOwr0_1.out q hq; omega) | (have := HSHOxp0_3.out q hx; have := HSHOwr0_1.out q hq; omega)))))
  replace HOwr0_2 := Lib.hid (HOwr0_2.out.blocks (w' := w9) (fun q hq hql => t.block q hql (fun hx => by rcases hx with hx | hx | hx <;> (first | (have := HSHOxp0_1.out q hx; have := HSHOwr0_2.out q hq; omega) | (have := HSHOxp0_2.out q hx; have := HSHOwr0_2.out q hq; omega) | (have := HSHOxp0_3.out q hx; have := HSHOwr0_2.out q hq; omega)))))
  replace HOwr0_3 := Lib.hid (HOwr0_3.out.blocks (w' := w9) (fun q hq hql => t.block q hql (fun hx => by rcases hx with hx | hx | hx <;> (first | (have := HSHOxp0_1.out q hx; have := HSHOwr0_3.out q hq; omega) | (have := HSHOxp0_2.out q hx; have := HSHOwr0_3.out q hq; omega) | (have := HSHOxp0_3.out q hx; have := HSHOwr0_3.out q hq; omega)))))
  replace HOgr0_1 := Lib.hid (HOgr0_1.out.blocks (w' := w9) (fun q hq hql => t.block q hql (fun hx => by rcases hx with hx | hx | hx <;> (first | (have := HSHOxp0_1.out q hx; have := HSHOgr0_1.out q hq; omega) | (have := HSHOxp0_2.out q hx; have := HSHOgr0_1.out q hq; omega) | (have := HSHOxp0_3.out q hx; have := HSHOgr0_1.out q hq; omega)))))
  replace HOgr0_2 := Lib.hid (HOgr0_2.out.blocks (w' := w9) (fun q hq hql => t.block q hql (fun hx => by rcases hx with hx | hx | hx <;> (first | (have := HSHOxp0_1.out q hx; have := HSHOgr0_2.out q hq; omega) | (have := HSHOxp0_2.out q hx; have := HSHOgr0_2.out q hq; omega) | (have := HSHOxp0_3.out q hx; have := HSHOgr0_2.out q hq; omega)))))
  replace HOgr0_3 := Lib.hid (HOgr0_3.out.blocks (w' := w9) (fun q hq hql => t.block q hql (fun hx => by rcases hx with hx | hx | hx <;> (first | (have := HSHOxp0_1.out q hx; have := HSHOgr0_3.out q hq; omega) | (have := HSHOxp0_2.out q hx; have := HSHOgr0_3.out q hq; omega) | (have := HSHOxp0_3.out q hx; have := HSHOgr0_3.out q hq; omega)))))
  replace HBN := Lib.hid (HBN.out.trans (t.below HBN.out.size (fun k hk => by rcases hk with hk | hk | hk <;> (first | (have := HSHOxp0_1.out k hk; have := HBN.out.size; omega) | (have := HSHOxp0_2.out k hk; have := HBN.out.size; omega) | (have := HSHOxp0_3.out k hk; have := HBN.out.size; omega)))))
  have hzw9 : w8.heap.size ≤ w9.heap.size := t.size
  replace HOxp0_1 := Lib.hid om0
  replace HOxp0_2 := Lib.hid om1
  replace HOxp0_3 := Lib.hid om2
  clear t om0 om1 om2
  obtain ⟨kp0_, hkp0_a, hkp0_b, rfl⟩ : ∃ z : Int, 0 ≤ z ∧ z ≤ 1 + 1048576 * 4 ∧ e = .returned (.int .i64 z) := ⟨_, by omega, by omega, h2⟩
  clear h2
  clear HOxp0_1 HSHOxp0_1
  clear HOxp0_2 HSHOxp0_2
  clear HOxp0_3 HSHOxp0_3
  have hkneg : ¬ kp0_ < 0 := by omega
  go_wp2_with fail
  refine (eqGraph_ok _ w9.heap.size r0_0 r0_1 r0_2 r0_3 _ _ _ _ _ _ ?_ ?_ ?_ ?_ ?_ ?_ ?_).mono ?_
  · exact (HOgr0_1.out.rd).below (B' := w9.heap.size) (by repeat' (first | exact Below.refl _ _ | apply Below.drew | apply Below.setCell | apply Below.alloc | (simp; done) | omega | (simp; omega))) (Nat.le_refl _)
  · exact (HOgr0_2.out.rd).below (B' := w9.heap.size) (by repeat' (first | exact Below.refl _ _ | apply Below.drew | apply Below.setCell | apply Below.alloc | (simp; done) | omega | (simp; omega))) (Nat.le_refl _)
  · exact (HOgr0_3.out.rd).below (B' := w9.heap.size) (by repeat' (first | exact Below.refl _ _ | apply Below.drew | apply Below.setCell | apply Below.alloc | (simp; done) | omega | (simp; omega))) (Nat.le_refl _)
  · exact (HOwr0_1.out.rd).below (B' := w9.heap.size) (by repeat' (first | exact Below.refl _ _ | apply Below.drew | apply Below.setCell | apply Below.alloc | (simp; done) | omega | (simp; omega))) (Nat.le_refl _)
  · exact (HOwr0_2.out.rd).below (B' := w9.heap.size) (by repeat' (first | exact Below.refl _ _ | apply Below.drew | apply Below.setCell | apply Below.alloc | (simp; done) | omega | (simp; omega))) (Nat.le_refl _)
  · exact (HOwr0_3.out.rd).below (B' := w9.heap.size) (by repeat' (first | exact Below.refl _ _ | apply Below.drew | apply Below.setCell | apply Below.alloc | (simp; done) | omega | (simp; omega))) (Nat.le_refl _)
  · (first | exact Nat.le_refl _ | (simp; done) | (simp; omega))
  rintro e w10 ⟨rfl, b⟩
  have hstep : Below w9.heap.size w9 w10 := Below.trans (by repeat' (first | exact Below.refl _ _ | apply Below.drew | apply Below.setCell | apply Below.alloc | (simp; done) | omega | (simp; omega))) (b.mono (by (first | exact Nat.le_refl _ | (simp; done) | (simp; omega))))
  replace hpp0_0 := (hstep.cell (p := ⟨w.heap.size, 0, none⟩) hlhpp0_).trans hpp0_0
  replace hpp0_1 := (hstep.cell (p := ⟨w.heap.size, 1, none⟩) hlhpp0_).trans hpp0_1
  replace hpp0_2 := (hstep.cell (p := ⟨w.heap.size, 2, none⟩) hlhpp0_).trans hpp0_2
  replace hpp0_3 := (hstep.cell (p := ⟨w.heap.size, 3, none⟩) hlhpp0_).trans hpp0_3
  replace hlhpp0_ : w.heap.size < w10.heap.size := Nat.lt_of_lt_of_le hlhpp0_ hstep.size
  replace hwr0_0 := (hstep.cell (p := ⟨w4.heap.size, 0, none⟩) hlhwr0_).trans hwr0_0
  replace hwr0_1 := (hstep.cell (p := ⟨w4.heap.size, 1, none⟩) hlhwr0_).trans hwr0_1
  replace hwr0_2 := (hstep.cell (p := ⟨w4.heap.size, 2, none⟩) hlhwr0_).trans hwr0_2
  replace hwr0_3 := (hstep.cell (p := ⟨w4.heap.size, 3, none⟩) hlhwr0_).trans hwr0_3
  replace hlhwr0_ : w4.heap.size < w10.heap.size := Nat.lt_of_lt_of_le hlhwr0_ hstep.size
  replace hxp0_0 := (hstep.cell (p := ⟨w5.heap.size, 0, none⟩) hlhxp0_).trans hxp0_0
  replace hxp0_1 := (hstep.cell (p := ⟨w5.heap.size, 1, none⟩) hlhxp0_).trans hxp0_1
  replace hxp0_2 := (hstep.cell (p := ⟨w5.heap.size, 2, none⟩) hlhxp0_).trans hxp0_2
  replace hxp0_3 := (hstep.cell (p := ⟨w5.heap.size, 3, none⟩) hlhxp0_).trans hxp0_3
  replace hlhxp0_ : w5.heap.size < w10.heap.size := Nat.lt_of_lt_of_le hlhxp0_ hstep.size
  replace hgr0_0 := (hstep.cell (p := ⟨w6.heap.size, 0, none⟩) hlhgr0_).trans hgr0_0
  replace hgr0_1 := (hstep.cell (p := ⟨w6.heap.size, 1, none⟩) hlhgr0_).trans hgr0_1
  replace hgr0_2 := (hstep.cell (p := ⟨w6.heap.size, 2, none⟩) hlhgr0_).trans hgr0_2
  replace hgr0_3 := (hstep.cell (p := ⟨w6.heap.size, 3, none⟩) hlhgr0_).trans hgr0_3
  replace hlhgr0_ : w6.heap.size < w10.heap.size := Nat.lt_of_lt_of_le hlhgr0_ hstep.size
  replace HOwr0_1 := Lib.hid (HOwr0_1.out.below hstep (fun _ _ hq => hq))
  replace HOwr0_2 := Lib.hid (HOwr0_2.out.below hstep (fun _ _ hq => hq))
  replace HOwr0_3 := Lib.hid (HOwr0_3.out.below hstep (fun _ _ hq => hq))
  replace HOgr0_1 := Lib.hid (HOgr0_1.out.below hstep (fun _ _ hq => hq))
  replace HOgr0_2 := Lib.hid (HOgr0_2.out.below hstep (fun _ _ hq => hq))
  replace HOgr0_3 := Lib.hid (HOgr0_3.out.below hstep (fun _ _ hq => hq))
  replace HBN := Lib.hid (HBN.out.trans (hstep.mono HBN.out.size))
  have hzw10 : w9.heap.size ≤ w10.heap.size := hstep.size
  clear b hstep 
  have hcbr0_1 : cntE r0_1 ≤ 1099511627776 := HOgr0_1.out.2
  have hcbr0_2 : cntR r0_2 ≤ 1099511627776 := Nat.le_trans (cntR_le _) HOgr0_2.out.2
  have hcbr0_3 : cntR r0_3 ≤ 1099511627776 := Nat.le_trans (cntR_le _) HOgr0_3.out.2
  go_wp2_with fail
  refine (markGraph_ok _ r0_0 r0_1 r0_2 r0_3 _ _ _ SHOgr0_1 SHOgr0_2 SHOgr0_3 1 (HOgr0_1.out) (HOgr0_2.out) (HOgr0_3.out) (HDgr0_1_gr0_2.out) (HDgr0_1_gr0_3.out) (HDgr0_2_gr0_3.out) (by omega) (by omega)).mono ?_
  rintro e w11 ⟨h2, t, om0, om1, om2⟩
  replace hpp0_0 := (t.cellAt (p := ⟨w.heap.size, 0, none⟩) hlhpp0_ (fun hk => by rcases hk with hk | hk | hk <;> (first | (have := HSHOgr0_1.out _ hk; dsimp only at this; omega) | (have := HSHOgr0_2.out _ hk; dsimp only at this; omega) | (have := HSHOgr0_3.out _ hk; dsimp only at this; omega)))).trans hpp0_0
  replace hpp0_1 := (t.cellAt (p := ⟨w.heap.size, 1, none⟩) hlhpp0_ (fun hk => by rcases hk with hk | hk | hk <;> (first | (have := HSHOgr0_1.out _ hk; dsimp only at this; omega) | (have := HSHOgr0_2.out _ hk; dsimp only at this; omega) | (have := HSHOgr0_3.out _ hk; dsimp only at this; omega)))).trans hpp0_1
  replace hpp0_2 := (t.cellAt (p := ⟨w.heap.size, 2, none⟩) hlhpp0_ (fun hk => by rcases hk with hk | hk | hk <;> (first | (have := HSHOgr0_1.out _ hk; dsimp only at this; omega) | (have := HSHOgr0_2.out _ hk; dsimp only at this; omega) | (have := HSHOgr0_3.out _ hk; dsimp only at this; omega)))).trans hpp0_2
  replace hpp0_3 := (t.cellAt (p := ⟨w.heap.size, 3, none⟩) hlhpp0_ (fun hk => by rcases hk with hk | hk | hk <;> (first | (have := HSHOgr0_1.out _ hk; dsimp only at this; omega) | (have := HSHOgr0_2.out _ hk; dsimp only at this; omega) | (have := HSHOgr0_3.out _ hk; dsimp only at this; omega)))).trans hpp0_3
  replace hwr0_0 := (t.cellAt (p := ⟨w4.heap.size, 0, none⟩) hlhwr0_ (fun hk => by rcases hk with hk | hk | hk <;> (first | (have := HSHOgr0_1.out _ hk; dsimp only at this; omega) | (have := HSHOgr0_2.out _ hk; dsimp only at this; omega) | (have := HSHOgr0_3.out _ hk; dsimp only at this; omega)))).trans hwr0_0
  replace hwr0_1 := (t.cellAt (p := ⟨w4.heap.size, 1, none⟩) hlhwr0_ (fun hk => by rcases hk with hk | hk | hk <;> (first | (have := HSHOgr0_1.out _ hk; dsimp only at this; omega) | (have := HSHOgr0_2.out _ hk; dsimp only at this; omega) | (have := HSHOgr0_3.out _ hk; dsimp only at this; omega)))).trans hwr0_1
  replace hwr0_2 := (t.cellAt (p := ⟨w4.heap.size, 2, none⟩) hlhwr0_ (fun hk => by rcases hk with hk | hk | hk <;> (first | (have := HSHOgr0_1.out _ hk; dsimp only at this; omega) | (have := HSHOgr0_2.out _ hk; dsimp only at this; omega) | (have := HSHOgr0_3.out _ hk; dsimp only at this; omega)))).trans hwr0_2
  replace hwr0_3 := (t.cellAt (p := ⟨w4.heap.size, 3, none⟩) hlhwr0_ (fun hk => by rcases hk with hk | hk | hk <;> (first | (have := HSHOgr0_1.out _ hk; dsimp only at this; omega) | (have := HSHOgr0_2.out _ hk; dsimp only at this; omega) | (have := HSHOgr0_3.out _ hk; dsimp only at this; omega)))).trans hwr0_3
  replace hxp0_0 := (t.cellAt (p := ⟨w5.heap.size, 0, none⟩) hlhxp0_ (fun hk => by rcases hk with hk | hk | hk <;> (first | (have := HSHOgr0_1.out _ hk; dsimp only at this; omega) | (have := HSHOgr0_2.out _ hk; dsimp only at this; omega) | (have := HSHOgr0_3.out _ hk; dsimp only at this; omega)))).trans hxp0_0
  replace hxp0_1 := (t.cellAt (p := ⟨w5.heap.size, 1, none⟩) hlhxp0_ (fun hk => by rcases hk with hk | hk | hk <;> (first | (have := HSHOgr0_1.out _ hk; dsimp only at this; omega) | (have := HSHOgr0_2.out _ hk; dsimp only at this; omega) | (have := HSHOgr0_3.out _ hk; dsimp only at this; omega)))).trans hxp0_1
  replace hxp0_2 := (t.cellAt (p := ⟨w5.heap.size, 2, none⟩) hlhxp0_ (fun hk => by rcases hk with hk | hk | hk <;> (first | (have := HSHOgr0_1.out _ hk; dsimp only at this; omega) | (have := HSHOgr0_2.out _ hk; dsimp only at this; omega) | (have := HSHOgr0_3.out _ hk; dsimp only at this; omega)))).trans hxp0_2
  replace hxp0_3 := (t.cellAt (p := ⟨w5.heap.size, 3, none⟩) hlhxp0_ (fun hk => by rcases hk with hk | hk | hk <;> (first | (have := HSHOgr0_1.out _ hk; dsimp only at this; omega) | (have := HSHOgr0_2.out _ hk; dsimp only at this; omega) | (have := HSHOgr0_3.out _ hk; dsimp only at this; omega)))).trans hxp0_3
  replace hgr0_0 := (t.cellAt (p := ⟨w6.heap.size, 0, none⟩) hlhgr0_ (fun hk => by rcases hk with hk | hk | hk <;> (first | (have := HSHOgr0_1.out _ hk; dsimp only at this; omega) | (have := HSHOgr0_2.out _ hk; dsimp only at this; omega) | (have := HSHOgr0_3.out _ hk; dsimp only at this; omega)))).trans hgr0_0
  replace hgr0_1 := (t.cellAt (p := ⟨w6.heap.size, 1, none⟩) hlhgr0_ (fun hk => by rcases hk with hk | hk | hk <;> (first | (have := HSHOgr0_1.out _ hk; dsimp only at this; omega) | (have := HSHOgr0_2.out _ hk; dsimp only at this; omega) | (have := HSHOgr0_3.out _ hk; dsimp only at this; omega)))).trans hgr0_1
  replace hgr0_2 := (t.cellAt (p := ⟨w6.heap.size, 2, none⟩) hlhgr0_ (fun hk => by rcases hk with hk | hk | hk <;> (first | (have := HSHOgr0_1.out _ hk; dsimp only at this; omega) | (have := HSHOgr0_2.out _ hk; dsimp only at this; omega) | (have := HSHOgr0_3.out _ hk; dsimp only at this; omega)))).trans hgr0_2
  replace hgr0_3 := (t.cellAt (p := ⟨w6.heap.size, 3, none⟩) hlhgr0_ (fun hk => by rcases hk with hk | hk | hk <;> (first | (have := HSHOgr0_1.out _ hk; dsimp only at this; omega) | (have := HSHOgr0_2.out _ hk; dsimp only at this; omega) | (have := HSHOgr0_3.out _ hk; dsimp only at this; omega)))).trans hgr0_3
  replace hlhpp0_ : w.heap.size < w11.heap.size := Nat.lt_of_lt_of_le hlhpp0_ t.size
  replace hlhwr0_ : w4.heap.size < w11.heap.size := Nat.lt_of_lt_of_le hlhwr0_ t.size
  replace hlhxp0_ : w5.heap.size < w11.heap.size := Nat.lt_of_lt_of_le hlhxp0_ t.size
  replace hlhgr0_ : w6.heap.size < w11.heap.size := Nat.lt_of_lt_of_le hlhgr0_ t.size
  replace HOwr0_1 := Lib.hid (HOwr0_1.out.blocks (w' := w11) (fun q hq hql => t.block q hql (fun hx => by rcases hx with hx | hx | hx <;> (first | (have := HSHOgr0_1.out q hx; have := HSHOwr0_1.out q hq; omega) | (have := HSHOgr0_2.out q hx; have := HSHOwr0_1.out q hq; omega) | (have := HSHOgr0_3.out q hx; have := HSHOwr0_1.out q hq; omega)))))
  replace HOwr0_2 := Lib.hid (HOwr0_2.out.blocks (w' := w11) (fun q hq hql => t.block q hql (fun hx => by rcases hx with hx | hx | hx <;> (first | (have := HSHOgr0_1.out q hx; have := HSHOwr0_2.out q hq; omega) | (have := HSHOgr0_2.out q hx; have := HSHOwr0_2.out q hq; omega) | (have := HSHOgr0_3.out q hx; have := HSHOwr0_2.out q hq; omega)))))
  replace HOwr0_3 := Lib.hid (HOwr0_3.out.blocks (w' := w11) (fun q hq hql => t.block q hql (fun hx => by rcases hx with hx | hx | hx <;> (first | (have := HSHOgr0_1.out q hx; have := HSHOwr0_3.out q hq; omega) | (have := HSHOgr0_2.out q hx; have := HSHOwr0_3.out q hq; omega) | (have := HSHOgr0_3.out q hx; have := HSHOwr0_3.out q hq; omega)))))
  replace HBN := Lib.hid (HBN.out.trans (t.below HBN.out.size (fun k hk => by rcases hk with hk | hk | hk <;> (first | (have := HSHOgr0_1.out k hk; have := HBN.out.size; omega) | (have := HSHOgr0_2.out k hk; have := HBN.out.size; omega) | (have := HSHOgr0_3.out k hk; have := HBN.out.size; omega)))))
  have hzw11 : w10.heap.size ≤ w11.heap.size := t.size
  replace HOgr0_1 := Lib.hid om0
  replace HOgr0_2 := Lib.hid om1
  replace HOgr0_3 := Lib.hid om2
  clear t om0 om1 om2
  obtain ⟨mr0_, HMr0_, hmr0_a, hmr0_b, rfl⟩ : ∃ z : Int, Hid (1 + ((cntE r0_1 + cntR r0_2 + cntR r0_3 : Nat) : Int) = z) ∧ 0 ≤ z ∧ z ≤ 1 + 1099511627776 * 3 ∧ e = .returned (.int .i64 z) := ⟨_, Lib.hid rfl, by omega, by omega, h2⟩
  clear h2
  have hmm : (mr0_ != mr0_) = false := by simp
  go_wp2_with fail
  refine (heldGraph_ok _ w11.heap.size r0_0 r0_1 r0_2 r0_3 _ _ _ 1 ?_ ?_ ?_ ?_ (by omega) (by omega)).mono ?_
  · exact (HOgr0_1.out.rd).below (B' := w11.heap.size) (by repeat' (first | exact Below.refl _ _ | apply Below.drew | apply Below.setCell | apply Below.alloc | (simp; done) | omega | (simp; omega))) (Nat.le_refl _)
  · exact (HOgr0_2.out.rd).below (B' := w11.heap.size) (by repeat' (first | exact Below.refl _ _ | apply Below.drew | apply Below.setCell | apply Below.alloc | (simp; done) | omega | (simp; omega))) (Nat.le_refl _)
  · exact (HOgr0_3.out.rd).below (B' := w11.heap.size) (by repeat' (first | exact Below.refl _ _ | apply Below.drew | apply Below.setCell | apply Below.alloc | (simp; done) | omega | (simp; omega))) (Nat.le_refl _)
  · (first | exact Nat.le_refl _ | (simp; done) | (simp; omega))
  rintro e w12 ⟨h2, b⟩
  have hstep : Below w11.heap.size w11 w12 := Below.trans (by repeat' (first | exact Below.refl _ _ | apply Below.drew | apply Below.setCell | apply Below.alloc | (simp; done) | omega | (simp; omega))) (b.mono (by (first | exact Nat.le_refl _ | (simp; done) | (simp; omega))))
  replace hpp0_0 := (hstep.cell (p := ⟨w.heap.size, 0, none⟩) hlhpp0_).trans hpp0_0
  replace hpp0_1 := (hstep.cell (p := ⟨w.heap.size, 1, none⟩) hlhpp0_).trans hpp0_1
  replace hpp0_2 := (hstep.cell (p := ⟨w.heap.size, 2, none⟩) hlhpp0_).trans hpp0_2
  replace hpp0_3 := (hstep.cell (p := ⟨w.heap.size, 3, none⟩) hlhpp0_).trans hpp0_3
  replace hlhpp0_ : w.heap.size < w12.heap.size := Nat.lt_of_lt_of_le hlhpp0_ hstep.size
  replace hwr0_0 := (hstep.cell (p := ⟨w4.heap.size, 0, none⟩) hlhwr0_).trans hwr0_0
  replace hwr0_1 := (hstep.cell (p := ⟨w4.heap.size, 1, none⟩) hlhwr0_).trans hwr0_1
  replace hwr0_2 := (hstep.cell (p := ⟨w4.heap.size, 2, none⟩) hlhwr0_).trans hwr0_2
  replace hwr0_3 := (hstep.cell (p := ⟨w4.heap.size, 3, none⟩) hlhwr0_).trans hwr0_3
  replace hlhwr0_ : w4.heap.size < w12.heap.size := Nat.lt_of_lt_of_le hlhwr0_ hstep.size
  replace hxp0_0 := (hstep.cell (p := ⟨w5.heap.size, 0, none⟩) hlhxp0_).trans hxp0_0
  replace hxp0_1 := (hstep.cell (p := ⟨w5.heap.size, 1, none⟩) hlhxp0_).trans hxp0_1
  replace hxp0_2 := (hstep.cell (p := ⟨w5.heap.size, 2, none⟩) hlhxp0_).trans hxp0_2
  replace hxp0_3 := (hstep.cell (p := ⟨w5.heap.size, 3, none⟩) hlhxp0_).trans hxp0_3
  replace hlhxp0_ : w5.heap.size < w12.heap.size := Nat.lt_of_lt_of_le hlhxp0_ hstep.size
  replace hgr0_0 := (hstep.cell (p := ⟨w6.heap.size, 0, none⟩) hlhgr0_).trans hgr0_0
  replace hgr0_1 := (hstep.cell (p := ⟨w6.heap.size, 1, none⟩) hlhgr0_).trans hgr0_1
  replace hgr0_2 := (hstep.cell (p := ⟨w6.heap.size, 2, none⟩) hlhgr0_).trans hgr0_2
  replace hgr0_3 := (hstep.cell (p := ⟨w6.heap.size, 3, none⟩) hlhgr0_).trans hgr0_3
  replace hlhgr0_ : w6.heap.size < w12.heap.size := Nat.lt_of_lt_of_le hlhgr0_ hstep.size
  replace HOwr0_1 := Lib.hid (HOwr0_1.out.below hstep (fun _ _ hq => hq))
  replace HOwr0_2 := Lib.hid (HOwr0_2.out.below hstep (fun _ _ hq => hq))
  replace HOwr0_3 := Lib.hid (HOwr0_3.out.below hstep (fun _ _ hq => hq))
  replace HOgr0_1 := Lib.hid (HOgr0_1.out.below hstep (fun _ _ hq => hq))
  replace HOgr0_2 := Lib.hid (HOgr0_2.out.below hstep (fun _ _ hq => hq))
  replace HOgr0_3 := Lib.hid (HOgr0_3.out.below hstep (fun _ _ hq => hq))
  replace HBN := Lib.hid (HBN.out.trans (hstep.mono HBN.out.size))
  have hzw12 : w11.heap.size ≤ w12.heap.size := hstep.size
  clear b hstep 
  rw [HMr0_.out] at h2
  subst h2
  have hmneg : ¬ mr0_ < 0 := by omega
  go_wp2_with fail
  refine (toGraph_ok _ w.heap.size p0_0 p0_1 p0_2 p0_3 _ _ _ ?_ ?_ ?_ ?_ hsp0_1 hsp0_2 hsp0_3).mono ?_
  · exact (HVp0_1.out.below HBN.out (Nat.le_refl _)).below (B' := w12.heap.size) (by repeat' (first | exact Below.refl _ _ | apply Below.drew | apply Below.setCell | apply Below.alloc | (simp; done) | omega | (simp; omega))) HBN.out.size
  · exact (HVp0_2.out.below HBN.out (Nat.le_refl _)).below (B' := w12.heap.size) (by repeat' (first | exact Below.refl _ _ | apply Below.drew | apply Below.setCell | apply Below.alloc | (simp; done) | omega | (simp; omega))) HBN.out.size
  · exact (HVp0_3.out.below HBN.out (Nat.le_refl _)).below (B' := w12.heap.size) (by repeat' (first | exact Below.refl _ _ | apply Below.drew | apply Below.setCell | apply Below.alloc | (simp; done) | omega | (simp; omega))) HBN.out.size
  · (have := HBN.out.size; first | exact this | (simp; done) | (simp; omega))
  rintro e w13 ⟨vyp0_1, vyp0_2, vyp0_3, Typ0_1, Typ0_2, Typ0_3, rfl, b, loyp0_1, loyp0_2, loyp0_3, disyp0_1_yp0_2, disyp0_1_yp0_3, disyp0_2_yp0_3, oyp0_1, oyp0_2, oyp0_3⟩
  obtain ⟨Ayp0_1, cyp0_1, rfl⟩ := oyp0_1.len
  obtain ⟨Ayp0_2, cyp0_2, rfl⟩ := oyp0_2.len
  obtain ⟨Ayp0_3, cyp0_3, rfl⟩ := oyp0_3.len
  have hstep : Below w12.heap.size w12 w13 := Below.trans (by repeat' (first | exact Below.refl _ _ | apply Below.drew | apply Below.setCell | apply Below.alloc | (simp; done) | omega | (simp; omega))) (b.mono (by (first | exact Nat.le_refl _ | (simp; done) | (simp; omega))))
  replace hpp0_0 := (hstep.cell (p := ⟨w.heap.size, 0, none⟩) hlhpp0_).trans hpp0_0
  replace hpp0_1 := (hstep.cell (p := ⟨w.heap.size, 1, none⟩) hlhpp0_).trans hpp0_1
  replace hpp0_2 := (hstep.cell (p := ⟨w.heap.size, 2, none⟩) hlhpp0_).trans hpp0_2
  replace hpp0_3 := (hstep.cell (p := ⟨w.heap.size, 3, none⟩) hlhpp0_).trans hpp0_3
  replace hlhpp0_ : w.heap.size < w13.heap.size := Nat.lt_of_lt_of_le hlhpp0_ hstep.size
  replace hwr0_0 := (hstep.cell (p := ⟨w4.heap.size, 0, none⟩) hlhwr0_).trans hwr0_0
  replace hwr0_1 := (hstep.cell (p := ⟨w4.heap.size, 1, none⟩) hlhwr0_).trans hwr0_1
  replace hwr0_2 := (hstep.cell (p := ⟨w4.heap.size, 2, none⟩) hlhwr0_).trans hwr0_2
  replace hwr0_3 := (hstep.cell (p := ⟨w4.heap.size, 3, none⟩) hlhwr0_).trans hwr0_3
  replace hlhwr0_ : w4.heap.size < w13.heap.size := Nat.lt_of_lt_of_le hlhwr0_ hstep.size
  replace hxp0_0 := (hstep.cell (p := ⟨w5.heap.size, 0, none⟩) hlhxp0_).trans hxp0_0
  replace hxp0_1 := (hstep.cell (p := ⟨w5.heap.size, 1, none⟩) hlhxp0_).trans hxp0_1
  replace hxp0_2 := (hstep.cell (p := ⟨w5.heap.size, 2, none⟩) hlhxp0_).trans hxp0_2
  replace hxp0_3 := (hstep.cell (p := ⟨w5.heap.size, 3, none⟩) hlhxp0_).trans hxp0_3
  replace hlhxp0_ : w5.heap.size < w13.heap.size := Nat.lt_of_lt_of_le hlhxp0_ hstep.size
  replace hgr0_0 := (hstep.cell (p := ⟨w6.heap.size, 0, none⟩) hlhgr0_).trans hgr0_0
  replace hgr0_1 := (hstep.cell (p := ⟨w6.heap.size, 1, none⟩) hlhgr0_).trans hgr0_1
  replace hgr0_2 := (hstep.cell (p := ⟨w6.heap.size, 2, none⟩) hlhgr0_).trans hgr0_2
  replace hgr0_3 := (hstep.cell (p := ⟨w6.heap.size, 3, none⟩) hlhgr0_).trans hgr0_3
  replace hlhgr0_ : w6.heap.size < w13.heap.size := Nat.lt_of_lt_of_le hlhgr0_ hstep.size
  replace HOwr0_1 := Lib.hid (HOwr0_1.out.below hstep (fun _ _ hq => hq))
  replace HOwr0_2 := Lib.hid (HOwr0_2.out.below hstep (fun _ _ hq => hq))
  replace HOwr0_3 := Lib.hid (HOwr0_3.out.below hstep (fun _ _ hq => hq))
  replace HOgr0_1 := Lib.hid (HOgr0_1.out.below hstep (fun _ _ hq => hq))
  replace HOgr0_2 := Lib.hid (HOgr0_2.out.below hstep (fun _ _ hq => hq))
  replace HOgr0_3 := Lib.hid (HOgr0_3.out.below hstep (fun _ _ hq => hq))
  replace HBN := Lib.hid (HBN.out.trans (hstep.mono HBN.out.size))
  have hzw13 : w12.heap.size ≤ w13.heap.size := hstep.size
  obtain ⟨SHOyp0_1, HSHOyp0_1, HTHOyp0_1, HOyp0_1⟩ : ∃ S : Nat → Prop, Hid (∀ k, S k → w12.heap.size + 0 ≤ k ∧ k < w13.heap.size) ∧ Hid (∀ k, S k → Typ0_1 k) ∧ Hid (OwnE w13 S (.slice Ayp0_1 p0_1.length cyp0_1) p0_1) := ⟨fun k => Typ0_1 k ∧ k < w13.heap.size, Lib.hid (fun k hk => ⟨by have hk3 := loyp0_1 k hk.1; (try simp at hk3); omega, hk.2⟩), Lib.hid (fun k hk => hk.1), Lib.hid (oyp0_1.mono (fun k hk hk2 => ⟨hk, hk2⟩))⟩
  obtain ⟨SHOyp0_2, HSHOyp0_2, HTHOyp0_2, HOyp0_2⟩ : ∃ S : Nat → Prop, Hid (∀ k, S k → w12.heap.size + 0 ≤ k ∧ k < w13.heap.size) ∧ Hid (∀ k, S k → Typ0_2 k) ∧ Hid (OwnR w13 S (.slice Ayp0_2 p0_2.length cyp0_2) p0_2) := ⟨fun k => Typ0_2 k ∧ k < w13.heap.size, Lib.hid (fun k hk => ⟨by have hk3 := loyp0_2 k hk.1; (try simp at hk3); omega, hk.2⟩), Lib.hid (fun k hk => hk.1), Lib.hid (oyp0_2.mono (fun k hk hk2 => ⟨hk, hk2⟩))⟩
  obtain ⟨SHOyp0_3, HSHOyp0_3, HTHOyp0_3, HOyp0_3⟩ : ∃ S : Nat → Prop, Hid (∀ k, S k → w12.heap.size + 0 ≤ k ∧ k < w13.heap.size) ∧ Hid (∀ k, S k → Typ0_3 k) ∧ Hid (OwnR w13 S (.slice Ayp0_3 p0_3.length cyp0_3) p0_3) := ⟨fun k => Typ0_3 k ∧ k < w13.heap.size, Lib.hid (fun k hk => ⟨by have hk3 := loyp0_3 k hk.1; (try simp at hk3); omega, hk.2⟩), Lib.hid (fun k hk => hk.1), Lib.hid (oyp0_3.mono (fun k hk hk2 => ⟨hk, hk2⟩))⟩
  have HDyp0_1_yp0_2 := Lib.hid (show ∀ k, SHOyp0_1 k → SHOyp0_2 k → False from fun k h1 h2 => disyp0_1_yp0_2 k (HTHOyp0_1.out k h1) (HTHOyp0_2.out k h2))
  have HDyp0_1_yp0_3 := Lib.hid (show ∀ k, SHOyp0_1 k → SHOyp0_3 k → False from fun k h1 h2 => disyp0_1_yp0_3 k (HTHOyp0_1.out k h1) (HTHOyp0_3.out k h2))
  have HDyp0_2_yp0_3 := Lib.hid (show ∀ k, SHOyp0_2 k → SHOyp0_3 k → False from fun k h1 h2 => disyp0_2_yp0_3 k (HTHOyp0_2.out k h1) (HTHOyp0_3.out k h2))
  clear HTHOyp0_1 HTHOyp0_2 HTHOyp0_3
  clear b hstep oyp0_1 oyp0_2 oyp0_3 loyp0_1 loyp0_2 loyp0_3 disyp0_1_yp0_2 disyp0_1_yp0_3 disyp0_2_yp0_3
  go_wp2_with fail
  refine (HIM.out _ w13.heap.size _ _ _ ?_ ?_ ?_ ?_ hsp0_1 hsp0_2 hsp0_3).mono ?_
  · exact (HOyp0_1.out.rd).below (B' := w13.heap.size) (by repeat' (first | exact Below.refl _ _ | apply Below.drew | apply Below.setCell | apply Below.alloc | (simp; done) | omega | (simp; omega))) (Nat.le_refl _)
  · exact (HOyp0_2.out.rd).below (B' := w13.heap.size) (by repeat' (first | exact Below.refl _ _ | apply Below.drew | apply Below.setCell | apply Below.alloc | (simp; done) | omega | (simp; omega))) (Nat.le_refl _)
  · exact (HOyp0_3.out.rd).below (B' := w13.heap.size) (by repeat' (first | exact Below.refl _ _ | apply Below.drew | apply Below.setCell | apply Below.alloc | (simp; done) | omega | (simp; omega))) (Nat.le_refl _)
  · (first | exact Nat.le_refl _ | (simp; done) | (simp; omega))
  rintro e w14 ⟨vhr0_1, vhr0_2, vhr0_3, Thr0_1, Thr0_2, Thr0_3, rfl, b, lohr0_1, lohr0_2, lohr0_3, dishr0_1_hr0_2, dishr0_1_hr0_3, dishr0_2_hr0_3, ohr0_1, ohr0_2, ohr0_3⟩
  obtain ⟨Ahr0_1, chr0_1, rfl⟩ := ohr0_1.len
  obtain ⟨Ahr0_2, chr0_2, rfl⟩ := ohr0_2.len
  obtain ⟨Ahr0_3, chr0_3, rfl⟩ := ohr0_3.len
  have hstep : Below w13.heap.size w13 w14 := Below.trans (by repeat' (first | exact Below.refl _ _ | apply Below.drew | apply Below.setCell | apply Below.alloc | (simp; done) | omega | (simp; omega))) (b.mono (by (first | exact Nat.le_refl _ | (simp; done) | (simp; omega))))
  replace hpp0_0 := (hstep.cell (p := ⟨w.heap.size, 0, none⟩) hlhpp0_).trans hpp0_0
  replace hpp0_1 := (hstep.cell (p := ⟨w.heap.size, 1, none⟩) hlhpp0_).trans hpp0_1
  replace hpp0_2 := (hstep.cell (p := ⟨w.heap.size, 2, none⟩) hlhpp0_).trans hpp0_2
  replace hpp0_3 := (hstep.cell (p := ⟨w.heap.size, 3, none⟩) hlhpp0_).trans hpp0_3
  replace hlhpp0_ : w.heap.size < w14.heap.size := Nat.lt_of_lt_of_le hlhpp0_ hstep.size
  replace hwr0_0 := (hstep.cell (p := ⟨w4.heap.size, 0, none⟩) hlhwr0_).trans hwr0_0
  replace hwr0_1 := (hstep.cell (p := ⟨w4.heap.size, 1, none⟩) hlhwr0_).trans hwr0_1
  replace hwr0_2 := (hstep.cell (p := ⟨w4.heap.size, 2, none⟩) hlhwr0_).trans hwr0_2
  replace hwr0_3 := (hstep.cell (p := ⟨w4.heap.size, 3, none⟩) hlhwr0_).trans hwr0_3
  replace hlhwr0_ : w4.heap.size < w14.heap.size := Nat.lt_of_lt_of_le hlhwr0_ hstep.size
  replace hxp0_0 := (hstep.cell (p := ⟨w5.heap.size, 0, none⟩) hlhxp0_).trans hxp0_0
  replace hxp0_1 := (hstep.cell (p := ⟨w5.heap.size, 1, none⟩) hlhxp0_).trans hxp0_1
  replace hxp0_2 := (hstep.cell (p := ⟨w5.heap.size, 2, none⟩) hlhxp0_).trans hxp0_2
  replace hxp0_3 := (hstep.cell (p := ⟨w5.heap.size, 3, none⟩) hlhxp0_).trans hxp0_3
  replace hlhxp0_ : w5.heap.size < w14.heap.size := Nat.lt_of_lt_of_le hlhxp0_ hstep.size
  replace hgr0_0 := (hstep.cell (p := ⟨w6.heap.size, 0, none⟩) hlhgr0_).trans hgr0_0
  replace hgr0_1 := (hstep.cell (p := ⟨w6.heap.size, 1, none⟩) hlhgr0_).trans hgr0_1
  replace hgr0_2 := (hstep.cell (p := ⟨w6.heap.size, 2, none⟩) hlhgr0_).trans hgr0_2
  replace hgr0_3 := (hstep.cell (p := ⟨w6.heap.size, 3, none⟩) hlhgr0_).trans hgr0_3
  replace hlhgr0_ : w6.heap.size < w14.heap.size := Nat.lt_of_lt_of_le hlhgr0_ hstep.size
  replace HOwr0_1 := Lib.hid (HOwr0_1.out.below hstep (fun _ _ hq => hq))
  replace HOwr0_2 := Lib.hid (HOwr0_2.out.below hstep (fun _ _ hq => hq))
  replace HOwr0_3 := Lib.hid (HOwr0_3.out.below hstep (fun _ _ hq => hq))
  replace HOgr0_1 := Lib.hid (HOgr0_1.out.below hstep (fun _ _ hq => hq))
  replace HOgr0_2 := Lib.hid (HOgr0_2.out.below hstep (fun _ _ hq => hq))
  replace HOgr0_3 := Lib.hid (HOgr0_3.out.below hstep (fun _ _ hq => hq))
  replace HOyp0_1 := Lib.hid (HOyp0_1.out.below hstep (fun _ _ hq => hq))
  replace HOyp0_2 := Lib.hid (HOyp0_2.out.below hstep (fun _ _ hq => hq))
  replace HOyp0_3 := Lib.hid (HOyp0_3.out.below hstep (fun _ _ hq => hq))
  replace HBN := Lib.hid (HBN.out.trans (hstep.mono HBN.out.size))
  have hzw14 : w13.heap.size ≤ w14.heap.size := hstep.size
  obtain ⟨SHOhr0_1, HSHOhr0_1, HTHOhr0_1, HOhr0_1⟩ : ∃ S : Nat → Prop, Hid (∀ k, S k → w13.heap.size + 0 ≤ k ∧ k < w14.heap.size) ∧ Hid (∀ k, S k → Thr0_1 k) ∧ Hid (OwnE w14 S (.slice Ahr0_1 r0_1.length chr0_1) r0_1) := ⟨fun k => Thr0_1 k ∧ k < w14.heap.size, Lib.hid (fun k hk => ⟨by have hk3 := lohr0_1 k hk.1; (try simp at hk3); omega, hk.2⟩), Lib.hid (fun k hk => hk.1), Lib.hid (ohr0_1.mono (fun k hk hk2 => ⟨hk, hk2⟩))⟩
  obtain ⟨SHOhr0_2, HSHOhr0_2, HTHOhr0_2, HOhr0_2⟩ : ∃ S : Nat → Prop, Hid (∀ k, S k → w13.heap.size + 0 ≤ k ∧ k < w14.heap.size) ∧ Hid (∀ k, S k → Thr0_2 k) ∧ Hid (OwnR w14 S (.slice Ahr0_2 r0_2.length chr0_2) r0_2) := ⟨fun k => Thr0_2 k ∧ k < w14.heap.size, Lib.hid (fun k hk => ⟨by have hk3 := lohr0_2 k hk.1; (try simp at hk3); omega, hk.2⟩), Lib.hid (fun k hk => hk.1), Lib.hid (ohr0_2.mono (fun k hk hk2 => ⟨hk, hk2⟩))⟩
  obtain ⟨SHOhr0_3, HSHOhr0_3, HTHOhr0_3, HOhr0_3⟩ : ∃ S : Nat → Prop, Hid (∀ k, S k → w13.heap.size + 0 ≤ k ∧ k < w14.heap.size) ∧ Hid (∀ k, S k → Thr0_3 k) ∧ Hid (OwnR w14 S (.slice Ahr0_3 r0_3.length chr0_3) r0_3) := ⟨fun k => Thr0_3 k ∧ k < w14.heap.size, Lib.hid (fun k hk => ⟨by have hk3 := lohr0_3 k hk.1; (try simp at hk3); omega, hk.2⟩), Lib.hid (fun k hk => hk.1), Lib.hid (ohr0_3.mono (fun k hk hk2 => ⟨hk, hk2⟩))⟩
  have HDhr0_1_hr0_2 := Lib.hid (show ∀ k, SHOhr0_1 k → SHOhr0_2 k → False from fun k h1 h2 => dishr0_1_hr0_2 k (HTHOhr0_1.out k h1) (HTHOhr0_2.out k h2))
  have HDhr0_1_hr0_3 := Lib.hid (show ∀ k, SHOhr0_1 k → SHOhr0_3 k → False from fun k h1 h2 => dishr0_1_hr0_3 k (HTHOhr0_1.out k h1) (HTHOhr0_3.out k h2))
  have HDhr0_2_hr0_3 := Lib.hid (show ∀ k, SHOhr0_2 k → SHOhr0_3 k → False from fun k h1 h2 => dishr0_2_hr0_3 k (HTHOhr0_2.out k h1) (HTHOhr0_3.out k h2))
  clear HTHOhr0_1 HTHOhr0_2 HTHOhr0_3
  clear b hstep ohr0_1 ohr0_2 ohr0_3 lohr0_1 lohr0_2 lohr0_3 dishr0_1_hr0_2 dishr0_1_hr0_3 dishr0_2_hr0_3
  clear HOyp0_1 HSHOyp0_1
  clear HOyp0_2 HSHOyp0_2
  clear HOyp0_3 HSHOyp0_3
  go_wp2_with fail
  refine (eqGraph_ok _ w14.heap.size r0_0 r0_1 r0_2 r0_3 _ _ _ _ _ _ ?_ ?_ ?_ ?_ ?_ ?_ ?_).mono ?_
  · exact (HOhr0_1.out.rd).below (B' := w14.heap.size) (by repeat' (first | exact Below.refl _ _ | apply Below.drew | apply Below.setCell | apply Below.alloc | (simp; done) | omega | (simp; omega))) (Nat.le_refl _)
  · exact (HOhr0_2.out.rd).below (B' := w14.heap.size) (by repeat' (first | exact Below.refl _ _ | apply Below.drew | apply Below.setCell | apply Below.alloc | (simp; done) | omega | (simp; omega))) (Nat.le_refl _)
  · exact (HOhr0_3.out.rd).below (B' := w14.heap.size) (by repeat' (first | exact Below.refl _ _ | apply Below.drew | apply Below.setCell | apply Below.alloc | (simp; done) | omega | (simp; omega))) (Nat.le_refl _)
  · exact (HOwr0_1.out.rd).below (B' := w14.heap.size) (by repeat' (first | exact Below.refl _ _ | apply Below.drew | apply Below.setCell | apply Below.alloc | (simp; done) | omega | (simp; omega))) (Nat.le_refl _)
  · exact (HOwr0_2.out.rd).below (B' := w14.heap.size) (by repeat' (first | exact Below.refl _ _ | apply Below.drew | apply Below.setCell | apply Below.alloc | (simp; done) | omega | (simp; omega))) (Nat.le_refl _)
  · exact (HOwr0_3.out.rd).below (B' := w14.heap.size) (by repeat' (first | exact Below.refl _ _ | apply Below.drew | apply Below.setCell | apply Below.alloc | (simp; done) | omega | (simp; omega))) (Nat.le_refl _)
  · (first | exact Nat.le_refl _ | (simp; done) | (simp; omega))
  rintro e w15 ⟨rfl, b⟩
  have hstep : Below w14.heap.size w14 w15 := Below.trans (by repeat' (first | exact Below.refl _ _ | apply Below.drew | apply Below.setCell | apply Below.alloc | (simp; done) | omega | (simp; omega))) (b.mono (by (first | exact Nat.le_refl _ | (simp; done) | (simp; omega))))
  replace hpp0_0 := (hstep.cell (p := ⟨w.heap.size, 0, none⟩) hlhpp0_).trans hpp0_0
  replace hpp0_1 := (hstep.cell (p := ⟨w.heap.size, 1, none⟩) hlhpp0_).trans hpp0_1
  replace hpp0_2 := (hstep.cell (p := ⟨w.heap.size, 2, none⟩) hlhpp0_).trans hpp0_2
  replace hpp0_3 := (hstep.cell (p := ⟨w.heap.size, 3, none⟩) hlhpp0_).trans hpp0_3
  replace hlhpp0_ : w.heap.size < w15.heap.size := Nat.lt_of_lt_of_le hlhpp0_ hstep.size
  replace hwr0_0 := (hstep.cell (p := ⟨w4.heap.size, 0, none⟩) hlhwr0_).trans hwr0_0
  replace hwr0_1 := (hstep.cell (p := ⟨w4.heap.size, 1, none⟩) hlhwr0_).trans hwr0_1
  replace hwr0_2 := (hstep.cell (p := ⟨w4.heap.size, 2, none⟩) hlhwr0_).trans hwr0_2
  replace hwr0_3 := (hstep.cell (p := ⟨w4.heap.size, 3, none⟩) hlhwr0_).trans hwr0_3
  replace hlhwr0_ : w4.heap.size < w15.heap.size := Nat.lt_of_lt_of_le hlhwr0_ hstep.size
  replace hxp0_0 := (hstep.cell (p := ⟨w5.heap.size, 0, none⟩) hlhxp0_).trans hxp0_0
  replace hxp0_1 := (hstep.cell (p := ⟨w5.heap.size, 1, none⟩) hlhxp0_).trans hxp0_1
  replace hxp0_2 := (hstep.cell (p := ⟨w5.heap.size, 2, none⟩) hlhxp0_).trans hxp0_2
  replace hxp0_3 := (hstep.cell (p := ⟨w5.heap.size, 3, none⟩) hlhxp0_).trans hxp0_3
  replace hlhxp0_ : w5.heap.size < w15.heap.size := Nat.lt_of_lt_of_le hlhxp0_ hstep.size
  replace hgr0_0 := (hstep.cell (p := ⟨w6.heap.size, 0, none⟩) hlhgr0_).trans hgr0_0
  replace hgr0_1 := (hstep.cell (p := ⟨w6.heap.size, 1, none⟩) hlhgr0_).trans hgr0_1
  replace hgr0_2 := (hstep.cell (p := ⟨w6.heap.size, 2, none⟩) hlhgr0_).trans hgr0_2
  replace hgr0_3 := (hstep.cell (p := ⟨w6.heap.size, 3, none⟩) hlhgr0_).trans hgr0_3
  replace hlhgr0_ : w6.heap.size < w15.heap.size := Nat.lt_of_lt_of_le hlhgr0_ hstep.size
  replace HOwr0_1 := Lib.hid (HOwr0_1.out.below hstep (fun _ _ hq => hq))
  replace HOwr0_2 := Lib.hid (HOwr0_2.out.below hstep (fun _ _ hq => hq))
  replace HOwr0_3 := Lib.hid (HOwr0_3.out.below hstep (fun _ _ hq => hq))
  replace HOgr0_1 := Lib.hid (HOgr0_1.out.below hstep (fun _ _ hq => hq))
  replace HOgr0_2 := Lib.hid (HOgr0_2.out.below hstep (fun _ _ hq => hq))
  replace HOgr0_3 := Lib.hid (HOgr0_3.out.below hstep (fun _ _ hq => hq))
  replace HOhr0_1 := Lib.hid (HOhr0_1.out.below hstep (fun _ _ hq => hq))
  replace HOhr0_2 := Lib.hid (HOhr0_2.out.below hstep (fun _ _ hq => hq))
  replace HOhr0_3 := Lib.hid (HOhr0_3.out.below hstep (fun _ _ hq => hq))
  replace HBN := Lib.hid (HBN.out.trans (hstep.mono HBN.out.size))
  have hzw15 : w14.heap.size ≤ w15.heap.size := hstep.size
  have hhr0_0 : w15.cell? ⟨w14.heap.size, 0, none⟩ = some (.int .i64 r0_0) := by have := b.cell (p := ⟨w14.heap.size, 0, none⟩) (by first | (simp; done) | (simp; omega)); simpa [go_sem] using this
  have hhr0_1 : w15.cell? ⟨w14.heap.size, 1, none⟩ = some (.slice Ahr0_1 r0_1.length chr0_1) := by have := b.cell (p := ⟨w14.heap.size, 1, none⟩) (by first | (simp; done) | (simp; omega)); simpa [go_sem] using this
  have hhr0_2 : w15.cell? ⟨w14.heap.size, 2, none⟩ = some (.slice Ahr0_2 r0_2.length chr0_2) := by have := b.cell (p := ⟨w14.heap.size, 2, none⟩) (by first | (simp; done) | (simp; omega)); simpa [go_sem] using this
  have hhr0_3 : w15.cell? ⟨w14.heap.size, 3, none⟩ = some (.slice Ahr0_3 r0_3.length chr0_3) := by have := b.cell (p := ⟨w14.heap.size, 3, none⟩) (by first | (simp; done) | (simp; omega)); simpa [go_sem] using this
  have hlhhr0_ : w14.heap.size < w15.heap.size := by have := b.size; simp at this; omega
  have hlhhr0_q := hlhhr0_
  clear b hstep 
  go_wp2_with fail
  refine (heldGraph_ok _ w15.heap.size r0_0 r0_1 r0_2 r0_3 _ _ _ 1 ?_ ?_ ?_ ?_ (by omega) (by omega)).mono ?_
  · exact (HOgr0_1.out.rd).below (B' := w15.heap.size) (by repeat' (first | exact Below.refl _ _ | apply Below.drew | apply Below.setCell | apply Below.alloc | (simp; done) | omega | (simp; omega))) (Nat.le_refl _)
  · exact (HOgr0_2.out.rd).below (B' := w15.heap.size) (by repeat' (first | exact Below.refl _ _ | apply Below.drew | apply Below.setCell | apply Below.alloc | (simp; done) | omega | (simp; omega))) (Nat.le_refl _)
  · exact (HOgr0_3.out.rd).below (B' := w15.heap.size) (by repeat' (first | exact Below.refl _ _ | apply Below.drew | apply Below.setCell | apply Below.alloc | (simp; done) | omega | (simp; omega))) (Nat.le_refl _)
  · (first | exact Nat.le_refl _ | (simp; done) | (simp; omega))
  rintro e w16 ⟨h2, b⟩
  have hstep : Below w15.heap.size w15 w16 := Below.trans (by repeat' (first | exact Below.refl _ _ | apply Below.drew | apply Below.setCell | apply Below.alloc | (simp; done) | omega | (simp; omega))) (b.mono (by (first | exact Nat.le_refl _ | (simp; done) | (simp; omega))))
  replace hpp0_0 := (hstep.cell (p := ⟨w.heap.size, 0, none⟩) hlhpp0_).trans hpp0_0
  replace hpp0_1 := (hstep.cell (p := ⟨w.heap.size, 1, none⟩) hlhpp0_).trans hpp0_1
  replace hpp0_2 := (hstep.cell (p := ⟨w.heap.size, 2, none⟩) hlhpp0_).trans hpp0_2
  replace hpp0_3 := (hstep.cell (p := ⟨w.heap.size, 3, none⟩) hlhpp0_).trans hpp0_3
  replace hlhpp0_ : w.heap.size < w16.heap.size := Nat.lt_of_lt_of_le hlhpp0_ hstep.size
  replace hwr0_0 := (hstep.cell (p := ⟨w4.heap.size, 0, none⟩) hlhwr0_).trans hwr0_0
  replace hwr0_1 := (hstep.cell (p := ⟨w4.heap.size, 1, none⟩) hlhwr0_).trans hwr0_1
  replace hwr0_2 := (hstep.cell (p := ⟨w4.heap.size, 2, none⟩) hlhwr0_).trans hwr0_2
  replace hwr0_3 := (hstep.cell (p := ⟨w4.heap.size, 3, none⟩) hlhwr0_).trans hwr0_3
  replace hlhwr0_ : w4.heap.size < w16.heap.size := Nat.lt_of_lt_of_le hlhwr0_ hstep.size
  replace hxp0_0 := (hstep.cell (p := ⟨w5.heap.size, 0, none⟩) hlhxp0_).trans hxp0_0
  replace hxp0_1 := (hstep.cell (p := ⟨w5.heap.size, 1, none⟩) hlhxp0_).trans hxp0_1
  replace hxp0_2 := (hstep.cell (p := ⟨w5.heap.size, 2, none⟩) hlhxp0_).trans hxp0_2
  replace hxp0_3 := (hstep.cell (p := ⟨w5.heap.size, 3, none⟩) hlhxp0_).trans hxp0_3
  replace hlhxp0_ : w5.heap.size < w16.heap.size := Nat.lt_of_lt_of_le hlhxp0_ hstep.size
  replace hgr0_0 := (hstep.cell (p := ⟨w6.heap.size, 0, none⟩) hlhgr0_).trans hgr0_0
  replace hgr0_1 := (hstep.cell (p := ⟨w6.heap.size, 1, none⟩) hlhgr0_).trans hgr0_1
  replace hgr0_2 := (hstep.cell (p := ⟨w6.heap.size, 2, none⟩) hlhgr0_).trans hgr0_2
  replace hgr0_3 := (hstep.cell (p := ⟨w6.heap.size, 3, none⟩) hlhgr0_).trans hgr0_3
  replace hlhgr0_ : w6.heap.size < w16.heap.size := Nat.lt_of_lt_of_le hlhgr0_ hstep.size
  replace hhr0_0 := (hstep.cell (p := ⟨w14.heap.size, 0, none⟩) hlhhr0_).trans hhr0_0
  replace hhr0_1 := (hstep.cell (p := ⟨w14.heap.size, 1, none⟩) hlhhr0_).trans hhr0_1
  replace hhr0_2 := (hstep.cell (p := ⟨w14.heap.size, 2, none⟩) hlhhr0_).trans hhr0_2
  replace hhr0_3 := (hstep.cell (p := ⟨w14.heap.size, 3, none⟩) hlhhr0_).trans hhr0_3
  replace hlhhr0_ : w14.heap.size < w16.heap.size := Nat.lt_of_lt_of_le hlhhr0_ hstep.size
  replace HOwr0_1 := Lib.hid (HOwr0_1.out.below hstep (fun _ _ hq => hq))
  replace HOwr0_2 := Lib.hid (HOwr0_2.out.below hstep (fun _ _ hq => hq))
  replace HOwr0_3 := Lib.hid (HOwr0_3.out.below hstep (fun _ _ hq => hq))
  replace HOgr0_1 := Lib.hid (HOgr0_1.out.below hstep (fun _ _ hq => hq))
  replace HOgr0_2 := Lib.hid (HOgr0_2.out.below hstep (fun _ _ hq => hq))
  replace HOgr0_3 := Lib.hid (HOgr0_3.out.below hstep (fun _ _ hq => hq))
  replace HOhr0_1 := Lib.hid (HOhr0_1.out.below hstep (fun _ _ hq => hq))
  replace HOhr0_2 := Lib.hid (HOhr0_2.out.below hstep (fun _ _ hq => hq))
  replace HOhr0_3 := Lib.hid (HOhr0_3.out.below hstep (fun _ _ hq => hq))
  replace HBN := Lib.hid (HBN.out.trans (hstep.mono HBN.out.size))
  have hzw16 : w15.heap.size ≤ w16.heap.size := hstep.size
  clear b hstep 
  rw [HMr0_.out] at h2
  subst h2
  have hmneg : ¬ mr0_ < 0 := by omega
  go_wp2
  go_ret
  exact ⟨rfl, HBN.out⟩
end Go.Proofs.Ytdcgoeapgboclaa
