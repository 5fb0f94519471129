/- The harness of the law FnExactWidthOf: it returns true if both functions return what they should. -/
import Derived.Test.YtdgimjmdgppboaaTTerm
import Derived.Test.YtdgimjmdgppboaaRetIIB
import Derived.Test.YtdgimjmdgppboaaFdWalks
import Derived.Deep.Cut
import Derived.Deep.QuietTactic
namespace Go.Proofs.Ytdgimjmdgppboaa
set_option maxRecDepth 100000
open Go Go.RowKit Go.Deep

set_option maxHeartbeats 6400000 in
set_option maxRecDepth 100000 in
theorem harness_WidthOf (p0_0 : List Nd) (up0_0 : Value) (w : World) (r0_0 : Int) (r1_0 : Int) (r2_0 : Bool) (hvp0_0 : LfN w w.heap.size up0_0 p0_0) 
    (hspec : ∀ (w : World) (B : Nat) (vp0_0 : Value) , LfN w B vp0_0 p0_0 → B ≤ w.heap.size → szN p0_0 ≤ 1048576 → Calls Try.prog 12 #[.agg #[vp0_0]] w (SRetIIB w r0_0 r1_0 r2_0))
    (himpl : ∀ (w : World) (B : Nat) (vp0_0 : Value) , LfN w B vp0_0 p0_0 → B ≤ w.heap.size → szN p0_0 ≤ 1048576 → Calls Try.prog 13 #[.agg #[vp0_0]] w (IRetIIB w r0_0 r1_0 r2_0)) :
    Calls Try.prog 4 #[.agg #[up0_0]] w fun e w' => e = .returned (.bool true) ∧ Below w.heap.size w w' := by
  have HBN := Lib.hid (Below.refl w.heap.size w)
  have HSP := Lib.hid hspec
  have HIM := Lib.hid himpl
  clear hspec himpl
  obtain ⟨Aup0_0, cup0_0, rfl⟩ := hvp0_0.len
  have HVp0_0 := Lib.hid hvp0_0
  clear hvp0_0
  have hbbr0_0 : (r0_0 != r0_0) = false := by simp
  have hbbr1_0 : (r1_0 != r1_0) = false := by simp
  have hbbr2_0 : (r2_0 != r2_0) = false := by simp
  go_enter Try.func4, Try.ntmps4
  go_wp2_with fail
  refine (szTerm_ok _ w.heap.size p0_0 _ 1048576 ?_ ?_ (by omega) (by omega)).mono ?_
  · exact (HVp0_0.out.below HBN.out (Nat.le_refl _)).below (B' := w.heap.size) (by repeat' (first | exact Below.refl _ _ | apply Below.drew | apply Below.setCell | apply Below.alloc | (simp; done) | omega | (simp; omega))) HBN.out.size
  · (have := HBN.out.size; first | exact this | (simp; done) | (simp; omega))
  rintro e w2 ⟨b, h2⟩
  have hstep : Below w.heap.size w w2 := Below.trans (by repeat' (first | exact Below.refl _ _ | apply Below.drew | apply Below.setCell | apply Below.alloc | (simp; done) | omega | (simp; omega))) (b.mono (by (first | exact Nat.le_refl _ | (simp; done) | (simp; omega))))
  replace HBN := Lib.hid (HBN.out.trans (hstep.mono HBN.out.size))
  have hzw2 : w.heap.size ≤ w2.heap.size := hstep.size
  have hpp0_0 : w2.cell? ⟨w.heap.size, 0, none⟩ = some (.slice Aup0_0 p0_0.length cup0_0) := by have := b.cell (p := ⟨w.heap.size, 0, none⟩) (by first | (simp; done) | (simp; omega)); simpa [go_sem] using this
  have hlhpp0_ : w.heap.size < w2.heap.size := by have := b.size; simp at this; omega
  have hlhpp0_q := hlhpp0_
  clear b hstep 
  rcases h2 with rfl | ⟨hle, h2⟩
  · go_wp2
    go_ret
    exact ⟨rfl, HBN.out⟩
  obtain ⟨zp0_, hzp0_a, hzp0_b, rfl⟩ : ∃ z : Int, 0 ≤ z ∧ z ≤ 1048576 ∧ e = .returned (.int .i64 z) := ⟨_, by omega, by omega, h2⟩
  have hsp0_0 : szN p0_0 ≤ 1048576 := by omega
  clear h2 hle
  go_wp2_with fail
  refine (toTerm_ok _ w.heap.size p0_0 _ ?_ ?_ hsp0_0).mono ?_
  · exact (HVp0_0.out.below HBN.out (Nat.le_refl _)).below (B' := w2.heap.size) (by repeat' (first | exact Below.refl _ _ | apply Below.drew | apply Below.setCell | apply Below.alloc | (simp; done) | omega | (simp; omega))) HBN.out.size
  · (have := HBN.out.size; first | exact this | (simp; done) | (simp; omega))
  rintro e w3 ⟨vap0_0, rfl, b, oap0_0⟩
  obtain ⟨Aap0_0, cap0_0, rfl⟩ := oap0_0.len
  have hstep : Below w2.heap.size w2 w3 := Below.trans (by repeat' (first | exact Below.refl _ _ | apply Below.drew | apply Below.setCell | apply Below.alloc | (simp; done) | omega | (simp; omega))) (b.mono (by (first | exact Nat.le_refl _ | (simp; done) | (simp; omega))))
  replace hpp0_0 := (hstep.cell (p := ⟨w.heap.size, 0, none⟩) hlhpp0_).trans hpp0_0
  replace hlhpp0_ : w.heap.size < w3.heap.size := Nat.lt_of_lt_of_le hlhpp0_ hstep.size
  replace HBN := Lib.hid (HBN.out.trans (hstep.mono HBN.out.size))
  have hzw3 : w2.heap.size ≤ w3.heap.size := hstep.size
  obtain ⟨SHOap0_0, HSHOap0_0, HOap0_0⟩ : ∃ S : Nat → Prop, Hid (∀ k, S k → w2.heap.size + 0 ≤ k ∧ k < w3.heap.size) ∧ Hid (OwnN w3 S (.slice Aap0_0 p0_0.length cap0_0) p0_0) := ⟨fun k => w2.heap.size + 0 ≤ k ∧ k < w3.heap.size, Lib.hid (fun k hk => hk), Lib.hid (oap0_0.mono (fun k hk hk2 => ⟨by have hk3 := hk; (try simp at hk3); omega, hk2⟩))⟩
  clear b hstep oap0_0
  go_wp2_with fail
  refine (HSP.out _ w3.heap.size _ ?_ ?_ hsp0_0).mono ?_
  · exact (HOap0_0.out.rd).below (B' := w3.heap.size) (by repeat' (first | exact Below.refl _ _ | apply Below.drew | apply Below.setCell | apply Below.alloc | (simp; done) | omega | (simp; omega))) (Nat.le_refl _)
  · (first | exact Nat.le_refl _ | (simp; done) | (simp; omega))
  rintro e w4 ⟨rfl, b⟩
  have hstep : Below w3.heap.size w3 w4 := Below.trans (by repeat' (first | exact Below.refl _ _ | apply Below.drew | apply Below.setCell | apply Below.alloc | (simp; done) | omega | (simp; omega))) (b.mono (by (first | exact Nat.le_refl _ | (simp; done) | (simp; omega))))
  replace hpp0_0 := (hstep.cell (p := ⟨w.heap.size, 0, none⟩) hlhpp0_).trans hpp0_0
  replace hlhpp0_ : w.heap.size < w4.heap.size := Nat.lt_of_lt_of_le hlhpp0_ hstep.size
  replace HOap0_0 := Lib.hid (HOap0_0.out.below hstep (fun _ _ hq => hq))
  replace HBN := Lib.hid (HBN.out.trans (hstep.mono HBN.out.size))
  have hzw4 : w3.heap.size ≤ w4.heap.size := hstep.size
  clear b hstep 
  clear HOap0_0 HSHOap0_0
  go_wp2_with fail
  refine (toTerm_ok _ w.heap.size p0_0 _ ?_ ?_ hsp0_0).mono ?_
  · exact (HVp0_0.out.below HBN.out (Nat.le_refl _)).below (B' := w4.heap.size) (by repeat' (first | exact Below.refl _ _ | apply Below.drew | apply Below.setCell | apply Below.alloc | (simp; done) | omega | (simp; omega))) HBN.out.size
  · (have := HBN.out.size; first | exact this | (simp; done) | (simp; omega))
  rintro e w5 ⟨vxp0_0, rfl, b, oxp0_0⟩
  obtain ⟨Axp0_0, cxp0_0, rfl⟩ := oxp0_0.len
  have hstep : Below w4.heap.size w4 w5 := Below.trans (by repeat' (first | exact Below.refl _ _ | apply Below.drew | apply Below.setCell | apply Below.alloc | (simp; done) | omega | (simp; omega))) (b.mono (by (first | exact Nat.le_refl _ | (simp; done) | (simp; omega))))
  replace hpp0_0 := (hstep.cell (p := ⟨w.heap.size, 0, none⟩) hlhpp0_).trans hpp0_0
  replace hlhpp0_ : w.heap.size < w5.heap.size := Nat.lt_of_lt_of_le hlhpp0_ hstep.size
  replace HBN := Lib.hid (HBN.out.trans (hstep.mono HBN.out.size))
  have hzw5 : w4.heap.size ≤ w5.heap.size := hstep.size
  obtain ⟨SHOxp0_0, HSHOxp0_0, HOxp0_0⟩ : ∃ S : Nat → Prop, Hid (∀ k, S k → w4.heap.size + 0 ≤ k ∧ k < w5.heap.size) ∧ Hid (OwnN w5 S (.slice Axp0_0 p0_0.length cxp0_0) p0_0) := ⟨fun k => w4.heap.size + 0 ≤ k ∧ k < w5.heap.size, Lib.hid (fun k hk => hk), Lib.hid (oxp0_0.mono (fun k hk hk2 => ⟨by have hk3 := hk; (try simp at hk3); omega, hk2⟩))⟩
  clear b hstep oxp0_0
  go_wp2_with fail
  refine (HIM.out _ w5.heap.size _ ?_ ?_ hsp0_0).mono ?_
  · exact (HOxp0_0.out.rd).below (B' := w5.heap.size) (by repeat' (first | exact Below.refl _ _ | apply Below.drew | apply Below.setCell | apply Below.alloc | (simp; done) | omega | (simp; omega))) (Nat.le_refl _)
  · (first | exact Nat.le_refl _ | (simp; done) | (simp; omega))
  rintro e w6 ⟨rfl, b⟩
  have hstep : Below w5.heap.size w5 w6 := Below.trans (by repeat' (first | exact Below.refl _ _ | apply Below.drew | apply Below.setCell | apply Below.alloc | (simp; done) | omega | (simp; omega))) (b.mono (by (first | exact Nat.le_refl _ | (simp; done) | (simp; omega))))
  replace hpp0_0 := (hstep.cell (p := ⟨w.heap.size, 0, none⟩) hlhpp0_).trans hpp0_0
  replace hlhpp0_ : w.heap.size < w6.heap.size := Nat.lt_of_lt_of_le hlhpp0_ hstep.size
  replace HOxp0_0 := Lib.hid (HOxp0_0.out.below hstep (fun _ _ hq => hq))
  replace HBN := Lib.hid (HBN.out.trans (hstep.mono HBN.out.size))
  have hzw6 : w5.heap.size ≤ w6.heap.size := hstep.size
  have hxp0_0 : w6.cell? ⟨w5.heap.size, 0, none⟩ = some (.slice Axp0_0 p0_0.length cxp0_0) := by have := b.cell (p := ⟨w5.heap.size, 0, none⟩) (by first | (simp; done) | (simp; omega)); simpa [go_sem] using this
  have hlhxp0_ : w5.heap.size < w6.heap.size := by have := b.size; simp at this; omega
  have hlhxp0_q := hlhxp0_
  clear b hstep 
  have HD : Hid (Below w6.heap.size w6 w6.drew) := Lib.hid (Below.refl _ _).drew
  have HV60 := Lib.hid ((HVp0_0.out.below HBN.out (Nat.le_refl _)).mono HBN.out.size)
  have HG60 := Lib.hid (HOxp0_0.out.rd)
  have HELD : Hid (∀ w' : World, Hid (Below w6.heap.size w6 w') → w'.cell? ⟨w.heap.size, 0, none⟩ = some (.slice Aup0_0 p0_0.length cup0_0) ∧ w'.cell? ⟨w5.heap.size, 0, none⟩ = some (.slice Axp0_0 p0_0.length cxp0_0) ∧ Hid (Below w6.heap.size w6 w')) := Lib.hid (fun w' H => ⟨(H.out.cell (p := ⟨w.heap.size, 0, none⟩) hlhpp0_).trans hpp0_0, (H.out.cell (p := ⟨w5.heap.size, 0, none⟩) hlhxp0_).trans hxp0_0, H⟩)
  go_wp2_with fail
  go_region_held3 (fun w' => w'.cell? ⟨w.heap.size, 0, none⟩ = some (.slice Aup0_0 p0_0.length cup0_0) ∧ w'.cell? ⟨w5.heap.size, 0, none⟩ = some (.slice Axp0_0 p0_0.length cxp0_0) ∧ Hid (Below w6.heap.size w6 w'))
    (exact HELD.out _ (by assumption))
    (first
      | (go_at_call 9; go_split_ands; refine (toTerm_fr w6 _ (by assumption) p0_0 _ HV60.out hsp0_0).mono ?_; rintro e wa ⟨vyp0_0, rfl, ba, bb, oyp0_0⟩)
      | (go_at_call 11; go_split_ands; refine (eqTerm_fr w6 _ (by assumption) p0_0 _ _ HG60.out (by assumption)).mono ?_; rintro e w7 ⟨rfl, bc⟩))
  have hstep := bc.out
  clear HD HELD HV60 HG60 oyp0_0 ba bb bc
  replace hpp0_0 := (hstep.cell (p := ⟨w.heap.size, 0, none⟩) hlhpp0_).trans hpp0_0
  replace hlhpp0_ : w.heap.size < w7.heap.size := Nat.lt_of_lt_of_le hlhpp0_ hstep.size
  replace hxp0_0 := (hstep.cell (p := ⟨w5.heap.size, 0, none⟩) hlhxp0_).trans hxp0_0
  replace hlhxp0_ : w5.heap.size < w7.heap.size := Nat.lt_of_lt_of_le hlhxp0_ hstep.size
  replace HOxp0_0 := Lib.hid (HOxp0_0.out.below hstep (fun _ _ hq => hq))
  replace HBN := Lib.hid (HBN.out.trans (hstep.mono HBN.out.size))
  have hzw7 : w6.heap.size ≤ w7.heap.size := hstep.size
  clear hstep
  go_wp2
  go_ret
  exact ⟨rfl, HBN.out⟩
end Go.Proofs.Ytdgimjmdgppboaa
