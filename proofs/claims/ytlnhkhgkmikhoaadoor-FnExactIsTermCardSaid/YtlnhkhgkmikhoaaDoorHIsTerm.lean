/- The harness of the law FnExactIsTerm: it returns true if both functions return what they should. -/
import Derived.Test.YtlnhkhgkmikhoaaDoorTTerm
import Derived.Test.YtlnhkhgkmikhoaaDoorRetB
import Derived.Test.YtlnhkhgkmikhoaaDoorFdWalks
import Derived.Deep.Cut
import Derived.Deep.QuietTactic
namespace Go.Proofs.YtlnhkhgkmikhoaaDoor
set_option maxRecDepth 100000
open Go Go.RowKit Go.Deep

set_option maxHeartbeats 6400000 in
set_option maxRecDepth 100000 in
theorem harness_IsTerm (p0_0 : Int) (p1_0 : List Nd) (up1_0 : Value) (w : World) (r0_0 : Bool) (ht : Tab w) (hvp1_0 : LfN w w.heap.size up1_0 p1_0) 
    (hspec : ∀ (w : World) (B : Nat) (vp1_0 : Value) , LfN w B vp1_0 p1_0 → B ≤ w.heap.size → szN p1_0 ≤ 1048576 → Calls Tryd.prog 5 #[.int .i64 p0_0, .agg #[vp1_0]] w (SRetB w r0_0))
    (himpl : ∀ (w : World) (B : Nat) (vp1_0 : Value) , Tab w → LfN w B vp1_0 p1_0 → B ≤ w.heap.size → szN p1_0 ≤ 1048576 → Calls Tryd.prog 7 #[.int .i64 p0_0, .agg #[vp1_0]] w (IRetB w r0_0)) :
    Calls Tryd.prog 3 #[.int .i64 p0_0, .agg #[up1_0]] w fun e w' => e = .returned (.bool true) ∧ Below w.heap.size w w' := by
  have HBN := Lib.hid (Below.refl w.heap.size w)
  have HT := Lib.hid ht
  have HSP := Lib.hid hspec
  have HIM := Lib.hid himpl
  clear ht hspec himpl
  obtain ⟨Aup1_0, cup1_0, rfl⟩ := hvp1_0.len
  have HVp1_0 := Lib.hid hvp1_0
  clear hvp1_0
  have hbbr0_0 : (r0_0 != r0_0) = false := by simp
  go_enter Tryd.func3, Tryd.ntmps3
  go_wp2_with fail
  refine (szTerm_ok _ w.heap.size p1_0 _ 1048576 ?_ ?_ (by omega) (by omega)).mono ?_
  · exact (HVp1_0.out.below HBN.out (Nat.le_refl _)).below (B' := w.heap.size) (by repeat' (first | exact Below.refl _ _ | apply Below.drew | apply Below.setCell | apply Below.alloc | (simp; done) | omega | (simp; omega))) HBN.out.size
  · (have := HBN.out.size; first | exact this | (simp; done) | (simp; omega))
  rintro e w2 ⟨b, h2⟩
  have hstep : Below w.heap.size w w2 := Below.trans (by repeat' (first | exact Below.refl _ _ | apply Below.drew | apply Below.setCell | apply Below.alloc | (simp; done) | omega | (simp; omega))) (b.mono (by (first | exact Nat.le_refl _ | (simp; done) | (simp; omega))))
  replace HBN := Lib.hid (HBN.out.trans (hstep.mono HBN.out.size))
  have hzw2 : w.heap.size ≤ w2.heap.size := hstep.size
  have hpp1_0 : w2.cell? ⟨w.heap.size, 0, none⟩ = some (.slice Aup1_0 p1_0.length cup1_0) := by have := b.cell (p := ⟨w.heap.size, 0, none⟩) (by first | (simp; done) | (simp; omega)); simpa [go_sem] using this
  have hlhpp1_ : w.heap.size < w2.heap.size := by have := b.size; simp at this; omega
  have hlhpp1_q := hlhpp1_
  clear b hstep 
  rcases h2 with rfl | ⟨hle, h2⟩
  · go_wp2
    go_ret
    exact ⟨rfl, HBN.out⟩
  obtain ⟨zp1_, hzp1_a, hzp1_b, rfl⟩ : ∃ z : Int, 0 ≤ z ∧ z ≤ 1048576 ∧ e = .returned (.int .i64 z) := ⟨_, by omega, by omega, h2⟩
  have hsp1_0 : szN p1_0 ≤ 1048576 := by omega
  clear h2 hle
  go_wp2_with fail
  refine (toTerm_ok _ w.heap.size p1_0 _ ?_ ?_ hsp1_0).mono ?_
  · exact (HVp1_0.out.below HBN.out (Nat.le_refl _)).below (B' := w2.heap.size) (by repeat' (first | exact Below.refl _ _ | apply Below.drew | apply Below.setCell | apply Below.alloc | (simp; done) | omega | (simp; omega))) HBN.out.size
  · (have := HBN.out.size; first | exact this | (simp; done) | (simp; omega))
  rintro e w3 ⟨vap1_0, rfl, b, oap1_0⟩
  obtain ⟨Aap1_0, cap1_0, rfl⟩ := oap1_0.len
  have hstep : Below w2.heap.size w2 w3 := Below.trans (by repeat' (first | exact Below.refl _ _ | apply Below.drew | apply Below.setCell | apply Below.alloc | (simp; done) | omega | (simp; omega))) (b.mono (by (first | exact Nat.le_refl _ | (simp; done) | (simp; omega))))
  replace hpp1_0 := (hstep.cell (p := ⟨w.heap.size, 0, none⟩) hlhpp1_).trans hpp1_0
  replace hlhpp1_ : w.heap.size < w3.heap.size := Nat.lt_of_lt_of_le hlhpp1_ hstep.size
  replace HBN := Lib.hid (HBN.out.trans (hstep.mono HBN.out.size))
  have hzw3 : w2.heap.size ≤ w3.heap.size := hstep.size
  obtain ⟨SHOap1_0, HSHOap1_0, HOap1_0⟩ : ∃ S : Nat → Prop, Hid (∀ k, S k → w2.heap.size + 0 ≤ k ∧ k < w3.heap.size) ∧ Hid (OwnN w3 S (.slice Aap1_0 p1_0.length cap1_0) p1_0) := ⟨fun k => w2.heap.size + 0 ≤ k ∧ k < w3.heap.size, Lib.hid (fun k hk => hk), Lib.hid (oap1_0.mono (fun k hk hk2 => ⟨by have hk3 := hk; (try simp at hk3); omega, hk2⟩))⟩
  clear b hstep oap1_0
  go_wp2_with fail
  refine (HSP.out _ w3.heap.size _ ?_ ?_ hsp1_0).mono ?_
  · exact (HOap1_0.out.rd).below (B' := w3.heap.size) (by repeat' (first | exact Below.refl _ _ | apply Below.drew | apply Below.setCell | apply Below.alloc | (simp; done) | omega | (simp; omega))) (Nat.le_refl _)
  · (first | exact Nat.le_refl _ | (simp; done) | (simp; omega))
  rintro e w4 ⟨rfl, b⟩
  have hstep : Below w3.heap.size w3 w4 := Below.trans (by repeat' (first | exact Below.refl _ _ | apply Below.drew | apply Below.setCell | apply Below.alloc | (simp; done) | omega | (simp; omega))) (b.mono (by (first | exact Nat.le_refl _ | (simp; done) | (simp; omega))))
  replace hpp1_0 := (hstep.cell (p := ⟨w.heap.size, 0, none⟩) hlhpp1_).trans hpp1_0
  replace hlhpp1_ : w.heap.size < w4.heap.size := Nat.lt_of_lt_of_le hlhpp1_ hstep.size
  replace HOap1_0 := Lib.hid (HOap1_0.out.below hstep (fun _ _ hq => hq))
  replace HBN := Lib.hid (HBN.out.trans (hstep.mono HBN.out.size))
  have hzw4 : w3.heap.size ≤ w4.heap.size := hstep.size
  clear b hstep 
  clear HOap1_0 HSHOap1_0
  go_wp2_with fail
  refine (toTerm_ok _ w.heap.size p1_0 _ ?_ ?_ hsp1_0).mono ?_
  · exact (HVp1_0.out.below HBN.out (Nat.le_refl _)).below (B' := w4.heap.size) (by repeat' (first | exact Below.refl _ _ | apply Below.drew | apply Below.setCell | apply Below.alloc | (simp; done) | omega | (simp; omega))) HBN.out.size
  · (have := HBN.out.size; first | exact this | (simp; done) | (simp; omega))
  rintro e w5 ⟨vxp1_0, rfl, b, oxp1_0⟩
  obtain ⟨Axp1_0, cxp1_0, rfl⟩ := oxp1_0.len
  have hstep : Below w4.heap.size w4 w5 := Below.trans (by repeat' (first | exact Below.refl _ _ | apply Below.drew | apply Below.setCell | apply Below.alloc | (simp; done) | omega | (simp; omega))) (b.mono (by (first | exact Nat.le_refl _ | (simp; done) | (simp; omega))))
  replace hpp1_0 := (hstep.cell (p := ⟨w.heap.size, 0, none⟩) hlhpp1_).trans hpp1_0
  replace hlhpp1_ : w.heap.size < w5.heap.size := Nat.lt_of_lt_of_le hlhpp1_ hstep.size
  replace HBN := Lib.hid (HBN.out.trans (hstep.mono HBN.out.size))
  have hzw5 : w4.heap.size ≤ w5.heap.size := hstep.size
  obtain ⟨SHOxp1_0, HSHOxp1_0, HOxp1_0⟩ : ∃ S : Nat → Prop, Hid (∀ k, S k → w4.heap.size + 0 ≤ k ∧ k < w5.heap.size) ∧ Hid (OwnN w5 S (.slice Axp1_0 p1_0.length cxp1_0) p1_0) := ⟨fun k => w4.heap.size + 0 ≤ k ∧ k < w5.heap.size, Lib.hid (fun k hk => hk), Lib.hid (oxp1_0.mono (fun k hk hk2 => ⟨by have hk3 := hk; (try simp at hk3); omega, hk2⟩))⟩
  clear b hstep oxp1_0
  go_wp2_with fail
  refine (HIM.out _ w5.heap.size _ ?_ ?_ ?_ hsp1_0).mono ?_
  · exact (HT.out.below HBN.out).below (by repeat' (first | exact Below.refl _ _ | apply Below.drew | apply Below.setCell | apply Below.alloc | (simp; done) | omega | (simp; omega)))
  · exact (HOxp1_0.out.rd).below (B' := w5.heap.size) (by repeat' (first | exact Below.refl _ _ | apply Below.drew | apply Below.setCell | apply Below.alloc | (simp; done) | omega | (simp; omega))) (Nat.le_refl _)
  · (first | exact Nat.le_refl _ | (simp; done) | (simp; omega))
  rintro e w6 ⟨rfl, b⟩
  have hstep : Below w5.heap.size w5 w6 := Below.trans (by repeat' (first | exact Below.refl _ _ | apply Below.drew | apply Below.setCell | apply Below.alloc | (simp; done) | omega | (simp; omega))) (b.mono (by (first | exact Nat.le_refl _ | (simp; done) | (simp; omega))))
  replace hpp1_0 := (hstep.cell (p := ⟨w.heap.size, 0, none⟩) hlhpp1_).trans hpp1_0
  replace hlhpp1_ : w.heap.size < w6.heap.size := Nat.lt_of_lt_of_le hlhpp1_ hstep.size
  replace HOxp1_0 := Lib.hid (HOxp1_0.out.below hstep (fun _ _ hq => hq))
  replace HBN := Lib.hid (HBN.out.trans (hstep.mono HBN.out.size))
  have hzw6 : w5.heap.size ≤ w6.heap.size := hstep.size
  have hxp1_0 : w6.cell? ⟨w5.heap.size, 0, none⟩ = some (.slice Axp1_0 p1_0.length cxp1_0) := by have := b.cell (p := ⟨w5.heap.size, 0, none⟩) (by first | (simp; done) | (simp; omega)); simpa [go_sem] using this
  have hlhxp1_ : w5.heap.size < w6.heap.size := by have := b.size; simp at this; omega
  have hlhxp1_q := hlhxp1_
  clear b hstep 
  have HD : Hid (Below w6.heap.size w6 w6.drew) := Lib.hid (Below.refl _ _).drew
  have HV60 := Lib.hid ((HVp1_0.out.below HBN.out (Nat.le_refl _)).mono HBN.out.size)
  have HG60 := Lib.hid (HOxp1_0.out.rd)
  have HELD : Hid (∀ w' : World, Hid (Below w6.heap.size w6 w') → w'.cell? ⟨w.heap.size, 0, none⟩ = some (.slice Aup1_0 p1_0.length cup1_0) ∧ w'.cell? ⟨w5.heap.size, 0, none⟩ = some (.slice Axp1_0 p1_0.length cxp1_0) ∧ Hid (Below w6.heap.size w6 w')) := Lib.hid (fun w' H => ⟨(H.out.cell (p := ⟨w.heap.size, 0, none⟩) hlhpp1_).trans hpp1_0, (H.out.cell (p := ⟨w5.heap.size, 0, none⟩) hlhxp1_).trans hxp1_0, H⟩)
  go_wp2_with fail
  go_region_held3 (fun w' => w'.cell? ⟨w.heap.size, 0, none⟩ = some (.slice Aup1_0 p1_0.length cup1_0) ∧ w'.cell? ⟨w5.heap.size, 0, none⟩ = some (.slice Axp1_0 p1_0.length cxp1_0) ∧ Hid (Below w6.heap.size w6 w'))
    (exact HELD.out _ (by assumption))
    (first
      | (go_at_call 6; go_split_ands; refine (toTerm_fr w6 _ (by assumption) p1_0 _ HV60.out hsp1_0).mono ?_; rintro e wa ⟨vyp1_0, rfl, ba, bb, oyp1_0⟩)
      | (go_at_call 8; go_split_ands; refine (eqTerm_fr w6 _ (by assumption) p1_0 _ _ HG60.out (by assumption)).mono ?_; rintro e w7 ⟨rfl, bc⟩))
  have hstep := bc.out
  clear HD HELD HV60 HG60 oyp1_0 ba bb bc
  replace hpp1_0 := (hstep.cell (p := ⟨w.heap.size, 0, none⟩) hlhpp1_).trans hpp1_0
  replace hlhpp1_ : w.heap.size < w7.heap.size := Nat.lt_of_lt_of_le hlhpp1_ hstep.size
  replace hxp1_0 := (hstep.cell (p := ⟨w5.heap.size, 0, none⟩) hlhxp1_).trans hxp1_0
  replace hlhxp1_ : w5.heap.size < w7.heap.size := Nat.lt_of_lt_of_le hlhxp1_ hstep.size
  replace HOxp1_0 := Lib.hid (HOxp1_0.out.below hstep (fun _ _ hq => hq))
  replace HBN := Lib.hid (HBN.out.trans (hstep.mono HBN.out.size))
  have hzw7 : w6.heap.size ≤ w7.heap.size := hstep.size
  clear hstep
  go_wp2
  go_ret
  exact ⟨rfl, HBN.out⟩
end Go.Proofs.YtlnhkhgkmikhoaaDoor
