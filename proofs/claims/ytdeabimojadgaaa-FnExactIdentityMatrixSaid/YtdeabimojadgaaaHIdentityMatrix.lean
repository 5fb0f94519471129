/- The harness of the law FnExactIdentityMatrix: it returns true if both functions return what they should. -/
import Derived.Test.YtdeabimojadgaaaMatK
namespace Go.Proofs.Ytdeabimojadgaaa
open Go Go.RowKit Go.Deep

set_option maxHeartbeats 3200000 in
set_option maxRecDepth 100000 in
theorem harness_IdentityMatrix (n0 : Int) (w : World) (rc0 : Int) (rr0 : List (List Int)) (rb1 : Bool) (hspec : ∀ (w : World), Calls Try.prog 4 #[.int .i64 n0] w (RetMB w rc0 rr0 rb1))
    (himpl : ∀ (w : World), Calls Try.prog 5 #[.int .i64 n0] w (RetMB w rc0 rr0 rb1))
    (hb0 : rr0.length ≤ 48 ∧ tot rr0 ≤ 2304) :
    Calls Try.prog 3 #[.int .i64 n0] w fun e w' => e = .returned (.bool true) ∧ Below w.heap.size w w' := by
  have HBN := Lib.hid (Below.refl w.heap.size w)
  have HSP := Lib.hid hspec
  have HIM := Lib.hid himpl
  clear hspec himpl
  obtain ⟨hbn0, hbt0⟩ := hb0
  have HBR0 := Lib.hid (show ∀ r, r < rr0.length → (rr0.getD r []).length ≤ 9223372036854775807 from fun r h => by have := row_le h; omega)
  have hbb1 : (rb1 != rb1) = false := by simp
  go_enter Try.func3, Try.ntmps3
  go_wp2_with fail
  refine (HSP.out _).mono ?_
  rintro e w2 ⟨vw0, rfl, b, o⟩
  obtain ⟨Aw0, cw0, rfl⟩ := o.len
  have hstep : Below w.heap.size w w2 := Below.trans (by repeat' (first | exact Below.refl _ _ | apply Below.setCell | apply Below.alloc | (simp; done) | (simp; omega))) (b.mono (by first | exact Nat.le_refl _ | (simp; done) | (simp; omega)))
  replace HBN := Lib.hid (HBN.out.trans (hstep.mono HBN.out.size))
  have hzw2 : w.heap.size ≤ w2.heap.size := hstep.size
  obtain ⟨SHOw0, HSHOw0, HOw0⟩ : ∃ S : Nat → Prop, Hid (∀ k, S k → w.heap.size + 0 ≤ k ∧ k < w2.heap.size) ∧ Hid (OwG w2 tI tR S (.slice Aw0 rr0.length cw0) rr0) := ⟨_, Lib.hid (fun k hk => hk), Lib.hid (o.mono (T := fun k => w.heap.size + 0 ≤ k ∧ k < w2.heap.size) (fun k hk hk2 => ⟨by have hk3 := hk; (try simp at hk3); omega, hk2⟩))⟩
  clear b hstep o
  go_wp2_with fail
  refine (HIM.out _).mono ?_
  rintro e w3 ⟨vg0, rfl, b, o⟩
  obtain ⟨Ag0, cg0, rfl⟩ := o.len
  have hstep : Below w2.heap.size w2 w3 := Below.trans (by repeat' (first | exact Below.refl _ _ | apply Below.setCell | apply Below.alloc | (simp; done) | (simp; omega))) (b.mono (by first | exact Nat.le_refl _ | (simp; done) | (simp; omega)))
  replace HOw0 := Lib.hid (HOw0.out.below hstep (fun _ _ hq => hq))
  replace HBN := Lib.hid (HBN.out.trans (hstep.mono HBN.out.size))
  have hzw3 : w2.heap.size ≤ w3.heap.size := hstep.size
  have hw00 : w3.cell? ⟨w2.heap.size, 0, none⟩ = some (.int .i64 rc0) := by have := b.cell (p := ⟨w2.heap.size, 0, none⟩) (by first | (simp; done) | (simp; omega)); simpa [go_sem] using this
  have hw01 : w3.cell? ⟨w2.heap.size, 1, none⟩ = some (.slice Aw0 rr0.length cw0) := by have := b.cell (p := ⟨w2.heap.size, 1, none⟩) (by first | (simp; done) | (simp; omega)); simpa [go_sem] using this
  have hlw0 : w2.heap.size < w3.heap.size := by have := b.size; simp at this; omega
  have hlw0q := hlw0
  obtain ⟨SHOg0, HSHOg0, HOg0⟩ : ∃ S : Nat → Prop, Hid (∀ k, S k → w2.heap.size + 1 ≤ k ∧ k < w3.heap.size) ∧ Hid (OwG w3 tI tR S (.slice Ag0 rr0.length cg0) rr0) := ⟨_, Lib.hid (fun k hk => hk), Lib.hid (o.mono (T := fun k => w2.heap.size + 1 ≤ k ∧ k < w3.heap.size) (fun k hk hk2 => ⟨by have hk3 := hk; (try simp at hk3); omega, hk2⟩))⟩
  clear b hstep o
  go_wp2_with fail
  refine (eqMatrix_any _ w3.heap.size _ _ rc0 rc0 rr0 rr0 ?_ ?_ ?_ (by omega) HBR0.out).mono ?_
  · exact HOg0.out.readB.below (B' := w3.heap.size) (by repeat' (first | exact Below.refl _ _ | apply Below.setCell | apply Below.alloc | (simp; done) | (simp; omega))) (Nat.le_refl _)
  · exact HOw0.out.readB.below (B' := w3.heap.size) (by repeat' (first | exact Below.refl _ _ | apply Below.setCell | apply Below.alloc | (simp; done) | (simp; omega))) (Nat.le_refl _)
  · first | exact Nat.le_refl _ | (simp; done) | (simp; omega)
  rintro e w4 ⟨rfl, b⟩
  have hstep : Below w3.heap.size w3 w4 := Below.trans (by repeat' (first | exact Below.refl _ _ | apply Below.setCell | apply Below.alloc | (simp; done) | (simp; omega))) (b.mono (by first | exact Nat.le_refl _ | (simp; done) | (simp; omega)))
  replace hw00 := (hstep.cell (p := ⟨w2.heap.size, 0, none⟩) hlw0).trans hw00
  replace hw01 := (hstep.cell (p := ⟨w2.heap.size, 1, none⟩) hlw0).trans hw01
  replace hlw0 : w2.heap.size < w4.heap.size := Nat.lt_of_lt_of_le hlw0 hstep.size
  replace HOw0 := Lib.hid (HOw0.out.below hstep (fun _ _ hq => hq))
  replace HOg0 := Lib.hid (HOg0.out.below hstep (fun _ _ hq => hq))
  replace HBN := Lib.hid (HBN.out.trans (hstep.mono HBN.out.size))
  have hzw4 : w3.heap.size ≤ w4.heap.size := hstep.size
  have hg00 : w4.cell? ⟨w3.heap.size, 0, none⟩ = some (.int .i64 rc0) := by have := b.cell (p := ⟨w3.heap.size, 0, none⟩) (by first | (simp; done) | (simp; omega)); simpa [go_sem] using this
  have hg01 : w4.cell? ⟨w3.heap.size, 1, none⟩ = some (.slice Ag0 rr0.length cg0) := by have := b.cell (p := ⟨w3.heap.size, 1, none⟩) (by first | (simp; done) | (simp; omega)); simpa [go_sem] using this
  have hlg0 : w3.heap.size < w4.heap.size := by have := b.size; simp at this; omega
  have hlg0q := hlg0
  have hdt : decide (rc0 = rc0 ∧ rr0 = rr0) = true := by simp
  rw [hdt]
  clear b hstep hdt
  go_wp2_with fail
  refine (markMatrix_any _ SHOg0 _ rc0 rr0 (1 : Int) HOg0.out (by omega) (by omega) (by omega)).mono ?_
  rintro e w5 ⟨rfl, t, om⟩
  replace hw00 := (t.cellAt (p := ⟨w2.heap.size, 0, none⟩) hlw0 (fun hk => by have := HSHOg0.out _ hk; dsimp only at this; omega)).trans hw00
  replace hw01 := (t.cellAt (p := ⟨w2.heap.size, 1, none⟩) hlw0 (fun hk => by have := HSHOg0.out _ hk; dsimp only at this; omega)).trans hw01
  replace hg00 := (t.cellAt (p := ⟨w3.heap.size, 0, none⟩) hlg0 (fun hk => by have := HSHOg0.out _ hk; dsimp only at this; omega)).trans hg00
  replace hg01 := (t.cellAt (p := ⟨w3.heap.size, 1, none⟩) hlg0 (fun hk => by have := HSHOg0.out _ hk; dsimp only at this; omega)).trans hg01
  replace hlw0 : w2.heap.size < w5.heap.size := Nat.lt_of_lt_of_le hlw0 t.size
  replace hlg0 : w3.heap.size < w5.heap.size := Nat.lt_of_lt_of_le hlg0 t.size
  replace HOw0 := Lib.hid (HOw0.out.blocks (w' := w5) (fun q hq hql => t.block q hql (fun hx => by have := HSHOg0.out q hx; have := HSHOw0.out q hq; omega)))
  replace HOg0 := Lib.hid om
  replace HBN := Lib.hid (HBN.out.trans (t.below HBN.out.size (fun k hk => by have := HSHOg0.out k hk; have := HBN.out.size; omega)))
  have hzw5 : w4.heap.size ≤ w5.heap.size := t.size
  clear t om
  have hkk0 : ¬ (1 : Int) + (tot rr0 : Int) < 0 := by omega
  go_wp2_with fail
  refine (heldMatrix_any _ w5.heap.size _ rc0 rr0 (1 : Int) HOg0.out.readB (Nat.le_refl _) (by omega) (by omega) (by omega)).mono ?_
  rintro e w6 ⟨rfl, b⟩
  have hstep : Below w5.heap.size w5 w6 := Below.trans (by repeat' (first | exact Below.refl _ _ | apply Below.setCell | apply Below.alloc | (simp; done) | (simp; omega))) (b.mono (by first | exact Nat.le_refl _ | (simp; done) | (simp; omega)))
  replace hw00 := (hstep.cell (p := ⟨w2.heap.size, 0, none⟩) hlw0).trans hw00
  replace hw01 := (hstep.cell (p := ⟨w2.heap.size, 1, none⟩) hlw0).trans hw01
  replace hlw0 : w2.heap.size < w6.heap.size := Nat.lt_of_lt_of_le hlw0 hstep.size
  replace hg00 := (hstep.cell (p := ⟨w3.heap.size, 0, none⟩) hlg0).trans hg00
  replace hg01 := (hstep.cell (p := ⟨w3.heap.size, 1, none⟩) hlg0).trans hg01
  replace hlg0 : w3.heap.size < w6.heap.size := Nat.lt_of_lt_of_le hlg0 hstep.size
  replace HOw0 := Lib.hid (HOw0.out.below hstep (fun _ _ hq => hq))
  replace HOg0 := Lib.hid (HOg0.out.below hstep (fun _ _ hq => hq))
  replace HBN := Lib.hid (HBN.out.trans (hstep.mono HBN.out.size))
  have hzw6 : w5.heap.size ≤ w6.heap.size := hstep.size
  clear b hstep 
  go_wp2_with fail
  refine (HIM.out _).mono ?_
  rintro e w7 ⟨vh0, rfl, b, o⟩
  obtain ⟨Ah0, ch0, rfl⟩ := o.len
  have hstep : Below w6.heap.size w6 w7 := Below.trans (by repeat' (first | exact Below.refl _ _ | apply Below.setCell | apply Below.alloc | (simp; done) | (simp; omega))) (b.mono (by first | exact Nat.le_refl _ | (simp; done) | (simp; omega)))
  replace hw00 := (hstep.cell (p := ⟨w2.heap.size, 0, none⟩) hlw0).trans hw00
  replace hw01 := (hstep.cell (p := ⟨w2.heap.size, 1, none⟩) hlw0).trans hw01
  replace hlw0 : w2.heap.size < w7.heap.size := Nat.lt_of_lt_of_le hlw0 hstep.size
  replace hg00 := (hstep.cell (p := ⟨w3.heap.size, 0, none⟩) hlg0).trans hg00
  replace hg01 := (hstep.cell (p := ⟨w3.heap.size, 1, none⟩) hlg0).trans hg01
  replace hlg0 : w3.heap.size < w7.heap.size := Nat.lt_of_lt_of_le hlg0 hstep.size
  replace HOw0 := Lib.hid (HOw0.out.below hstep (fun _ _ hq => hq))
  replace HOg0 := Lib.hid (HOg0.out.below hstep (fun _ _ hq => hq))
  replace HBN := Lib.hid (HBN.out.trans (hstep.mono HBN.out.size))
  have hzw7 : w6.heap.size ≤ w7.heap.size := hstep.size
  obtain ⟨SHOh0, HSHOh0, HOh0⟩ : ∃ S : Nat → Prop, Hid (∀ k, S k → w6.heap.size + 0 ≤ k ∧ k < w7.heap.size) ∧ Hid (OwG w7 tI tR S (.slice Ah0 rr0.length ch0) rr0) := ⟨_, Lib.hid (fun k hk => hk), Lib.hid (o.mono (T := fun k => w6.heap.size + 0 ≤ k ∧ k < w7.heap.size) (fun k hk hk2 => ⟨by have hk3 := hk; (try simp at hk3); omega, hk2⟩))⟩
  clear b hstep o
  go_wp2_with fail
  refine (eqMatrix_any _ w7.heap.size _ _ rc0 rc0 rr0 rr0 ?_ ?_ ?_ (by omega) HBR0.out).mono ?_
  · exact HOh0.out.readB.below (B' := w7.heap.size) (by repeat' (first | exact Below.refl _ _ | apply Below.setCell | apply Below.alloc | (simp; done) | (simp; omega))) (Nat.le_refl _)
  · exact HOw0.out.readB.below (B' := w7.heap.size) (by repeat' (first | exact Below.refl _ _ | apply Below.setCell | apply Below.alloc | (simp; done) | (simp; omega))) (Nat.le_refl _)
  · first | exact Nat.le_refl _ | (simp; done) | (simp; omega)
  rintro e w8 ⟨rfl, b⟩
  have hstep : Below w7.heap.size w7 w8 := Below.trans (by repeat' (first | exact Below.refl _ _ | apply Below.setCell | apply Below.alloc | (simp; done) | (simp; omega))) (b.mono (by first | exact Nat.le_refl _ | (simp; done) | (simp; omega)))
  replace hw00 := (hstep.cell (p := ⟨w2.heap.size, 0, none⟩) hlw0).trans hw00
  replace hw01 := (hstep.cell (p := ⟨w2.heap.size, 1, none⟩) hlw0).trans hw01
  replace hlw0 : w2.heap.size < w8.heap.size := Nat.lt_of_lt_of_le hlw0 hstep.size
  replace hg00 := (hstep.cell (p := ⟨w3.heap.size, 0, none⟩) hlg0).trans hg00
  replace hg01 := (hstep.cell (p := ⟨w3.heap.size, 1, none⟩) hlg0).trans hg01
  replace hlg0 : w3.heap.size < w8.heap.size := Nat.lt_of_lt_of_le hlg0 hstep.size
  replace HOw0 := Lib.hid (HOw0.out.below hstep (fun _ _ hq => hq))
  replace HOg0 := Lib.hid (HOg0.out.below hstep (fun _ _ hq => hq))
  replace HOh0 := Lib.hid (HOh0.out.below hstep (fun _ _ hq => hq))
  replace HBN := Lib.hid (HBN.out.trans (hstep.mono HBN.out.size))
  have hzw8 : w7.heap.size ≤ w8.heap.size := hstep.size
  have hh00 : w8.cell? ⟨w7.heap.size, 0, none⟩ = some (.int .i64 rc0) := by have := b.cell (p := ⟨w7.heap.size, 0, none⟩) (by first | (simp; done) | (simp; omega)); simpa [go_sem] using this
  have hh01 : w8.cell? ⟨w7.heap.size, 1, none⟩ = some (.slice Ah0 rr0.length ch0) := by have := b.cell (p := ⟨w7.heap.size, 1, none⟩) (by first | (simp; done) | (simp; omega)); simpa [go_sem] using this
  have hlh0 : w7.heap.size < w8.heap.size := by have := b.size; simp at this; omega
  have hlh0q := hlh0
  have hdt : decide (rc0 = rc0 ∧ rr0 = rr0) = true := by simp
  rw [hdt]
  clear b hstep hdt
  have hkk0 : ¬ (1 : Int) + (tot rr0 : Int) < 0 := by omega
  go_wp2_with fail
  refine (heldMatrix_any _ w8.heap.size _ rc0 rr0 (1 : Int) HOg0.out.readB (Nat.le_refl _) (by omega) (by omega) (by omega)).mono ?_
  rintro e w9 ⟨rfl, b⟩
  have hstep : Below w8.heap.size w8 w9 := Below.trans (by repeat' (first | exact Below.refl _ _ | apply Below.setCell | apply Below.alloc | (simp; done) | (simp; omega))) (b.mono (by first | exact Nat.le_refl _ | (simp; done) | (simp; omega)))
  replace hw00 := (hstep.cell (p := ⟨w2.heap.size, 0, none⟩) hlw0).trans hw00
  replace hw01 := (hstep.cell (p := ⟨w2.heap.size, 1, none⟩) hlw0).trans hw01
  replace hlw0 : w2.heap.size < w9.heap.size := Nat.lt_of_lt_of_le hlw0 hstep.size
  replace hg00 := (hstep.cell (p := ⟨w3.heap.size, 0, none⟩) hlg0).trans hg00
  replace hg01 := (hstep.cell (p := ⟨w3.heap.size, 1, none⟩) hlg0).trans hg01
  replace hlg0 : w3.heap.size < w9.heap.size := Nat.lt_of_lt_of_le hlg0 hstep.size
  replace hh00 := (hstep.cell (p := ⟨w7.heap.size, 0, none⟩) hlh0).trans hh00
  replace hh01 := (hstep.cell (p := ⟨w7.heap.size, 1, none⟩) hlh0).trans hh01
  replace hlh0 : w7.heap.size < w9.heap.size := Nat.lt_of_lt_of_le hlh0 hstep.size
  replace HOw0 := Lib.hid (HOw0.out.below hstep (fun _ _ hq => hq))
  replace HOg0 := Lib.hid (HOg0.out.below hstep (fun _ _ hq => hq))
  replace HOh0 := Lib.hid (HOh0.out.below hstep (fun _ _ hq => hq))
  replace HBN := Lib.hid (HBN.out.trans (hstep.mono HBN.out.size))
  have hzw9 : w8.heap.size ≤ w9.heap.size := hstep.size
  clear b hstep 
  go_wp2
  go_ret
  exact ⟨rfl, HBN.out⟩
end Go.Proofs.Ytdeabimojadgaaa
