/- The harness of the law FnExactIdentityGraph: it returns true if both functions return what they should. -/
import Derived.Test.YthnhholeaiojjaaTGraph
import Derived.Test.YthnhholeaiojjaaRetGraphB
import Derived.Test.YthnhholeaiojjaaFdWalks
import Derived.Deep.Cut
import Derived.Deep.QuietTactic
namespace Go.Proofs.Ythnhholeaiojjaa
set_option maxRecDepth 100000
open Go Go.RowKit Go.Deep

set_option maxHeartbeats 6400000 in
set_option maxRecDepth 100000 in
theorem harness_IdentityGraph (p0_0 : Int) (w : World) (r0_0 : Int) (r0_1 : List Ed) (r0_2 : List Int) (r0_3 : List Int) (r1_0 : Bool) 
    (hspec : ∀ (w : World) , Calls Try.prog 10 #[.int .i64 p0_0] w (SRetGraphB w r0_0 r0_1 r0_2 r0_3 r1_0))
    (himpl : ∀ (w : World) , Calls Try.prog 11 #[.int .i64 p0_0] w (IRetGraphB w r0_0 r0_1 r0_2 r0_3 r1_0)) :
    Calls Try.prog 3 #[.int .i64 p0_0] w fun e w' => e = .returned (.bool true) ∧ Below w.heap.size w w' := by
  have HBN := Lib.hid (Below.refl w.heap.size w)
  have HSP := Lib.hid hspec
  have HIM := Lib.hid himpl
  clear hspec himpl
  have hbbr0_0 : (r0_0 != r0_0) = false := by simp
  have hbbr1_0 : (r1_0 != r1_0) = false := by simp
  go_enter Try.func3, Try.ntmps3
  go_wp2_with fail
  refine (HSP.out _ ).mono ?_
  rintro e w2 ⟨vwr0_1, vwr0_2, vwr0_3, rfl, b, owr0_1, owr0_2, owr0_3⟩
  obtain ⟨Awr0_1, cwr0_1, rfl⟩ := owr0_1.len
  obtain ⟨Awr0_2, cwr0_2, rfl⟩ := owr0_2.len
  obtain ⟨Awr0_3, cwr0_3, rfl⟩ := owr0_3.len
  have hstep : Below w.heap.size w w2 := Below.trans (by repeat' (first | exact Below.refl _ _ | apply Below.drew | apply Below.setCell | apply Below.alloc | (simp; done) | omega | (simp; omega))) (b.mono (by (first | exact Nat.le_refl _ | (simp; done) | (simp; omega))))
  replace HBN := Lib.hid (HBN.out.trans (hstep.mono HBN.out.size))
  have hzw2 : w.heap.size ≤ w2.heap.size := hstep.size
  obtain ⟨SHOwr0_1, HSHOwr0_1, HOwr0_1⟩ : ∃ S : Nat → Prop, Hid (∀ k, S k → w.heap.size + 0 ≤ k ∧ k < w2.heap.size) ∧ Hid (OwnE w2 S (.slice Awr0_1 r0_1.length cwr0_1) r0_1) := ⟨fun k => w.heap.size + 0 ≤ k ∧ k < w2.heap.size, Lib.hid (fun k hk => hk), Lib.hid (owr0_1.mono (fun k hk hk2 => ⟨by have hk3 := hk; (try simp at hk3); omega, hk2⟩))⟩
  obtain ⟨SHOwr0_2, HSHOwr0_2, HOwr0_2⟩ : ∃ S : Nat → Prop, Hid (∀ k, S k → w.heap.size + 0 ≤ k ∧ k < w2.heap.size) ∧ Hid (OwnR w2 S (.slice Awr0_2 r0_2.length cwr0_2) r0_2) := ⟨fun k => w.heap.size + 0 ≤ k ∧ k < w2.heap.size, Lib.hid (fun k hk => hk), Lib.hid (owr0_2.mono (fun k hk hk2 => ⟨by have hk3 := hk; (try simp at hk3); omega, hk2⟩))⟩
  obtain ⟨SHOwr0_3, HSHOwr0_3, HOwr0_3⟩ : ∃ S : Nat → Prop, Hid (∀ k, S k → w.heap.size + 0 ≤ k ∧ k < w2.heap.size) ∧ Hid (OwnR w2 S (.slice Awr0_3 r0_3.length cwr0_3) r0_3) := ⟨fun k => w.heap.size + 0 ≤ k ∧ k < w2.heap.size, Lib.hid (fun k hk => hk), Lib.hid (owr0_3.mono (fun k hk hk2 => ⟨by have hk3 := hk; (try simp at hk3); omega, hk2⟩))⟩
  clear b hstep owr0_1 owr0_2 owr0_3
  go_wp2_with fail
  refine (HIM.out _ ).mono ?_
  rintro e w3 ⟨vgr0_1, vgr0_2, vgr0_3, Tgr0_1, Tgr0_2, Tgr0_3, rfl, b, logr0_1, logr0_2, logr0_3, disgr0_1_gr0_2, disgr0_1_gr0_3, disgr0_2_gr0_3, ogr0_1, ogr0_2, ogr0_3⟩
  obtain ⟨Agr0_1, cgr0_1, rfl⟩ := ogr0_1.len
  obtain ⟨Agr0_2, cgr0_2, rfl⟩ := ogr0_2.len
  obtain ⟨Agr0_3, cgr0_3, rfl⟩ := ogr0_3.len
  have hstep : Below w2.heap.size w2 w3 := Below.trans (by repeat' (first | exact Below.refl _ _ | apply Below.drew | apply Below.setCell | apply Below.alloc | (simp; done) | omega | (simp; omega))) (b.mono (by (first | exact Nat.le_refl _ | (simp; done) | (simp; omega))))
  replace HOwr0_1 := Lib.hid (HOwr0_1.out.below hstep (fun _ _ hq => hq))
  replace HOwr0_2 := Lib.hid (HOwr0_2.out.below hstep (fun _ _ hq => hq))
  replace HOwr0_3 := Lib.hid (HOwr0_3.out.below hstep (fun _ _ hq => hq))
  replace HBN := Lib.hid (HBN.out.trans (hstep.mono HBN.out.size))
  have hzw3 : w2.heap.size ≤ w3.heap.size := hstep.size
  have hwr0_0 : w3.cell? ⟨w2.heap.size, 0, none⟩ = some (.int .i64 r0_0) := by have := b.cell (p := ⟨w2.heap.size, 0, none⟩) (by first | (simp; done) | (simp; omega)); simpa [go_sem] using this
  have hwr0_1 : w3.cell? ⟨w2.heap.size, 1, none⟩ = some (.slice Awr0_1 r0_1.length cwr0_1) := by have := b.cell (p := ⟨w2.heap.size, 1, none⟩) (by first | (simp; done) | (simp; omega)); simpa [go_sem] using this
  have hwr0_2 : w3.cell? ⟨w2.heap.size, 2, none⟩ = some (.slice Awr0_2 r0_2.length cwr0_2) := by have := b.cell (p := ⟨w2.heap.size, 2, none⟩) (by first | (simp; done) | (simp; omega)); simpa [go_sem] using this
  have hwr0_3 : w3.cell? ⟨w2.heap.size, 3, none⟩ = some (.slice Awr0_3 r0_3.length cwr0_3) := by have := b.cell (p := ⟨w2.heap.size, 3, none⟩) (by first | (simp; done) | (simp; omega)); simpa [go_sem] using this
  have hlhwr0_ : w2.heap.size < w3.heap.size := by have := b.size; simp at this; omega
  have hlhwr0_q := hlhwr0_
  obtain ⟨SHOgr0_1, HSHOgr0_1, HTHOgr0_1, HOgr0_1⟩ : ∃ S : Nat → Prop, Hid (∀ k, S k → w2.heap.size + 1 ≤ k ∧ k < w3.heap.size) ∧ Hid (∀ k, S k → Tgr0_1 k) ∧ Hid (OwnE w3 S (.slice Agr0_1 r0_1.length cgr0_1) r0_1) := ⟨fun k => Tgr0_1 k ∧ k < w3.heap.size, Lib.hid (fun k hk => ⟨by have hk3 := logr0_1 k hk.1; (try simp at hk3); omega, hk.2⟩), Lib.hid (fun k hk => hk.1), Lib.hid (ogr0_1.mono (fun k hk hk2 => ⟨hk, hk2⟩))⟩
  obtain ⟨SHOgr0_2, HSHOgr0_2, HTHOgr0_2, HOgr0_2⟩ : ∃ S : Nat → Prop, Hid (∀ k, S k → w2.heap.size + 1 ≤ k ∧ k < w3.heap.size) ∧ Hid (∀ k, S k → Tgr0_2 k) ∧ Hid (OwnR w3 S (.slice Agr0_2 r0_2.length cgr0_2) r0_2) := ⟨fun k => Tgr0_2 k ∧ k < w3.heap.size, Lib.hid (fun k hk => ⟨by have hk3 := logr0_2 k hk.1; (try simp at hk3); omega, hk.2⟩), Lib.hid (fun k hk => hk.1), Lib.hid (ogr0_2.mono (fun k hk hk2 => ⟨hk, hk2⟩))⟩
  obtain ⟨SHOgr0_3, HSHOgr0_3, HTHOgr0_3, HOgr0_3⟩ : ∃ S : Nat → Prop, Hid (∀ k, S k → w2.heap.size + 1 ≤ k ∧ k < w3.heap.size) ∧ Hid (∀ k, S k → Tgr0_3 k) ∧ Hid (OwnR w3 S (.slice Agr0_3 r0_3.length cgr0_3) r0_3) := ⟨fun k => Tgr0_3 k ∧ k < w3.heap.size, Lib.hid (fun k hk => ⟨by have hk3 := logr0_3 k hk.1; (try simp at hk3); omega, hk.2⟩), Lib.hid (fun k hk => hk.1), Lib.hid (ogr0_3.mono (fun k hk hk2 => ⟨hk, hk2⟩))⟩
  have HDgr0_1_gr0_2 := Lib.hid (show ∀ k, SHOgr0_1 k → SHOgr0_2 k → False from fun k h1 h2 => disgr0_1_gr0_2 k (HTHOgr0_1.out k h1) (HTHOgr0_2.out k h2))
  have HDgr0_1_gr0_3 := Lib.hid (show ∀ k, SHOgr0_1 k → SHOgr0_3 k → False from fun k h1 h2 => disgr0_1_gr0_3 k (HTHOgr0_1.out k h1) (HTHOgr0_3.out k h2))
  have HDgr0_2_gr0_3 := Lib.hid (show ∀ k, SHOgr0_2 k → SHOgr0_3 k → False from fun k h1 h2 => disgr0_2_gr0_3 k (HTHOgr0_2.out k h1) (HTHOgr0_3.out k h2))
  clear HTHOgr0_1 HTHOgr0_2 HTHOgr0_3
  clear b hstep ogr0_1 ogr0_2 ogr0_3 logr0_1 logr0_2 logr0_3 disgr0_1_gr0_2 disgr0_1_gr0_3 disgr0_2_gr0_3
  go_wp2_with fail
  refine (eqGraph_ok _ w3.heap.size r0_0 r0_1 r0_2 r0_3 _ _ _ _ _ _ ?_ ?_ ?_ ?_ ?_ ?_ ?_).mono ?_
  · exact (HOgr0_1.out.rd).below (B' := w3.heap.size) (by repeat' (first | exact Below.refl _ _ | apply Below.drew | apply Below.setCell | apply Below.alloc | (simp; done) | omega | (simp; omega))) (Nat.le_refl _)
  · exact (HOgr0_2.out.rd).below (B' := w3.heap.size) (by repeat' (first | exact Below.refl _ _ | apply Below.drew | apply Below.setCell | apply Below.alloc | (simp; done) | omega | (simp; omega))) (Nat.le_refl _)
  · exact (HOgr0_3.out.rd).below (B' := w3.heap.size) (by repeat' (first | exact Below.refl _ _ | apply Below.drew | apply Below.setCell | apply Below.alloc | (simp; done) | omega | (simp; omega))) (Nat.le_refl _)
  · exact (HOwr0_1.out.rd).below (B' := w3.heap.size) (by repeat' (first | exact Below.refl _ _ | apply Below.drew | apply Below.setCell | apply Below.alloc | (simp; done) | omega | (simp; omega))) (Nat.le_refl _)
  · exact (HOwr0_2.out.rd).below (B' := w3.heap.size) (by repeat' (first | exact Below.refl _ _ | apply Below.drew | apply Below.setCell | apply Below.alloc | (simp; done) | omega | (simp; omega))) (Nat.le_refl _)
  · exact (HOwr0_3.out.rd).below (B' := w3.heap.size) (by repeat' (first | exact Below.refl _ _ | apply Below.drew | apply Below.setCell | apply Below.alloc | (simp; done) | omega | (simp; omega))) (Nat.le_refl _)
  · (first | exact Nat.le_refl _ | (simp; done) | (simp; omega))
  rintro e w4 ⟨rfl, b⟩
  have hstep : Below w3.heap.size w3 w4 := Below.trans (by repeat' (first | exact Below.refl _ _ | apply Below.drew | apply Below.setCell | apply Below.alloc | (simp; done) | omega | (simp; omega))) (b.mono (by (first | exact Nat.le_refl _ | (simp; done) | (simp; omega))))
  replace hwr0_0 := (hstep.cell (p := ⟨w2.heap.size, 0, none⟩) hlhwr0_).trans hwr0_0
  replace hwr0_1 := (hstep.cell (p := ⟨w2.heap.size, 1, none⟩) hlhwr0_).trans hwr0_1
  replace hwr0_2 := (hstep.cell (p := ⟨w2.heap.size, 2, none⟩) hlhwr0_).trans hwr0_2
  replace hwr0_3 := (hstep.cell (p := ⟨w2.heap.size, 3, none⟩) hlhwr0_).trans hwr0_3
  replace hlhwr0_ : w2.heap.size < w4.heap.size := Nat.lt_of_lt_of_le hlhwr0_ hstep.size
  replace HOwr0_1 := Lib.hid (HOwr0_1.out.below hstep (fun _ _ hq => hq))
  replace HOwr0_2 := Lib.hid (HOwr0_2.out.below hstep (fun _ _ hq => hq))
  replace HOwr0_3 := Lib.hid (HOwr0_3.out.below hstep (fun _ _ hq => hq))
  replace HOgr0_1 := Lib.hid (HOgr0_1.out.below hstep (fun _ _ hq => hq))
  replace HOgr0_2 := Lib.hid (HOgr0_2.out.below hstep (fun _ _ hq => hq))
  replace HOgr0_3 := Lib.hid (HOgr0_3.out.below hstep (fun _ _ hq => hq))
  replace HBN := Lib.hid (HBN.out.trans (hstep.mono HBN.out.size))
  have hzw4 : w3.heap.size ≤ w4.heap.size := hstep.size
  have hgr0_0 : w4.cell? ⟨w3.heap.size, 0, none⟩ = some (.int .i64 r0_0) := by have := b.cell (p := ⟨w3.heap.size, 0, none⟩) (by first | (simp; done) | (simp; omega)); simpa [go_sem] using this
  have hgr0_1 : w4.cell? ⟨w3.heap.size, 1, none⟩ = some (.slice Agr0_1 r0_1.length cgr0_1) := by have := b.cell (p := ⟨w3.heap.size, 1, none⟩) (by first | (simp; done) | (simp; omega)); simpa [go_sem] using this
  have hgr0_2 : w4.cell? ⟨w3.heap.size, 2, none⟩ = some (.slice Agr0_2 r0_2.length cgr0_2) := by have := b.cell (p := ⟨w3.heap.size, 2, none⟩) (by first | (simp; done) | (simp; omega)); simpa [go_sem] using this
  have hgr0_3 : w4.cell? ⟨w3.heap.size, 3, none⟩ = some (.slice Agr0_3 r0_3.length cgr0_3) := by have := b.cell (p := ⟨w3.heap.size, 3, none⟩) (by first | (simp; done) | (simp; omega)); simpa [go_sem] using this
  have hlhgr0_ : w3.heap.size < w4.heap.size := by have := b.size; simp at this; omega
  have hlhgr0_q := hlhgr0_
  clear b hstep 
  have hcbr0_1 : cntE r0_1 ≤ 1099511627776 := HOgr0_1.out.2
  have hcbr0_2 : cntR r0_2 ≤ 1099511627776 := Nat.le_trans (cntR_le _) HOgr0_2.out.2
  have hcbr0_3 : cntR r0_3 ≤ 1099511627776 := Nat.le_trans (cntR_le _) HOgr0_3.out.2
  go_wp2_with fail
  refine (markGraph_ok _ r0_0 r0_1 r0_2 r0_3 _ _ _ SHOgr0_1 SHOgr0_2 SHOgr0_3 1 (HOgr0_1.out) (HOgr0_2.out) (HOgr0_3.out) (HDgr0_1_gr0_2.out) (HDgr0_1_gr0_3.out) (HDgr0_2_gr0_3.out) (by omega) (by omega)).mono ?_
  rintro e w5 ⟨h2, t, om0, om1, om2⟩
  replace hwr0_0 := (t.cellAt (p := ⟨w2.heap.size, 0, none⟩) hlhwr0_ (fun hk => by rcases hk with hk | hk | hk <;> (first | (have := HSHOgr0_1.out _ hk; dsimp only at this; omega) | (have := HSHOgr0_2.out _ hk; dsimp only at this; omega) | (have := HSHOgr0_3.out _ hk; dsimp only at this; omega)))).trans hwr0_0
  replace hwr0_1 := (t.cellAt (p := ⟨w2.heap.size, 1, none⟩) hlhwr0_ (fun hk => by rcases hk with hk | hk | hk <;> (first | (have := HSHOgr0_1.out _ hk; dsimp only at this; omega) | (have := HSHOgr0_2.out _ hk; dsimp only at this; omega) | (have := HSHOgr0_3.out _ hk; dsimp only at this; omega)))).trans hwr0_1
  replace hwr0_2 := (t.cellAt (p := ⟨w2.heap.size, 2, none⟩) hlhwr0_ (fun hk => by rcases hk with hk | hk | hk <;> (first | (have := HSHOgr0_1.out _ hk; dsimp only at this; omega) | (have := HSHOgr0_2.out _ hk; dsimp only at this; omega) | (have := HSHOgr0_3.out _ hk; dsimp only at this; omega)))).trans hwr0_2
  replace hwr0_3 := (t.cellAt (p := ⟨w2.heap.size, 3, none⟩) hlhwr0_ (fun hk => by rcases hk with hk | hk | hk <;> (first | (have := HSHOgr0_1.out _ hk; dsimp only at this; omega) | (have := HSHOgr0_2.out _ hk; dsimp only at this; omega) | (have := HSHOgr0_3.out _ hk; dsimp only at this; omega)))).trans hwr0_3
  replace hgr0_0 := (t.cellAt (p := ⟨w3.heap.size, 0, none⟩) hlhgr0_ (fun hk => by rcases hk with hk | hk | hk <;> (first | (have := HSHOgr0_1.out _ hk; dsimp only at this; omega) | (have := HSHOgr0_2.out _ hk; dsimp only at this; omega) | (have := HSHOgr0_3.out _ hk; dsimp only at this; omega)))).trans hgr0_0
  replace hgr0_1 := (t.cellAt (p := ⟨w3.heap.size, 1, none⟩) hlhgr0_ (fun hk => by rcases hk with hk | hk | hk <;> (first | (have := HSHOgr0_1.out _ hk; dsimp only at this; omega) | (have := HSHOgr0_2.out _ hk; dsimp only at this; omega) | (have := HSHOgr0_3.out _ hk; dsimp only at this; omega)))).trans hgr0_1
  replace hgr0_2 := (t.cellAt (p := ⟨w3.heap.size, 2, none⟩) hlhgr0_ (fun hk => by rcases hk with hk | hk | hk <;> (first | (have := HSHOgr0_1.out _ hk; dsimp only at this; omega) | (have := HSHOgr0_2.out _ hk; dsimp only at this; omega) | (have := HSHOgr0_3.out _ hk; dsimp only at this; omega)))).trans hgr0_2
  replace hgr0_3 := (t.cellAt (p := ⟨w3.heap.size, 3, none⟩) hlhgr0_ (fun hk => by rcases hk with hk | hk | hk <;> (first | (have := HSHOgr0_1.out _ hk; dsimp only at this; omega) | (have := HSHOgr0_2.out _ hk; dsimp only at this; omega) | (have := HSHOgr0_3.out _ hk; dsimp only at this; omega)))).trans hgr0_3
  replace hlhwr0_ : w2.heap.size < w5.heap.size := Nat.lt_of_lt_of_le hlhwr0_ t.size
  replace hlhgr0_ : w3.heap.size < w5.heap.size := Nat.lt_of_lt_of_le hlhgr0_ t.size
  replace HOwr0_1 := Lib.hid (HOwr0_1.out.blocks (w' := w5) (fun q hq hql => t.block q hql (fun hx => by rcases hx with hx | hx | hx <;> (first | (have := HSHOgr0_1.out q hx; have := HSHOwr0_1.out q hq; omega) | (have := HSHOgr0_2.out q hx; have := HSHOwr0_1.out q hq; omega) | (have := HSHOgr0_3.out q hx; have := HSHOwr0_1.out q hq; omega)))))
  replace HOwr0_2 := Lib.hid (HOwr0_2.out.blocks (w' := w5) (fun q hq hql => t.block q hql (fun hx => by rcases hx with hx | hx | hx <;> (first | (have := HSHOgr0_1.out q hx; have := HSHOwr0_2.out q hq; omega) | (have := HSHOgr0_2.out q hx; have := HSHOwr0_2.out q hq; omega) | (have := HSHOgr0_3.out q hx; have := HSHOwr0_2.out q hq; omega)))))
  replace HOwr0_3 := Lib.hid (HOwr0_3.out.blocks (w' := w5) (fun q hq hql => t.block q hql (fun hx => by rcases hx with hx | hx | hx <;> (first | (have := HSHOgr0_1.out q hx; have := HSHOwr0_3.out q hq; omega) | (have := HSHOgr0_2.out q hx; have := HSHOwr0_3.out q hq; omega) | (have := HSHOgr0_3.out q hx; have := HSHOwr0_3.out q hq; omega)))))
  replace HBN := Lib.hid (HBN.out.trans (t.below HBN.out.size (fun k hk => by rcases hk with hk | hk | hk <;> (first | (have := HSHOgr0_1.out k hk; have := HBN.out.size; omega) | (have := HSHOgr0_2.out k hk; have := HBN.out.size; omega) | (have := HSHOgr0_3.out k hk; have := HBN.out.size; omega)))))
  have hzw5 : w4.heap.size ≤ w5.heap.size := t.size
  replace HOgr0_1 := Lib.hid om0
  replace HOgr0_2 := Lib.hid om1
  replace HOgr0_3 := Lib.hid om2
  clear t om0 om1 om2
  obtain ⟨mr0_, HMr0_, hmr0_a, hmr0_b, rfl⟩ : ∃ z : Int, Hid (1 + ((cntE r0_1 + cntR r0_2 + cntR r0_3 : Nat) : Int) = z) ∧ 0 ≤ z ∧ z ≤ 1 + 1099511627776 * 3 ∧ e = .returned (.int .i64 z) := ⟨_, Lib.hid rfl, by omega, by omega, h2⟩
  clear h2
  have hmm : (mr0_ != mr0_) = false := by simp
  go_wp2_with fail
  refine (heldGraph_ok _ w5.heap.size r0_0 r0_1 r0_2 r0_3 _ _ _ 1 ?_ ?_ ?_ ?_ (by omega) (by omega)).mono ?_
  · exact (HOgr0_1.out.rd).below (B' := w5.heap.size) (by repeat' (first | exact Below.refl _ _ | apply Below.drew | apply Below.setCell | apply Below.alloc | (simp; done) | omega | (simp; omega))) (Nat.le_refl _)
  · exact (HOgr0_2.out.rd).below (B' := w5.heap.size) (by repeat' (first | exact Below.refl _ _ | apply Below.drew | apply Below.setCell | apply Below.alloc | (simp; done) | omega | (simp; omega))) (Nat.le_refl _)
  · exact (HOgr0_3.out.rd).below (B' := w5.heap.size) (by repeat' (first | exact Below.refl _ _ | apply Below.drew | apply Below.setCell | apply Below.alloc | (simp; done) | omega | (simp; omega))) (Nat.le_refl _)
  · (first | exact Nat.le_refl _ | (simp; done) | (simp; omega))
  rintro e w6 ⟨h2, b⟩
  have hstep : Below w5.heap.size w5 w6 := Below.trans (by repeat' (first | exact Below.refl _ _ | apply Below.drew | apply Below.setCell | apply Below.alloc | (simp; done) | omega | (simp; omega))) (b.mono (by (first | exact Nat.le_refl _ | (simp; done) | (simp; omega))))
  replace hwr0_0 := (hstep.cell (p := ⟨w2.heap.size, 0, none⟩) hlhwr0_).trans hwr0_0
  replace hwr0_1 := (hstep.cell (p := ⟨w2.heap.size, 1, none⟩) hlhwr0_).trans hwr0_1
  replace hwr0_2 := (hstep.cell (p := ⟨w2.heap.size, 2, none⟩) hlhwr0_).trans hwr0_2
  replace hwr0_3 := (hstep.cell (p := ⟨w2.heap.size, 3, none⟩) hlhwr0_).trans hwr0_3
  replace hlhwr0_ : w2.heap.size < w6.heap.size := Nat.lt_of_lt_of_le hlhwr0_ hstep.size
  replace hgr0_0 := (hstep.cell (p := ⟨w3.heap.size, 0, none⟩) hlhgr0_).trans hgr0_0
  replace hgr0_1 := (hstep.cell (p := ⟨w3.heap.size, 1, none⟩) hlhgr0_).trans hgr0_1
  replace hgr0_2 := (hstep.cell (p := ⟨w3.heap.size, 2, none⟩) hlhgr0_).trans hgr0_2
  replace hgr0_3 := (hstep.cell (p := ⟨w3.heap.size, 3, none⟩) hlhgr0_).trans hgr0_3
  replace hlhgr0_ : w3.heap.size < w6.heap.size := Nat.lt_of_lt_of_le hlhgr0_ hstep.size
  replace HOwr0_1 := Lib.hid (HOwr0_1.out.below hstep (fun _ _ hq => hq))
  replace HOwr0_2 := Lib.hid (HOwr0_2.out.below hstep (fun _ _ hq => hq))
  replace HOwr0_3 := Lib.hid (HOwr0_3.out.below hstep (fun _ _ hq => hq))
  replace HOgr0_1 := Lib.hid (HOgr0_1.out.below hstep (fun _ _ hq => hq))
  replace HOgr0_2 := Lib.hid (HOgr0_2.out.below hstep (fun _ _ hq => hq))
  replace HOgr0_3 := Lib.hid (HOgr0_3.out.below hstep (fun _ _ hq => hq))
  replace HBN := Lib.hid (HBN.out.trans (hstep.mono HBN.out.size))
  have hzw6 : w5.heap.size ≤ w6.heap.size := hstep.size
  clear b hstep 
  rw [HMr0_.out] at h2
  subst h2
  have hmneg : ¬ mr0_ < 0 := by omega
  go_wp2_with fail
  refine (HIM.out _ ).mono ?_
  rintro e w7 ⟨vhr0_1, vhr0_2, vhr0_3, Thr0_1, Thr0_2, Thr0_3, rfl, b, lohr0_1, lohr0_2, lohr0_3, dishr0_1_hr0_2, dishr0_1_hr0_3, dishr0_2_hr0_3, ohr0_1, ohr0_2, ohr0_3⟩
  obtain ⟨Ahr0_1, chr0_1, rfl⟩ := ohr0_1.len
  obtain ⟨Ahr0_2, chr0_2, rfl⟩ := ohr0_2.len
  obtain ⟨Ahr0_3, chr0_3, rfl⟩ := ohr0_3.len
  have hstep : Below w6.heap.size w6 w7 := Below.trans (by repeat' (first | exact Below.refl _ _ | apply Below.drew | apply Below.setCell | apply Below.alloc | (simp; done) | omega | (simp; omega))) (b.mono (by (first | exact Nat.le_refl _ | (simp; done) | (simp; omega))))
  replace hwr0_0 := (hstep.cell (p := ⟨w2.heap.size, 0, none⟩) hlhwr0_).trans hwr0_0
  replace hwr0_1 := (hstep.cell (p := ⟨w2.heap.size, 1, none⟩) hlhwr0_).trans hwr0_1
  replace hwr0_2 := (hstep.cell (p := ⟨w2.heap.size, 2, none⟩) hlhwr0_).trans hwr0_2
  replace hwr0_3 := (hstep.cell (p := ⟨w2.heap.size, 3, none⟩) hlhwr0_).trans hwr0_3
  replace hlhwr0_ : w2.heap.size < w7.heap.size := Nat.lt_of_lt_of_le hlhwr0_ hstep.size
  replace hgr0_0 := (hstep.cell (p := ⟨w3.heap.size, 0, none⟩) hlhgr0_).trans hgr0_0
  replace hgr0_1 := (hstep.cell (p := ⟨w3.heap.size, 1, none⟩) hlhgr0_).trans hgr0_1
  replace hgr0_2 := (hstep.cell (p := ⟨w3.heap.size, 2, none⟩) hlhgr0_).trans hgr0_2
  replace hgr0_3 := (hstep.cell (p := ⟨w3.heap.size, 3, none⟩) hlhgr0_).trans hgr0_3
  replace hlhgr0_ : w3.heap.size < w7.heap.size := Nat.lt_of_lt_of_le hlhgr0_ hstep.size
  replace HOwr0_1 := Lib.hid (HOwr0_1.out.below hstep (fun _ _ hq => hq))
  replace HOwr0_2 := Lib.hid (HOwr0_2.out.below hstep (fun _ _ hq => hq))
  replace HOwr0_3 := Lib.hid (HOwr0_3.out.below hstep (fun _ _ hq => hq))
  replace HOgr0_1 := Lib.hid (HOgr0_1.out.below hstep (fun _ _ hq => hq))
  replace HOgr0_2 := Lib.hid (HOgr0_2.out.below hstep (fun _ _ hq => hq))
  replace HOgr0_3 := Lib.hid (HOgr0_3.out.below hstep (fun _ _ hq => hq))
  replace HBN := Lib.hid (HBN.out.trans (hstep.mono HBN.out.size))
  have hzw7 : w6.heap.size ≤ w7.heap.size := hstep.size
  obtain ⟨SHOhr0_1, HSHOhr0_1, HTHOhr0_1, HOhr0_1⟩ : ∃ S : Nat → Prop, Hid (∀ k, S k → w6.heap.size + 0 ≤ k ∧ k < w7.heap.size) ∧ Hid (∀ k, S k → Thr0_1 k) ∧ Hid (OwnE w7 S (.slice Ahr0_1 r0_1.length chr0_1) r0_1) := ⟨fun k => Thr0_1 k ∧ k < w7.heap.size, Lib.hid (fun k hk => ⟨by have hk3 := lohr0_1 k hk.1; (try simp at hk3); omega, hk.2⟩), Lib.hid (fun k hk => hk.1), Lib.hid (ohr0_1.mono (fun k hk hk2 => ⟨hk, hk2⟩))⟩
  obtain ⟨SHOhr0_2, HSHOhr0_2, HTHOhr0_2, HOhr0_2⟩ : ∃ S : Nat → Prop, Hid (∀ k, S k → w6.heap.size + 0 ≤ k ∧ k < w7.heap.size) ∧ Hid (∀ k, S k → Thr0_2 k) ∧ Hid (OwnR w7 S (.slice Ahr0_2 r0_2.length chr0_2) r0_2) := ⟨fun k => Thr0_2 k ∧ k < w7.heap.size, Lib.hid (fun k hk => ⟨by have hk3 := lohr0_2 k hk.1; (try simp at hk3); omega, hk.2⟩), Lib.hid (fun k hk => hk.1), Lib.hid (ohr0_2.mono (fun k hk hk2 => ⟨hk, hk2⟩))⟩
  obtain ⟨SHOhr0_3, HSHOhr0_3, HTHOhr0_3, HOhr0_3⟩ : ∃ S : Nat → Prop, Hid (∀ k, S k → w6.heap.size + 0 ≤ k ∧ k < w7.heap.size) ∧ Hid (∀ k, S k → Thr0_3 k) ∧ Hid (OwnR w7 S (.slice Ahr0_3 r0_3.length chr0_3) r0_3) := ⟨fun k => Thr0_3 k ∧ k < w7.heap.size, Lib.hid (fun k hk => ⟨by have hk3 := lohr0_3 k hk.1; (try simp at hk3); omega, hk.2⟩), Lib.hid (fun k hk => hk.1), Lib.hid (ohr0_3.mono (fun k hk hk2 => ⟨hk, hk2⟩))⟩
  have HDhr0_1_hr0_2 := Lib.hid (show ∀ k, SHOhr0_1 k → SHOhr0_2 k → False from fun k h1 h2 => dishr0_1_hr0_2 k (HTHOhr0_1.out k h1) (HTHOhr0_2.out k h2))
  have HDhr0_1_hr0_3 := Lib.hid (show ∀ k, SHOhr0_1 k → SHOhr0_3 k → False from fun k h1 h2 => dishr0_1_hr0_3 k (HTHOhr0_1.out k h1) (HTHOhr0_3.out k h2))
  have HDhr0_2_hr0_3 := Lib.hid (show ∀ k, SHOhr0_2 k → SHOhr0_3 k → False from fun k h1 h2 => dishr0_2_hr0_3 k (HTHOhr0_2.out k h1) (HTHOhr0_3.out k h2))
  clear HTHOhr0_1 HTHOhr0_2 HTHOhr0_3
  clear b hstep ohr0_1 ohr0_2 ohr0_3 lohr0_1 lohr0_2 lohr0_3 dishr0_1_hr0_2 dishr0_1_hr0_3 dishr0_2_hr0_3
  go_wp2_with fail
  refine (eqGraph_ok _ w7.heap.size r0_0 r0_1 r0_2 r0_3 _ _ _ _ _ _ ?_ ?_ ?_ ?_ ?_ ?_ ?_).mono ?_
  · exact (HOhr0_1.out.rd).below (B' := w7.heap.size) (by repeat' (first | exact Below.refl _ _ | apply Below.drew | apply Below.setCell | apply Below.alloc | (simp; done) | omega | (simp; omega))) (Nat.le_refl _)
  · exact (HOhr0_2.out.rd).below (B' := w7.heap.size) (by repeat' (first | exact Below.refl _ _ | apply Below.drew | apply Below.setCell | apply Below.alloc | (simp; done) | omega | (simp; omega))) (Nat.le_refl _)
  · exact (HOhr0_3.out.rd).below (B' := w7.heap.size) (by repeat' (first | exact Below.refl _ _ | apply Below.drew | apply Below.setCell | apply Below.alloc | (simp; done) | omega | (simp; omega))) (Nat.le_refl _)
  · exact (HOwr0_1.out.rd).below (B' := w7.heap.size) (by repeat' (first | exact Below.refl _ _ | apply Below.drew | apply Below.setCell | apply Below.alloc | (simp; done) | omega | (simp; omega))) (Nat.le_refl _)
  · exact (HOwr0_2.out.rd).below (B' := w7.heap.size) (by repeat' (first | exact Below.refl _ _ | apply Below.drew | apply Below.setCell | apply Below.alloc | (simp; done) | omega | (simp; omega))) (Nat.le_refl _)
  · exact (HOwr0_3.out.rd).below (B' := w7.heap.size) (by repeat' (first | exact Below.refl _ _ | apply Below.drew | apply Below.setCell | apply Below.alloc | (simp; done) | omega | (simp; omega))) (Nat.le_refl _)
  · (first | exact Nat.le_refl _ | (simp; done) | (simp; omega))
  rintro e w8 ⟨rfl, b⟩
  have hstep : Below w7.heap.size w7 w8 := Below.trans (by repeat' (first | exact Below.refl _ _ | apply Below.drew | apply Below.setCell | apply Below.alloc | (simp; done) | omega | (simp; omega))) (b.mono (by (first | exact Nat.le_refl _ | (simp; done) | (simp; omega))))
  replace hwr0_0 := (hstep.cell (p := ⟨w2.heap.size, 0, none⟩) hlhwr0_).trans hwr0_0
  replace hwr0_1 := (hstep.cell (p := ⟨w2.heap.size, 1, none⟩) hlhwr0_).trans hwr0_1
  replace hwr0_2 := (hstep.cell (p := ⟨w2.heap.size, 2, none⟩) hlhwr0_).trans hwr0_2
  replace hwr0_3 := (hstep.cell (p := ⟨w2.heap.size, 3, none⟩) hlhwr0_).trans hwr0_3
  replace hlhwr0_ : w2.heap.size < w8.heap.size := Nat.lt_of_lt_of_le hlhwr0_ hstep.size
  replace hgr0_0 := (hstep.cell (p := ⟨w3.heap.size, 0, none⟩) hlhgr0_).trans hgr0_0
  replace hgr0_1 := (hstep.cell (p := ⟨w3.heap.size, 1, none⟩) hlhgr0_).trans hgr0_1
  replace hgr0_2 := (hstep.cell (p := ⟨w3.heap.size, 2, none⟩) hlhgr0_).trans hgr0_2
  replace hgr0_3 := (hstep.cell (p := ⟨w3.heap.size, 3, none⟩) hlhgr0_).trans hgr0_3
  replace hlhgr0_ : w3.heap.size < w8.heap.size := Nat.lt_of_lt_of_le hlhgr0_ hstep.size
  replace HOwr0_1 := Lib.hid (HOwr0_1.out.below hstep (fun _ _ hq => hq))
  replace HOwr0_2 := Lib.hid (HOwr0_2.out.below hstep (fun _ _ hq => hq))
  replace HOwr0_3 := Lib.hid (HOwr0_3.out.below hstep (fun _ _ hq => hq))
  replace HOgr0_1 := Lib.hid (HOgr0_1.out.below hstep (fun _ _ hq => hq))
  replace HOgr0_2 := Lib.hid (HOgr0_2.out.below hstep (fun _ _ hq => hq))
  replace HOgr0_3 := Lib.hid (HOgr0_3.out.below hstep (fun _ _ hq => hq))
  replace HOhr0_1 := Lib.hid (HOhr0_1.out.below hstep (fun _ _ hq => hq))
  replace HOhr0_2 := Lib.hid (HOhr0_2.out.below hstep (fun _ _ hq => hq))
  replace HOhr0_3 := Lib.hid (HOhr0_3.out.below hstep (fun _ _ hq => hq))
  replace HBN := Lib.hid (HBN.out.trans (hstep.mono HBN.out.size))
  have hzw8 : w7.heap.size ≤ w8.heap.size := hstep.size
  have hhr0_0 : w8.cell? ⟨w7.heap.size, 0, none⟩ = some (.int .i64 r0_0) := by have := b.cell (p := ⟨w7.heap.size, 0, none⟩) (by first | (simp; done) | (simp; omega)); simpa [go_sem] using this
  have hhr0_1 : w8.cell? ⟨w7.heap.size, 1, none⟩ = some (.slice Ahr0_1 r0_1.length chr0_1) := by have := b.cell (p := ⟨w7.heap.size, 1, none⟩) (by first | (simp; done) | (simp; omega)); simpa [go_sem] using this
  have hhr0_2 : w8.cell? ⟨w7.heap.size, 2, none⟩ = some (.slice Ahr0_2 r0_2.length chr0_2) := by have := b.cell (p := ⟨w7.heap.size, 2, none⟩) (by first | (simp; done) | (simp; omega)); simpa [go_sem] using this
  have hhr0_3 : w8.cell? ⟨w7.heap.size, 3, none⟩ = some (.slice Ahr0_3 r0_3.length chr0_3) := by have := b.cell (p := ⟨w7.heap.size, 3, none⟩) (by first | (simp; done) | (simp; omega)); simpa [go_sem] using this
  have hlhhr0_ : w7.heap.size < w8.heap.size := by have := b.size; simp at this; omega
  have hlhhr0_q := hlhhr0_
  clear b hstep 
  go_wp2_with fail
  refine (heldGraph_ok _ w8.heap.size r0_0 r0_1 r0_2 r0_3 _ _ _ 1 ?_ ?_ ?_ ?_ (by omega) (by omega)).mono ?_
  · exact (HOgr0_1.out.rd).below (B' := w8.heap.size) (by repeat' (first | exact Below.refl _ _ | apply Below.drew | apply Below.setCell | apply Below.alloc | (simp; done) | omega | (simp; omega))) (Nat.le_refl _)
  · exact (HOgr0_2.out.rd).below (B' := w8.heap.size) (by repeat' (first | exact Below.refl _ _ | apply Below.drew | apply Below.setCell | apply Below.alloc | (simp; done) | omega | (simp; omega))) (Nat.le_refl _)
  · exact (HOgr0_3.out.rd).below (B' := w8.heap.size) (by repeat' (first | exact Below.refl _ _ | apply Below.drew | apply Below.setCell | apply Below.alloc | (simp; done) | omega | (simp; omega))) (Nat.le_refl _)
  · (first | exact Nat.le_refl _ | (simp; done) | (simp; omega))
  rintro e w9 ⟨h2, b⟩
  have hstep : Below w8.heap.size w8 w9 := Below.trans (by repeat' (first | exact Below.refl _ _ | apply Below.drew | apply Below.setCell | apply Below.alloc | (simp; done) | omega | (simp; omega))) (b.mono (by (first | exact Nat.le_refl _ | (simp; done) | (simp; omega))))
  replace hwr0_0 := (hstep.cell (p := ⟨w2.heap.size, 0, none⟩) hlhwr0_).trans hwr0_0
  replace hwr0_1 := (hstep.cell (p := ⟨w2.heap.size, 1, none⟩) hlhwr0_).trans hwr0_1
  replace hwr0_2 := (hstep.cell (p := ⟨w2.heap.size, 2, none⟩) hlhwr0_).trans hwr0_2
  replace hwr0_3 := (hstep.cell (p := ⟨w2.heap.size, 3, none⟩) hlhwr0_).trans hwr0_3
  replace hlhwr0_ : w2.heap.size < w9.heap.size := Nat.lt_of_lt_of_le hlhwr0_ hstep.size
  replace hgr0_0 := (hstep.cell (p := ⟨w3.heap.size, 0, none⟩) hlhgr0_).trans hgr0_0
  replace hgr0_1 := (hstep.cell (p := ⟨w3.heap.size, 1, none⟩) hlhgr0_).trans hgr0_1
  replace hgr0_2 := (hstep.cell (p := ⟨w3.heap.size, 2, none⟩) hlhgr0_).trans hgr0_2
  replace hgr0_3 := (hstep.cell (p := ⟨w3.heap.size, 3, none⟩) hlhgr0_).trans hgr0_3
  replace hlhgr0_ : w3.heap.size < w9.heap.size := Nat.lt_of_lt_of_le hlhgr0_ hstep.size
  replace hhr0_0 := (hstep.cell (p := ⟨w7.heap.size, 0, none⟩) hlhhr0_).trans hhr0_0
  replace hhr0_1 := (hstep.cell (p := ⟨w7.heap.size, 1, none⟩) hlhhr0_).trans hhr0_1
  replace hhr0_2 := (hstep.cell (p := ⟨w7.heap.size, 2, none⟩) hlhhr0_).trans hhr0_2
  replace hhr0_3 := (hstep.cell (p := ⟨w7.heap.size, 3, none⟩) hlhhr0_).trans hhr0_3
  replace hlhhr0_ : w7.heap.size < w9.heap.size := Nat.lt_of_lt_of_le hlhhr0_ hstep.size
  replace HOwr0_1 := Lib.hid (HOwr0_1.out.below hstep (fun _ _ hq => hq))
  replace HOwr0_2 := Lib.hid (HOwr0_2.out.below hstep (fun _ _ hq => hq))
  replace HOwr0_3 := Lib.hid (HOwr0_3.out.below hstep (fun _ _ hq => hq))
  replace HOgr0_1 := Lib.hid (HOgr0_1.out.below hstep (fun _ _ hq => hq))
  replace HOgr0_2 := Lib.hid (HOgr0_2.out.below hstep (fun _ _ hq => hq))
  replace HOgr0_3 := Lib.hid (HOgr0_3.out.below hstep (fun _ _ hq => hq))
  replace HOhr0_1 := Lib.hid (HOhr0_1.out.below hstep (fun _ _ hq => hq))
  replace HOhr0_2 := Lib.hid (HOhr0_2.out.below hstep (fun _ _ hq => hq))
  replace HOhr0_3 := Lib.hid (HOhr0_3.out.below hstep (fun _ _ hq => hq))
  replace HBN := Lib.hid (HBN.out.trans (hstep.mono HBN.out.size))
  have hzw9 : w8.heap.size ≤ w9.heap.size := hstep.size
  clear b hstep 
  rw [HMr0_.out] at h2
  subst h2
  have hmneg : ¬ mr0_ < 0 := by omega
  go_wp2
  go_ret
  exact ⟨rfl, HBN.out⟩
end Go.Proofs.Ythnhholeaiojjaa
