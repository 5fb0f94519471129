/- The harness of the law FnExactTranspose: it returns true if both functions return what they should. -/
import Derived.Test.YtdeabimojadgaaaDoorMatK
import Derived.Test.YtdeabimojadgaaaDoorFdWalks
namespace Go.Proofs.YtdeabimojadgaaaDoor
open Go Go.RowKit Go.Deep

set_option maxHeartbeats 3200000 in
set_option maxRecDepth 100000 in
theorem harness_Transpose (p c : Int) (u : Value) (rows : List (List Int)) (w : World) (rc0 : Int) (rr0 : List (List Int)) (rb1 : Bool) (ht : Tab w) (hv : RdG w w.heap.size u rows) (hn : rows.length ≤ 9223372036854775807) (hr : ∀ r, r < rows.length → (rows.getD r []).length ≤ 9223372036854775807)
    (hspec : ∀ (w : World) (B : Nat) (v : Value), RdG w B v rows → B ≤ w.heap.size → rows.length ≤ 1048576 → (∀ r, r < rows.length → (rows.getD r []).length ≤ 1048576) → Calls Tryd.prog 27 #[.int .i64 p, .agg #[.int .i64 c, v]] w (RetMB w rc0 rr0 rb1))
    (himpl : ∀ (w : World) (B : Nat) (v : Value), Tab w → RdG w B v rows → B ≤ w.heap.size → rows.length ≤ 1048576 → (∀ r, r < rows.length → (rows.getD r []).length ≤ 1048576) → Calls Tryd.prog 28 #[.int .i64 p, .agg #[.int .i64 c, v]] w (RetMB w rc0 rr0 rb1))
    (hb0 : rr0.length ≤ 48 ∧ tot rr0 ≤ 2304) :
    Calls Tryd.prog 7 #[.int .i64 p, .agg #[.int .i64 c, u]] w fun e w' => e = .returned (.bool true) ∧ Below w.heap.size w w' := by
  have HV := Lib.hid hv
  have HBN := Lib.hid (Below.refl w.heap.size w)
  obtain ⟨A, cp, rfl⟩ := hv.len
  have HT := Lib.hid ht
  have HR := Lib.hid hr
  have HSP := Lib.hid hspec
  have HIM := Lib.hid himpl
  clear ht hv hr hspec himpl
  obtain ⟨hbn0, hbt0⟩ := hb0
  have HBR0 := Lib.hid (show ∀ r, r < rr0.length → (rr0.getD r []).length ≤ 9223372036854775807 from fun r h => by have := row_le h; omega)
  go_enter Tryd.func7, Tryd.ntmps7
  go_wp2_with fail
  refine (szMatrix_any _ w.heap.size _ c rows 1048576 ?_ (by simp) (by omega) (by omega) hn HR.out).mono ?_
  · exact HV.out.below (by repeat' (first | exact Below.refl _ _ | apply Below.setCell | apply Below.alloc | (simp; done) | (simp; omega))) (Nat.le_refl _)
  rintro e w2 ⟨b, h2⟩
  have hstep : Below w.heap.size w w2 := Below.trans (by repeat' (first | exact Below.refl _ _ | apply Below.setCell | apply Below.alloc | (simp; done) | (simp; omega))) (b.mono (by first | exact Nat.le_refl _ | (simp; done) | (simp; omega)))
  replace HBN := Lib.hid (HBN.out.trans (hstep.mono HBN.out.size))
  have hzw2 : w.heap.size ≤ w2.heap.size := hstep.size
  have hp0 : w2.cell? ⟨w.heap.size, 0, none⟩ = some (.int .i64 c) := by have := b.cell (p := ⟨w.heap.size, 0, none⟩) (by first | (simp; done) | (simp; omega)); simpa [go_sem] using this
  have hp1 : w2.cell? ⟨w.heap.size, 1, none⟩ = some (.slice A rows.length cp) := by have := b.cell (p := ⟨w.heap.size, 1, none⟩) (by first | (simp; done) | (simp; omega)); simpa [go_sem] using this
  have hlp : w.heap.size < w2.heap.size := by have := b.size; simp at this; omega
  have hlpq := hlp
  clear b hstep 
  rcases h2 with rfl | ⟨hle, rfl⟩
  · go_wp2
    go_ret
    exact ⟨rfl, HBN.out⟩
  have hge : ¬ (1048576 : Int) - ((rows.length + tot rows : Nat) : Int) < 0 := by omega
  have hl1 : rows.length ≤ 1048576 := by omega
  have hrt0 := Lib.hid (show tot rows ≤ 1048576 by omega)
  have HR2 := Lib.hid (show ∀ r, r < rows.length → (rows.getD r []).length ≤ 1048576 from fun r h => by have := row_le h; omega)
  have HRR := Lib.hid (show ∀ r, r < rows.length → (rows.getD r []).length ≤ 1000000000 from fun r h => by have := HR2.out r h; omega)
  generalize ((rows.length + tot rows : Nat) : Int) = z at hge
  clear hle
  go_wp2_with fail
  refine (toMatrix_any _ w.heap.size _ c rows ?_ ?_ (by omega) HRR.out).mono ?_
  · exact (HV.out.below HBN.out (Nat.le_refl _)).below (B' := w2.heap.size) (by repeat' (first | exact Below.refl _ _ | apply Below.setCell | apply Below.alloc | (simp; done) | (simp; omega))) HBN.out.size
  · (have := HBN.out.size; first | exact this | (simp; omega))
  rintro e w3 ⟨va, rfl, b, o⟩
  obtain ⟨Aa, ca, rfl⟩ := o.len
  have hstep : Below w2.heap.size w2 w3 := Below.trans (by repeat' (first | exact Below.refl _ _ | apply Below.setCell | apply Below.alloc | (simp; done) | (simp; omega))) (b.mono (by first | exact Nat.le_refl _ | (simp; done) | (simp; omega)))
  replace hp0 := (hstep.cell (p := ⟨w.heap.size, 0, none⟩) hlp).trans hp0
  replace hp1 := (hstep.cell (p := ⟨w.heap.size, 1, none⟩) hlp).trans hp1
  replace hlp : w.heap.size < w3.heap.size := Nat.lt_of_lt_of_le hlp hstep.size
  replace HBN := Lib.hid (HBN.out.trans (hstep.mono HBN.out.size))
  have hzw3 : w2.heap.size ≤ w3.heap.size := hstep.size
  obtain ⟨SHOa, HSHOa, HOa⟩ : ∃ S : Nat → Prop, Hid (∀ k, S k → w2.heap.size + 0 ≤ k ∧ k < w3.heap.size) ∧ Hid (OwG w3 tI tR S (.slice Aa rows.length ca) rows) := ⟨_, Lib.hid (fun k hk => hk), Lib.hid (o.mono (T := fun k => w2.heap.size + 0 ≤ k ∧ k < w3.heap.size) (fun k hk hk2 => ⟨by have hk3 := hk; (try simp at hk3); omega, hk2⟩))⟩
  clear b hstep o
  go_wp2_with fail
  refine (HSP.out _ w3.heap.size _ ?_ ?_ (by omega) HR2.out).mono ?_
  · exact HOa.out.readB.below (B' := w3.heap.size) (by repeat' (first | exact Below.refl _ _ | apply Below.setCell | apply Below.alloc | (simp; done) | (simp; omega))) (Nat.le_refl _)
  · first | exact Nat.le_refl _ | (simp; done) | (simp; omega)
  rintro e w4 ⟨vw0, rfl, b, o⟩
  obtain ⟨Aw0, cw0, rfl⟩ := o.len
  have hstep : Below w3.heap.size w3 w4 := Below.trans (by repeat' (first | exact Below.refl _ _ | apply Below.setCell | apply Below.alloc | (simp; done) | (simp; omega))) (b.mono (by first | exact Nat.le_refl _ | (simp; done) | (simp; omega)))
  replace hp0 := (hstep.cell (p := ⟨w.heap.size, 0, none⟩) hlp).trans hp0
  replace hp1 := (hstep.cell (p := ⟨w.heap.size, 1, none⟩) hlp).trans hp1
  replace hlp : w.heap.size < w4.heap.size := Nat.lt_of_lt_of_le hlp hstep.size
  replace HOa := Lib.hid (HOa.out.below hstep (fun _ _ hq => hq))
  replace HBN := Lib.hid (HBN.out.trans (hstep.mono HBN.out.size))
  have hzw4 : w3.heap.size ≤ w4.heap.size := hstep.size
  obtain ⟨SHOw0, HSHOw0, HOw0⟩ : ∃ S : Nat → Prop, Hid (∀ k, S k → w3.heap.size + 0 ≤ k ∧ k < w4.heap.size) ∧ Hid (OwG w4 tI tR S (.slice Aw0 rr0.length cw0) rr0) := ⟨_, Lib.hid (fun k hk => hk), Lib.hid (o.mono (T := fun k => w3.heap.size + 0 ≤ k ∧ k < w4.heap.size) (fun k hk hk2 => ⟨by have hk3 := hk; (try simp at hk3); omega, hk2⟩))⟩
  clear b hstep o
  clear HOa HSHOa
  have hbb1 : (rb1 != rb1) = false := by simp
  go_wp2_with fail
  refine (toMatrix_any _ w.heap.size _ c rows ?_ ?_ (by omega) HRR.out).mono ?_
  · exact (HV.out.below HBN.out (Nat.le_refl _)).below (B' := w4.heap.size) (by repeat' (first | exact Below.refl _ _ | apply Below.setCell | apply Below.alloc | (simp; done) | (simp; omega))) HBN.out.size
  · (have := HBN.out.size; first | exact this | (simp; omega))
  rintro e w5 ⟨vx, rfl, b, o⟩
  obtain ⟨Ax, cx, rfl⟩ := o.len
  have hstep : Below w4.heap.size w4 w5 := Below.trans (by repeat' (first | exact Below.refl _ _ | apply Below.setCell | apply Below.alloc | (simp; done) | (simp; omega))) (b.mono (by first | exact Nat.le_refl _ | (simp; done) | (simp; omega)))
  replace hp0 := (hstep.cell (p := ⟨w.heap.size, 0, none⟩) hlp).trans hp0
  replace hp1 := (hstep.cell (p := ⟨w.heap.size, 1, none⟩) hlp).trans hp1
  replace hlp : w.heap.size < w5.heap.size := Nat.lt_of_lt_of_le hlp hstep.size
  replace HOw0 := Lib.hid (HOw0.out.below hstep (fun _ _ hq => hq))
  replace HBN := Lib.hid (HBN.out.trans (hstep.mono HBN.out.size))
  have hzw5 : w4.heap.size ≤ w5.heap.size := hstep.size
  have hw00 : w5.cell? ⟨w4.heap.size, 0, none⟩ = some (.int .i64 rc0) := by have := b.cell (p := ⟨w4.heap.size, 0, none⟩) (by first | (simp; done) | (simp; omega)); simpa [go_sem] using this
  have hw01 : w5.cell? ⟨w4.heap.size, 1, none⟩ = some (.slice Aw0 rr0.length cw0) := by have := b.cell (p := ⟨w4.heap.size, 1, none⟩) (by first | (simp; done) | (simp; omega)); simpa [go_sem] using this
  have hlw0 : w4.heap.size < w5.heap.size := by have := b.size; simp at this; omega
  have hlw0q := hlw0
  obtain ⟨SHOx, HSHOx, HOx⟩ : ∃ S : Nat → Prop, Hid (∀ k, S k → w4.heap.size + 1 ≤ k ∧ k < w5.heap.size) ∧ Hid (OwG w5 tI tR S (.slice Ax rows.length cx) rows) := ⟨_, Lib.hid (fun k hk => hk), Lib.hid (o.mono (T := fun k => w4.heap.size + 1 ≤ k ∧ k < w5.heap.size) (fun k hk hk2 => ⟨by have hk3 := hk; (try simp at hk3); omega, hk2⟩))⟩
  clear b hstep o
  go_wp2_with fail
  refine (HIM.out _ w5.heap.size _ ?_ ?_ ?_ (by omega) HR2.out).mono ?_
  · exact (HT.out.below HBN.out).below (by repeat' (first | exact Below.refl _ _ | apply Below.setCell | apply Below.alloc | (simp; done) | (simp; omega)))
  · exact HOx.out.readB.below (B' := w5.heap.size) (by repeat' (first | exact Below.refl _ _ | apply Below.setCell | apply Below.alloc | (simp; done) | (simp; omega))) (Nat.le_refl _)
  · first | exact Nat.le_refl _ | (simp; done) | (simp; omega)
  rintro e w6 ⟨vg0, rfl, b, o⟩
  obtain ⟨Ag0, cg0, rfl⟩ := o.len
  have hstep : Below w5.heap.size w5 w6 := Below.trans (by repeat' (first | exact Below.refl _ _ | apply Below.setCell | apply Below.alloc | (simp; done) | (simp; omega))) (b.mono (by first | exact Nat.le_refl _ | (simp; done) | (simp; omega)))
  replace hp0 := (hstep.cell (p := ⟨w.heap.size, 0, none⟩) hlp).trans hp0
  replace hp1 := (hstep.cell (p := ⟨w.heap.size, 1, none⟩) hlp).trans hp1
  replace hlp : w.heap.size < w6.heap.size := Nat.lt_of_lt_of_le hlp hstep.size
  replace hw00 := (hstep.cell (p := ⟨w4.heap.size, 0, none⟩) hlw0).trans hw00
  replace hw01 := (hstep.cell (p := ⟨w4.heap.size, 1, none⟩) hlw0).trans hw01
  replace hlw0 : w4.heap.size < w6.heap.size := Nat.lt_of_lt_of_le hlw0 hstep.size
  replace HOw0 := Lib.hid (HOw0.out.below hstep (fun _ _ hq => hq))
  replace HOx := Lib.hid (HOx.out.below hstep (fun _ _ hq => hq))
  replace HBN := Lib.hid (HBN.out.trans (hstep.mono HBN.out.size))
  have hzw6 : w5.heap.size ≤ w6.heap.size := hstep.size
  have hx0 : w6.cell? ⟨w5.heap.size, 0, none⟩ = some (.int .i64 c) := by have := b.cell (p := ⟨w5.heap.size, 0, none⟩) (by first | (simp; done) | (simp; omega)); simpa [go_sem] using this
  have hx1 : w6.cell? ⟨w5.heap.size, 1, none⟩ = some (.slice Ax rows.length cx) := by have := b.cell (p := ⟨w5.heap.size, 1, none⟩) (by first | (simp; done) | (simp; omega)); simpa [go_sem] using this
  have hlx : w5.heap.size < w6.heap.size := by have := b.size; simp at this; omega
  have hlxq := hlx
  obtain ⟨SHOg0, HSHOg0, HOg0⟩ : ∃ S : Nat → Prop, Hid (∀ k, S k → w5.heap.size + 1 ≤ k ∧ k < w6.heap.size) ∧ Hid (OwG w6 tI tR S (.slice Ag0 rr0.length cg0) rr0) := ⟨_, Lib.hid (fun k hk => hk), Lib.hid (o.mono (T := fun k => w5.heap.size + 1 ≤ k ∧ k < w6.heap.size) (fun k hk hk2 => ⟨by have hk3 := hk; (try simp at hk3); omega, hk2⟩))⟩
  clear b hstep o
  go_wp2_with fail
  refine (eqMatrix_any _ w6.heap.size _ _ rc0 rc0 rr0 rr0 ?_ ?_ ?_ (by omega) HBR0.out).mono ?_
  · exact HOg0.out.readB.below (B' := w6.heap.size) (by repeat' (first | exact Below.refl _ _ | apply Below.setCell | apply Below.alloc | (simp; done) | (simp; omega))) (Nat.le_refl _)
  · exact HOw0.out.readB.below (B' := w6.heap.size) (by repeat' (first | exact Below.refl _ _ | apply Below.setCell | apply Below.alloc | (simp; done) | (simp; omega))) (Nat.le_refl _)
  · first | exact Nat.le_refl _ | (simp; done) | (simp; omega)
  rintro e w7 ⟨rfl, b⟩
  have hstep : Below w6.heap.size w6 w7 := Below.trans (by repeat' (first | exact Below.refl _ _ | apply Below.setCell | apply Below.alloc | (simp; done) | (simp; omega))) (b.mono (by first | exact Nat.le_refl _ | (simp; done) | (simp; omega)))
  replace hp0 := (hstep.cell (p := ⟨w.heap.size, 0, none⟩) hlp).trans hp0
  replace hp1 := (hstep.cell (p := ⟨w.heap.size, 1, none⟩) hlp).trans hp1
  replace hlp : w.heap.size < w7.heap.size := Nat.lt_of_lt_of_le hlp hstep.size
  replace hw00 := (hstep.cell (p := ⟨w4.heap.size, 0, none⟩) hlw0).trans hw00
  replace hw01 := (hstep.cell (p := ⟨w4.heap.size, 1, none⟩) hlw0).trans hw01
  replace hlw0 : w4.heap.size < w7.heap.size := Nat.lt_of_lt_of_le hlw0 hstep.size
  replace hx0 := (hstep.cell (p := ⟨w5.heap.size, 0, none⟩) hlx).trans hx0
  replace hx1 := (hstep.cell (p := ⟨w5.heap.size, 1, none⟩) hlx).trans hx1
  replace hlx : w5.heap.size < w7.heap.size := Nat.lt_of_lt_of_le hlx hstep.size
  replace HOw0 := Lib.hid (HOw0.out.below hstep (fun _ _ hq => hq))
  replace HOx := Lib.hid (HOx.out.below hstep (fun _ _ hq => hq))
  replace HOg0 := Lib.hid (HOg0.out.below hstep (fun _ _ hq => hq))
  replace HBN := Lib.hid (HBN.out.trans (hstep.mono HBN.out.size))
  have hzw7 : w6.heap.size ≤ w7.heap.size := hstep.size
  have hg00 : w7.cell? ⟨w6.heap.size, 0, none⟩ = some (.int .i64 rc0) := by have := b.cell (p := ⟨w6.heap.size, 0, none⟩) (by first | (simp; done) | (simp; omega)); simpa [go_sem] using this
  have hg01 : w7.cell? ⟨w6.heap.size, 1, none⟩ = some (.slice Ag0 rr0.length cg0) := by have := b.cell (p := ⟨w6.heap.size, 1, none⟩) (by first | (simp; done) | (simp; omega)); simpa [go_sem] using this
  have hlg0 : w6.heap.size < w7.heap.size := by have := b.size; simp at this; omega
  have hlg0q := hlg0
  have hdt : decide (rc0 = rc0 ∧ rr0 = rr0) = true := by simp
  rw [hdt]
  clear b hstep hdt
  have HD : Hid (Below w7.heap.size w7 w7.drew) := Lib.hid (Below.refl _ _).drew
  have HV6 := Lib.hid ((HV.out.below HBN.out (Nat.le_refl _)).mono HBN.out.size)
  have HG6 := Lib.hid HOx.out.readB
  go_wp2_with fail
  go_region_held3 (fun w' => w'.cell? ⟨w.heap.size, 0, none⟩ = some (.int .i64 c) ∧ w'.cell? ⟨w.heap.size, 1, none⟩ = some (.slice A rows.length cp) ∧ w'.cell? ⟨w5.heap.size, 0, none⟩ = some (.int .i64 c) ∧ w'.cell? ⟨w5.heap.size, 1, none⟩ = some (.slice Ax rows.length cx) ∧ Hid (Below w7.heap.size w7 w'))
    (exact held2 (by assumption) hp0 hp1 hlp hx0 hx1 hlx)
    (first
      | (go_at_call 16; go_split_ands; refine (toMatrix_from w7 _ (by assumption) _ c rows HV6.out (by omega) HRR.out).mono ?_; rintro e wa ⟨va, rfl, ba, bb, oa⟩)
      | (go_at_call 18; go_split_ands; refine (eqMatrix_from w7 _ (by assumption) _ _ _ c rows HG6.out (by assumption) (by omega) HR.out).mono ?_; rintro e w8 ⟨rfl, bc⟩))
  have hstep := bc.out
  clear HD HV6 HG6 ba bb oa bc
  replace hp0 := (hstep.cell (p := ⟨w.heap.size, 0, none⟩) hlp).trans hp0
  replace hp1 := (hstep.cell (p := ⟨w.heap.size, 1, none⟩) hlp).trans hp1
  replace hlp : w.heap.size < w8.heap.size := Nat.lt_of_lt_of_le hlp hstep.size
  replace hw00 := (hstep.cell (p := ⟨w4.heap.size, 0, none⟩) hlw0).trans hw00
  replace hw01 := (hstep.cell (p := ⟨w4.heap.size, 1, none⟩) hlw0).trans hw01
  replace hlw0 : w4.heap.size < w8.heap.size := Nat.lt_of_lt_of_le hlw0 hstep.size
  replace hx0 := (hstep.cell (p := ⟨w5.heap.size, 0, none⟩) hlx).trans hx0
  replace hx1 := (hstep.cell (p := ⟨w5.heap.size, 1, none⟩) hlx).trans hx1
  replace hlx : w5.heap.size < w8.heap.size := Nat.lt_of_lt_of_le hlx hstep.size
  replace hg00 := (hstep.cell (p := ⟨w6.heap.size, 0, none⟩) hlg0).trans hg00
  replace hg01 := (hstep.cell (p := ⟨w6.heap.size, 1, none⟩) hlg0).trans hg01
  replace hlg0 : w6.heap.size < w8.heap.size := Nat.lt_of_lt_of_le hlg0 hstep.size
  replace HOw0 := Lib.hid (HOw0.out.below hstep (fun _ _ hq => hq))
  replace HOx := Lib.hid (HOx.out.below hstep (fun _ _ hq => hq))
  replace HOg0 := Lib.hid (HOg0.out.below hstep (fun _ _ hq => hq))
  replace HBN := Lib.hid (HBN.out.trans (hstep.mono HBN.out.size))
  have hzw8 : w7.heap.size ≤ w8.heap.size := hstep.size
  clear hstep
  have hrt : tot rows ≤ 1048576 := hrt0.out
  go_wp2_with fail
  refine (markMatrix_any _ SHOx _ c rows 1 HOx.out (by omega) (by omega) (by omega)).mono ?_
  rintro e w9 ⟨rfl, t, om⟩
  replace hp0 := (t.cellAt (p := ⟨w.heap.size, 0, none⟩) hlp (fun hk => by have := HSHOx.out _ hk; dsimp only at this; omega)).trans hp0
  replace hp1 := (t.cellAt (p := ⟨w.heap.size, 1, none⟩) hlp (fun hk => by have := HSHOx.out _ hk; dsimp only at this; omega)).trans hp1
  replace hw00 := (t.cellAt (p := ⟨w4.heap.size, 0, none⟩) hlw0 (fun hk => by have := HSHOx.out _ hk; dsimp only at this; omega)).trans hw00
  replace hw01 := (t.cellAt (p := ⟨w4.heap.size, 1, none⟩) hlw0 (fun hk => by have := HSHOx.out _ hk; dsimp only at this; omega)).trans hw01
  replace hx0 := (t.cellAt (p := ⟨w5.heap.size, 0, none⟩) hlx (fun hk => by have := HSHOx.out _ hk; dsimp only at this; omega)).trans hx0
  replace hx1 := (t.cellAt (p := ⟨w5.heap.size, 1, none⟩) hlx (fun hk => by have := HSHOx.out _ hk; dsimp only at this; omega)).trans hx1
  replace hg00 := (t.cellAt (p := ⟨w6.heap.size, 0, none⟩) hlg0 (fun hk => by have := HSHOx.out _ hk; dsimp only at this; omega)).trans hg00
  replace hg01 := (t.cellAt (p := ⟨w6.heap.size, 1, none⟩) hlg0 (fun hk => by have := HSHOx.out _ hk; dsimp only at this; omega)).trans hg01
  replace hlp : w.heap.size < w9.heap.size := Nat.lt_of_lt_of_le hlp t.size
  replace hlw0 : w4.heap.size < w9.heap.size := Nat.lt_of_lt_of_le hlw0 t.size
  replace hlx : w5.heap.size < w9.heap.size := Nat.lt_of_lt_of_le hlx t.size
  replace hlg0 : w6.heap.size < w9.heap.size := Nat.lt_of_lt_of_le hlg0 t.size
  replace HOw0 := Lib.hid (HOw0.out.blocks (w' := w9) (fun q hq hql => t.block q hql (fun hx => by have := HSHOx.out q hx; have := HSHOw0.out q hq; omega)))
  replace HOg0 := Lib.hid (HOg0.out.blocks (w' := w9) (fun q hq hql => t.block q hql (fun hx => by have := HSHOx.out q hx; have := HSHOg0.out q hq; omega)))
  replace HOx := Lib.hid om
  replace HBN := Lib.hid (HBN.out.trans (t.below HBN.out.size (fun k hk => by have := HSHOx.out k hk; have := HBN.out.size; omega)))
  have hzw9 : w8.heap.size ≤ w9.heap.size := t.size
  clear t om
  clear HOx HSHOx
  have hk1 : ¬ (1 : Int) + (tot rows : Int) < 0 := by omega
  go_wp2_with fail
  refine (eqMatrix_any _ w9.heap.size _ _ rc0 rc0 rr0 rr0 ?_ ?_ ?_ (by omega) HBR0.out).mono ?_
  · exact HOg0.out.readB.below (B' := w9.heap.size) (by repeat' (first | exact Below.refl _ _ | apply Below.setCell | apply Below.alloc | (simp; done) | (simp; omega))) (Nat.le_refl _)
  · exact HOw0.out.readB.below (B' := w9.heap.size) (by repeat' (first | exact Below.refl _ _ | apply Below.setCell | apply Below.alloc | (simp; done) | (simp; omega))) (Nat.le_refl _)
  · first | exact Nat.le_refl _ | (simp; done) | (simp; omega)
  rintro e w10 ⟨rfl, b⟩
  have hstep : Below w9.heap.size w9 w10 := Below.trans (by repeat' (first | exact Below.refl _ _ | apply Below.setCell | apply Below.alloc | (simp; done) | (simp; omega))) (b.mono (by first | exact Nat.le_refl _ | (simp; done) | (simp; omega)))
  replace hp0 := (hstep.cell (p := ⟨w.heap.size, 0, none⟩) hlp).trans hp0
  replace hp1 := (hstep.cell (p := ⟨w.heap.size, 1, none⟩) hlp).trans hp1
  replace hlp : w.heap.size < w10.heap.size := Nat.lt_of_lt_of_le hlp hstep.size
  replace hw00 := (hstep.cell (p := ⟨w4.heap.size, 0, none⟩) hlw0).trans hw00
  replace hw01 := (hstep.cell (p := ⟨w4.heap.size, 1, none⟩) hlw0).trans hw01
  replace hlw0 : w4.heap.size < w10.heap.size := Nat.lt_of_lt_of_le hlw0 hstep.size
  replace hx0 := (hstep.cell (p := ⟨w5.heap.size, 0, none⟩) hlx).trans hx0
  replace hx1 := (hstep.cell (p := ⟨w5.heap.size, 1, none⟩) hlx).trans hx1
  replace hlx : w5.heap.size < w10.heap.size := Nat.lt_of_lt_of_le hlx hstep.size
  replace hg00 := (hstep.cell (p := ⟨w6.heap.size, 0, none⟩) hlg0).trans hg00
  replace hg01 := (hstep.cell (p := ⟨w6.heap.size, 1, none⟩) hlg0).trans hg01
  replace hlg0 : w6.heap.size < w10.heap.size := Nat.lt_of_lt_of_le hlg0 hstep.size
  replace HOw0 := Lib.hid (HOw0.out.below hstep (fun _ _ hq => hq))
  replace HOg0 := Lib.hid (HOg0.out.below hstep (fun _ _ hq => hq))
  replace HBN := Lib.hid (HBN.out.trans (hstep.mono HBN.out.size))
  have hzw10 : w9.heap.size ≤ w10.heap.size := hstep.size
  have hdt : decide (rc0 = rc0 ∧ rr0 = rr0) = true := by simp
  rw [hdt]
  clear b hstep hdt
  go_wp2_with fail
  refine (markMatrix_any _ SHOg0 _ rc0 rr0 (1 : Int) HOg0.out (by omega) (by omega) (by omega)).mono ?_
  rintro e w11 ⟨rfl, t, om⟩
  replace hp0 := (t.cellAt (p := ⟨w.heap.size, 0, none⟩) hlp (fun hk => by have := HSHOg0.out _ hk; dsimp only at this; omega)).trans hp0
  replace hp1 := (t.cellAt (p := ⟨w.heap.size, 1, none⟩) hlp (fun hk => by have := HSHOg0.out _ hk; dsimp only at this; omega)).trans hp1
  replace hw00 := (t.cellAt (p := ⟨w4.heap.size, 0, none⟩) hlw0 (fun hk => by have := HSHOg0.out _ hk; dsimp only at this; omega)).trans hw00
  replace hw01 := (t.cellAt (p := ⟨w4.heap.size, 1, none⟩) hlw0 (fun hk => by have := HSHOg0.out _ hk; dsimp only at this; omega)).trans hw01
  replace hx0 := (t.cellAt (p := ⟨w5.heap.size, 0, none⟩) hlx (fun hk => by have := HSHOg0.out _ hk; dsimp only at this; omega)).trans hx0
  replace hx1 := (t.cellAt (p := ⟨w5.heap.size, 1, none⟩) hlx (fun hk => by have := HSHOg0.out _ hk; dsimp only at this; omega)).trans hx1
  replace hg00 := (t.cellAt (p := ⟨w6.heap.size, 0, none⟩) hlg0 (fun hk => by have := HSHOg0.out _ hk; dsimp only at this; omega)).trans hg00
  replace hg01 := (t.cellAt (p := ⟨w6.heap.size, 1, none⟩) hlg0 (fun hk => by have := HSHOg0.out _ hk; dsimp only at this; omega)).trans hg01
  replace hlp : w.heap.size < w11.heap.size := Nat.lt_of_lt_of_le hlp t.size
  replace hlw0 : w4.heap.size < w11.heap.size := Nat.lt_of_lt_of_le hlw0 t.size
  replace hlx : w5.heap.size < w11.heap.size := Nat.lt_of_lt_of_le hlx t.size
  replace hlg0 : w6.heap.size < w11.heap.size := Nat.lt_of_lt_of_le hlg0 t.size
  replace HOw0 := Lib.hid (HOw0.out.blocks (w' := w11) (fun q hq hql => t.block q hql (fun hx => by have := HSHOg0.out q hx; have := HSHOw0.out q hq; omega)))
  replace HOg0 := Lib.hid om
  replace HBN := Lib.hid (HBN.out.trans (t.below HBN.out.size (fun k hk => by have := HSHOg0.out k hk; have := HBN.out.size; omega)))
  have hzw11 : w10.heap.size ≤ w11.heap.size := t.size
  clear t om
  have hkk0 : ¬ (1 : Int) + (tot rr0 : Int) < 0 := by omega
  go_wp2_with fail
  refine (heldMatrix_any _ w11.heap.size _ rc0 rr0 (1 : Int) HOg0.out.readB (Nat.le_refl _) (by omega) (by omega) (by omega)).mono ?_
  rintro e w12 ⟨rfl, b⟩
  have hstep : Below w11.heap.size w11 w12 := Below.trans (by repeat' (first | exact Below.refl _ _ | apply Below.setCell | apply Below.alloc | (simp; done) | (simp; omega))) (b.mono (by first | exact Nat.le_refl _ | (simp; done) | (simp; omega)))
  replace hp0 := (hstep.cell (p := ⟨w.heap.size, 0, none⟩) hlp).trans hp0
  replace hp1 := (hstep.cell (p := ⟨w.heap.size, 1, none⟩) hlp).trans hp1
  replace hlp : w.heap.size < w12.heap.size := Nat.lt_of_lt_of_le hlp hstep.size
  replace hw00 := (hstep.cell (p := ⟨w4.heap.size, 0, none⟩) hlw0).trans hw00
  replace hw01 := (hstep.cell (p := ⟨w4.heap.size, 1, none⟩) hlw0).trans hw01
  replace hlw0 : w4.heap.size < w12.heap.size := Nat.lt_of_lt_of_le hlw0 hstep.size
  replace hx0 := (hstep.cell (p := ⟨w5.heap.size, 0, none⟩) hlx).trans hx0
  replace hx1 := (hstep.cell (p := ⟨w5.heap.size, 1, none⟩) hlx).trans hx1
  replace hlx : w5.heap.size < w12.heap.size := Nat.lt_of_lt_of_le hlx hstep.size
  replace hg00 := (hstep.cell (p := ⟨w6.heap.size, 0, none⟩) hlg0).trans hg00
  replace hg01 := (hstep.cell (p := ⟨w6.heap.size, 1, none⟩) hlg0).trans hg01
  replace hlg0 : w6.heap.size < w12.heap.size := Nat.lt_of_lt_of_le hlg0 hstep.size
  replace HOw0 := Lib.hid (HOw0.out.below hstep (fun _ _ hq => hq))
  replace HOg0 := Lib.hid (HOg0.out.below hstep (fun _ _ hq => hq))
  replace HBN := Lib.hid (HBN.out.trans (hstep.mono HBN.out.size))
  have hzw12 : w11.heap.size ≤ w12.heap.size := hstep.size
  clear b hstep 
  go_wp2_with fail
  refine (toMatrix_any _ w.heap.size _ c rows ?_ ?_ (by omega) HRR.out).mono ?_
  · exact (HV.out.below HBN.out (Nat.le_refl _)).below (B' := w12.heap.size) (by repeat' (first | exact Below.refl _ _ | apply Below.setCell | apply Below.alloc | (simp; done) | (simp; omega))) HBN.out.size
  · (have := HBN.out.size; first | exact this | (simp; omega))
  rintro e w13 ⟨vy, rfl, b, o⟩
  obtain ⟨Ay, cy, rfl⟩ := o.len
  have hstep : Below w12.heap.size w12 w13 := Below.trans (by repeat' (first | exact Below.refl _ _ | apply Below.setCell | apply Below.alloc | (simp; done) | (simp; omega))) (b.mono (by first | exact Nat.le_refl _ | (simp; done) | (simp; omega)))
  replace hp0 := (hstep.cell (p := ⟨w.heap.size, 0, none⟩) hlp).trans hp0
  replace hp1 := (hstep.cell (p := ⟨w.heap.size, 1, none⟩) hlp).trans hp1
  replace hlp : w.heap.size < w13.heap.size := Nat.lt_of_lt_of_le hlp hstep.size
  replace hw00 := (hstep.cell (p := ⟨w4.heap.size, 0, none⟩) hlw0).trans hw00
  replace hw01 := (hstep.cell (p := ⟨w4.heap.size, 1, none⟩) hlw0).trans hw01
  replace hlw0 : w4.heap.size < w13.heap.size := Nat.lt_of_lt_of_le hlw0 hstep.size
  replace hx0 := (hstep.cell (p := ⟨w5.heap.size, 0, none⟩) hlx).trans hx0
  replace hx1 := (hstep.cell (p := ⟨w5.heap.size, 1, none⟩) hlx).trans hx1
  replace hlx : w5.heap.size < w13.heap.size := Nat.lt_of_lt_of_le hlx hstep.size
  replace hg00 := (hstep.cell (p := ⟨w6.heap.size, 0, none⟩) hlg0).trans hg00
  replace hg01 := (hstep.cell (p := ⟨w6.heap.size, 1, none⟩) hlg0).trans hg01
  replace hlg0 : w6.heap.size < w13.heap.size := Nat.lt_of_lt_of_le hlg0 hstep.size
  replace HOw0 := Lib.hid (HOw0.out.below hstep (fun _ _ hq => hq))
  replace HOg0 := Lib.hid (HOg0.out.below hstep (fun _ _ hq => hq))
  replace HBN := Lib.hid (HBN.out.trans (hstep.mono HBN.out.size))
  have hzw13 : w12.heap.size ≤ w13.heap.size := hstep.size
  obtain ⟨SHOy, HSHOy, HOy⟩ : ∃ S : Nat → Prop, Hid (∀ k, S k → w12.heap.size + 0 ≤ k ∧ k < w13.heap.size) ∧ Hid (OwG w13 tI tR S (.slice Ay rows.length cy) rows) := ⟨_, Lib.hid (fun k hk => hk), Lib.hid (o.mono (T := fun k => w12.heap.size + 0 ≤ k ∧ k < w13.heap.size) (fun k hk hk2 => ⟨by have hk3 := hk; (try simp at hk3); omega, hk2⟩))⟩
  clear b hstep o
  go_wp2_with fail
  refine (HIM.out _ w13.heap.size _ ?_ ?_ ?_ (by omega) HR2.out).mono ?_
  · exact (HT.out.below HBN.out).below (by repeat' (first | exact Below.refl _ _ | apply Below.setCell | apply Below.alloc | (simp; done) | (simp; omega)))
  · exact HOy.out.readB.below (B' := w13.heap.size) (by repeat' (first | exact Below.refl _ _ | apply Below.setCell | apply Below.alloc | (simp; done) | (simp; omega))) (Nat.le_refl _)
  · first | exact Nat.le_refl _ | (simp; done) | (simp; omega)
  rintro e w14 ⟨vh0, rfl, b, o⟩
  obtain ⟨Ah0, ch0, rfl⟩ := o.len
  have hstep : Below w13.heap.size w13 w14 := Below.trans (by repeat' (first | exact Below.refl _ _ | apply Below.setCell | apply Below.alloc | (simp; done) | (simp; omega))) (b.mono (by first | exact Nat.le_refl _ | (simp; done) | (simp; omega)))
  replace hp0 := (hstep.cell (p := ⟨w.heap.size, 0, none⟩) hlp).trans hp0
  replace hp1 := (hstep.cell (p := ⟨w.heap.size, 1, none⟩) hlp).trans hp1
  replace hlp : w.heap.size < w14.heap.size := Nat.lt_of_lt_of_le hlp hstep.size
  replace hw00 := (hstep.cell (p := ⟨w4.heap.size, 0, none⟩) hlw0).trans hw00
  replace hw01 := (hstep.cell (p := ⟨w4.heap.size, 1, none⟩) hlw0).trans hw01
  replace hlw0 : w4.heap.size < w14.heap.size := Nat.lt_of_lt_of_le hlw0 hstep.size
  replace hx0 := (hstep.cell (p := ⟨w5.heap.size, 0, none⟩) hlx).trans hx0
  replace hx1 := (hstep.cell (p := ⟨w5.heap.size, 1, none⟩) hlx).trans hx1
  replace hlx : w5.heap.size < w14.heap.size := Nat.lt_of_lt_of_le hlx hstep.size
  replace hg00 := (hstep.cell (p := ⟨w6.heap.size, 0, none⟩) hlg0).trans hg00
  replace hg01 := (hstep.cell (p := ⟨w6.heap.size, 1, none⟩) hlg0).trans hg01
  replace hlg0 : w6.heap.size < w14.heap.size := Nat.lt_of_lt_of_le hlg0 hstep.size
  replace HOw0 := Lib.hid (HOw0.out.below hstep (fun _ _ hq => hq))
  replace HOg0 := Lib.hid (HOg0.out.below hstep (fun _ _ hq => hq))
  replace HOy := Lib.hid (HOy.out.below hstep (fun _ _ hq => hq))
  replace HBN := Lib.hid (HBN.out.trans (hstep.mono HBN.out.size))
  have hzw14 : w13.heap.size ≤ w14.heap.size := hstep.size
  obtain ⟨SHOh0, HSHOh0, HOh0⟩ : ∃ S : Nat → Prop, Hid (∀ k, S k → w13.heap.size + 0 ≤ k ∧ k < w14.heap.size) ∧ Hid (OwG w14 tI tR S (.slice Ah0 rr0.length ch0) rr0) := ⟨_, Lib.hid (fun k hk => hk), Lib.hid (o.mono (T := fun k => w13.heap.size + 0 ≤ k ∧ k < w14.heap.size) (fun k hk hk2 => ⟨by have hk3 := hk; (try simp at hk3); omega, hk2⟩))⟩
  clear b hstep o
  clear HOy HSHOy
  go_wp2_with fail
  refine (eqMatrix_any _ w14.heap.size _ _ rc0 rc0 rr0 rr0 ?_ ?_ ?_ (by omega) HBR0.out).mono ?_
  · exact HOh0.out.readB.below (B' := w14.heap.size) (by repeat' (first | exact Below.refl _ _ | apply Below.setCell | apply Below.alloc | (simp; done) | (simp; omega))) (Nat.le_refl _)
  · exact HOw0.out.readB.below (B' := w14.heap.size) (by repeat' (first | exact Below.refl _ _ | apply Below.setCell | apply Below.alloc | (simp; done) | (simp; omega))) (Nat.le_refl _)
  · first | exact Nat.le_refl _ | (simp; done) | (simp; omega)
  rintro e w15 ⟨rfl, b⟩
  have hstep : Below w14.heap.size w14 w15 := Below.trans (by repeat' (first | exact Below.refl _ _ | apply Below.setCell | apply Below.alloc | (simp; done) | (simp; omega))) (b.mono (by first | exact Nat.le_refl _ | (simp; done) | (simp; omega)))
  replace hp0 := (hstep.cell (p := ⟨w.heap.size, 0, none⟩) hlp).trans hp0
  replace hp1 := (hstep.cell (p := ⟨w.heap.size, 1, none⟩) hlp).trans hp1
  replace hlp : w.heap.size < w15.heap.size := Nat.lt_of_lt_of_le hlp hstep.size
  replace hw00 := (hstep.cell (p := ⟨w4.heap.size, 0, none⟩) hlw0).trans hw00
  replace hw01 := (hstep.cell (p := ⟨w4.heap.size, 1, none⟩) hlw0).trans hw01
  replace hlw0 : w4.heap.size < w15.heap.size := Nat.lt_of_lt_of_le hlw0 hstep.size
  replace hx0 := (hstep.cell (p := ⟨w5.heap.size, 0, none⟩) hlx).trans hx0
  replace hx1 := (hstep.cell (p := ⟨w5.heap.size, 1, none⟩) hlx).trans hx1
  replace hlx : w5.heap.size < w15.heap.size := Nat.lt_of_lt_of_le hlx hstep.size
  replace hg00 := (hstep.cell (p := ⟨w6.heap.size, 0, none⟩) hlg0).trans hg00
  replace hg01 := (hstep.cell (p := ⟨w6.heap.size, 1, none⟩) hlg0).trans hg01
  replace hlg0 : w6.heap.size < w15.heap.size := Nat.lt_of_lt_of_le hlg0 hstep.size
  replace HOw0 := Lib.hid (HOw0.out.below hstep (fun _ _ hq => hq))
  replace HOg0 := Lib.hid (HOg0.out.below hstep (fun _ _ hq => hq))
  replace HOh0 := Lib.hid (HOh0.out.below hstep (fun _ _ hq => hq))
  replace HBN := Lib.hid (HBN.out.trans (hstep.mono HBN.out.size))
  have hzw15 : w14.heap.size ≤ w15.heap.size := hstep.size
  have hh00 : w15.cell? ⟨w14.heap.size, 0, none⟩ = some (.int .i64 rc0) := by have := b.cell (p := ⟨w14.heap.size, 0, none⟩) (by first | (simp; done) | (simp; omega)); simpa [go_sem] using this
  have hh01 : w15.cell? ⟨w14.heap.size, 1, none⟩ = some (.slice Ah0 rr0.length ch0) := by have := b.cell (p := ⟨w14.heap.size, 1, none⟩) (by first | (simp; done) | (simp; omega)); simpa [go_sem] using this
  have hlh0 : w14.heap.size < w15.heap.size := by have := b.size; simp at this; omega
  have hlh0q := hlh0
  have hdt : decide (rc0 = rc0 ∧ rr0 = rr0) = true := by simp
  rw [hdt]
  clear b hstep hdt
  have hkk0 : ¬ (1 : Int) + (tot rr0 : Int) < 0 := by omega
  go_wp2_with fail
  refine (heldMatrix_any _ w15.heap.size _ rc0 rr0 (1 : Int) HOg0.out.readB (Nat.le_refl _) (by omega) (by omega) (by omega)).mono ?_
  rintro e w16 ⟨rfl, b⟩
  have hstep : Below w15.heap.size w15 w16 := Below.trans (by repeat' (first | exact Below.refl _ _ | apply Below.setCell | apply Below.alloc | (simp; done) | (simp; omega))) (b.mono (by first | exact Nat.le_refl _ | (simp; done) | (simp; omega)))
  replace hp0 := (hstep.cell (p := ⟨w.heap.size, 0, none⟩) hlp).trans hp0
  replace hp1 := (hstep.cell (p := ⟨w.heap.size, 1, none⟩) hlp).trans hp1
  replace hlp : w.heap.size < w16.heap.size := Nat.lt_of_lt_of_le hlp hstep.size
  replace hw00 := (hstep.cell (p := ⟨w4.heap.size, 0, none⟩) hlw0).trans hw00
  replace hw01 := (hstep.cell (p := ⟨w4.heap.size, 1, none⟩) hlw0).trans hw01
  replace hlw0 : w4.heap.size < w16.heap.size := Nat.lt_of_lt_of_le hlw0 hstep.size
  replace hx0 := (hstep.cell (p := ⟨w5.heap.size, 0, none⟩) hlx).trans hx0
  replace hx1 := (hstep.cell (p := ⟨w5.heap.size, 1, none⟩) hlx).trans hx1
  replace hlx : w5.heap.size < w16.heap.size := Nat.lt_of_lt_of_le hlx hstep.size
  replace hg00 := (hstep.cell (p := ⟨w6.heap.size, 0, none⟩) hlg0).trans hg00
  replace hg01 := (hstep.cell (p := ⟨w6.heap.size, 1, none⟩) hlg0).trans hg01
  replace hlg0 : w6.heap.size < w16.heap.size := Nat.lt_of_lt_of_le hlg0 hstep.size
  replace hh00 := (hstep.cell (p := ⟨w14.heap.size, 0, none⟩) hlh0).trans hh00
  replace hh01 := (hstep.cell (p := ⟨w14.heap.size, 1, none⟩) hlh0).trans hh01
  replace hlh0 : w14.heap.size < w16.heap.size := Nat.lt_of_lt_of_le hlh0 hstep.size
  replace HOw0 := Lib.hid (HOw0.out.below hstep (fun _ _ hq => hq))
  replace HOg0 := Lib.hid (HOg0.out.below hstep (fun _ _ hq => hq))
  replace HOh0 := Lib.hid (HOh0.out.below hstep (fun _ _ hq => hq))
  replace HBN := Lib.hid (HBN.out.trans (hstep.mono HBN.out.size))
  have hzw16 : w15.heap.size ≤ w16.heap.size := hstep.size
  clear b hstep 
  go_wp2
  go_ret
  exact ⟨rfl, HBN.out⟩
end Go.Proofs.YtdeabimojadgaaaDoor
