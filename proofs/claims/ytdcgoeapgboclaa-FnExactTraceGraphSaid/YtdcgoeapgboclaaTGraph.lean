/- What the laws' helpers do with the struct Graph. -/
import Derived.Test.YtdcgoeapgboclaaLeafM
namespace Go.Proofs.Ytdcgoeapgboclaa
set_option maxRecDepth 100000
open Go Go.RowKit Go.Deep

def MkGraph (w : World) (d0 : Int) (d1 : List Ed) (d2 : List Int) (d3 : List Int) (e : Ending) (w' : World) : Prop := ∃ (vd1 : Value) (vd2 : Value) (vd3 : Value) (Sd1 : Nat → Prop) (Sd2 : Nat → Prop) (Sd3 : Nat → Prop), e = .returned (.agg #[.int .i64 d0, vd1, vd2, vd3]) ∧ Below w.heap.size w w' ∧ (∀ k, Sd1 k → w.heap.size ≤ k) ∧ (∀ k, Sd2 k → w.heap.size ≤ k) ∧ (∀ k, Sd3 k → w.heap.size ≤ k) ∧ (∀ k, Sd1 k → Sd2 k → False) ∧ (∀ k, Sd1 k → Sd3 k → False) ∧ (∀ k, Sd2 k → Sd3 k → False) ∧ OwnE w' Sd1 vd1 d1 ∧ OwnR w' Sd2 vd2 d2 ∧ OwnR w' Sd3 vd3 d3

set_option maxHeartbeats 800000 in
theorem szGraph_ok (w : World) (B : Nat) (d0 : Int) (d1 : List Ed) (d2 : List Int) (d3 : List Int) (v1 : Value) (v2 : Value) (v3 : Value) (left : Int) (hv1 : LfE w B v1 d1) (hv2 : LfR w B v2 d2) (hv3 : LfR w B v3 d3) (hB : B ≤ w.heap.size) (h0 : 0 ≤ left) (h1 : left ≤ 1000000000) :
    Calls Try.prog 8 #[.agg #[.int .i64 d0, v1, v2, v3], .int .i64 left] w (SzB left (szE d1 + szR d2 + szR d3) w) := by
  obtain ⟨A1, cp1, rfl⟩ := hv1.len
  have HV1 := Lib.hid hv1
  clear hv1
  obtain ⟨A2, cp2, rfl⟩ := hv2.len
  have HV2 := Lib.hid hv2
  clear hv2
  obtain ⟨A3, cp3, rfl⟩ := hv3.len
  have HV3 := Lib.hid hv3
  clear hv3
  have HB := Lib.hid hB
  clear hB
  have HBN := Lib.hid (Below.refl w.heap.size w)
  go_enter Try.func8, Try.ntmps8
  go_wp2_with fail
  refine (szE_any _ B _ d1 left ?_ (by omega) (by omega)).mono ?_
  · exact (HV1.out.below HBN.out HB.out).below (B' := w.heap.size) (by repeat' (first | exact Below.refl _ _ | apply Below.drew | apply Below.setCell | apply Below.alloc | (simp; done) | omega | (simp; omega))) (Nat.le_trans HB.out HBN.out.size)
  rintro e w2 ⟨b, h2⟩
  have hstep : Below w.heap.size w w2 := Below.trans (by repeat' (first | exact Below.refl _ _ | apply Below.drew | apply Below.setCell | apply Below.alloc | (simp; done) | omega | (simp; omega))) (b.mono (by (first | exact Nat.le_refl _ | (simp; done) | (simp; omega))))
  replace HBN := Lib.hid (HBN.out.trans (hstep.mono HBN.out.size))
  have hzw2 : w.heap.size ≤ w2.heap.size := hstep.size
  have hp0 : w2.cell? ⟨w.heap.size, 0, none⟩ = some (.int .i64 d0) := by have := b.cell (p := ⟨w.heap.size, 0, none⟩) (by first | (simp; done) | (simp; omega)); simpa [go_sem] using this
  have hp1 : w2.cell? ⟨w.heap.size, 1, none⟩ = some (.slice A1 d1.length cp1) := by have := b.cell (p := ⟨w.heap.size, 1, none⟩) (by first | (simp; done) | (simp; omega)); simpa [go_sem] using this
  have hp2 : w2.cell? ⟨w.heap.size, 2, none⟩ = some (.slice A2 d2.length cp2) := by have := b.cell (p := ⟨w.heap.size, 2, none⟩) (by first | (simp; done) | (simp; omega)); simpa [go_sem] using this
  have hp3 : w2.cell? ⟨w.heap.size, 3, none⟩ = some (.slice A3 d3.length cp3) := by have := b.cell (p := ⟨w.heap.size, 3, none⟩) (by first | (simp; done) | (simp; omega)); simpa [go_sem] using this
  have hlhp : w.heap.size < w2.heap.size := by have := b.size; simp at this; omega
  have hlhpq := hlhp
  clear b hstep 
  rcases h2 with rfl | ⟨hle1, h2⟩
  · go_wp2
    go_ret
    exact ⟨HBN.out, Or.inl rfl⟩
  obtain ⟨z1, HZ1, hz1a, hz1b, rfl⟩ : ∃ z : Int, Hid (z = left - (szE d1 : Nat)) ∧ 0 ≤ z ∧ z ≤ 1000000000 ∧ e = .returned (.int .i64 z) := ⟨_, Lib.hid rfl, by omega, by omega, h2⟩
  clear h2
  go_wp2_with fail
  refine (szR_any _ B _ d2 z1 ?_ (by omega) (by omega)).mono ?_
  · exact (HV2.out.below HBN.out HB.out).below (B' := w2.heap.size) (by repeat' (first | exact Below.refl _ _ | apply Below.drew | apply Below.setCell | apply Below.alloc | (simp; done) | omega | (simp; omega))) (Nat.le_trans HB.out HBN.out.size)
  rintro e w3 ⟨b, h2⟩
  have hstep : Below w2.heap.size w2 w3 := Below.trans (by repeat' (first | exact Below.refl _ _ | apply Below.drew | apply Below.setCell | apply Below.alloc | (simp; done) | omega | (simp; omega))) (b.mono (by (first | exact Nat.le_refl _ | (simp; done) | (simp; omega))))
  replace hp0 := (hstep.cell (p := ⟨w.heap.size, 0, none⟩) hlhp).trans hp0
  replace hp1 := (hstep.cell (p := ⟨w.heap.size, 1, none⟩) hlhp).trans hp1
  replace hp2 := (hstep.cell (p := ⟨w.heap.size, 2, none⟩) hlhp).trans hp2
  replace hp3 := (hstep.cell (p := ⟨w.heap.size, 3, none⟩) hlhp).trans hp3
  replace hlhp : w.heap.size < w3.heap.size := Nat.lt_of_lt_of_le hlhp hstep.size
  replace HBN := Lib.hid (HBN.out.trans (hstep.mono HBN.out.size))
  have hzw3 : w2.heap.size ≤ w3.heap.size := hstep.size
  clear b hstep 
  rcases h2 with rfl | ⟨hle2, h2⟩
  · go_wp2
    go_ret
    exact ⟨HBN.out, Or.inl rfl⟩
  obtain ⟨z2, HZ2, hz2a, hz2b, rfl⟩ : ∃ z : Int, Hid (z = z1 - (szR d2 : Nat)) ∧ 0 ≤ z ∧ z ≤ 1000000000 ∧ e = .returned (.int .i64 z) := ⟨_, Lib.hid rfl, by omega, by omega, h2⟩
  clear h2
  go_wp2_with fail
  refine (szR_any _ B _ d3 z2 ?_ (by omega) (by omega)).mono ?_
  · exact (HV3.out.below HBN.out HB.out).below (B' := w3.heap.size) (by repeat' (first | exact Below.refl _ _ | apply Below.drew | apply Below.setCell | apply Below.alloc | (simp; done) | omega | (simp; omega))) (Nat.le_trans HB.out HBN.out.size)
  rintro e w4 ⟨b, h2⟩
  have hstep : Below w3.heap.size w3 w4 := Below.trans (by repeat' (first | exact Below.refl _ _ | apply Below.drew | apply Below.setCell | apply Below.alloc | (simp; done) | omega | (simp; omega))) (b.mono (by (first | exact Nat.le_refl _ | (simp; done) | (simp; omega))))
  replace hp0 := (hstep.cell (p := ⟨w.heap.size, 0, none⟩) hlhp).trans hp0
  replace hp1 := (hstep.cell (p := ⟨w.heap.size, 1, none⟩) hlhp).trans hp1
  replace hp2 := (hstep.cell (p := ⟨w.heap.size, 2, none⟩) hlhp).trans hp2
  replace hp3 := (hstep.cell (p := ⟨w.heap.size, 3, none⟩) hlhp).trans hp3
  replace hlhp : w.heap.size < w4.heap.size := Nat.lt_of_lt_of_le hlhp hstep.size
  replace HBN := Lib.hid (HBN.out.trans (hstep.mono HBN.out.size))
  have hzw4 : w3.heap.size ≤ w4.heap.size := hstep.size
  clear b hstep 
  rcases h2 with rfl | ⟨hle3, h2⟩
  · go_wp2
    go_ret
    exact ⟨HBN.out, Or.inl rfl⟩
  obtain ⟨z3, HZ3, hz3a, hz3b, rfl⟩ : ∃ z : Int, Hid (z = z2 - (szR d3 : Nat)) ∧ 0 ≤ z ∧ z ≤ 1000000000 ∧ e = .returned (.int .i64 z) := ⟨_, Lib.hid rfl, by omega, by omega, h2⟩
  clear h2
  go_wp2
  go_ret
  have hsum : z3 = left - ((szE d1 + szR d2 + szR d3 : Nat) : Int) := by have := HZ1.out; have := HZ2.out; have := HZ3.out; omega
  exact ⟨HBN.out, Or.inr ⟨by have := HZ1.out; have := HZ2.out; have := HZ3.out; omega, congrArg (fun z : Int => Ending.returned (Value.int IntKind.i64 z)) hsum⟩⟩

set_option maxHeartbeats 800000 in
theorem toGraph_ok (w : World) (B : Nat) (d0 : Int) (d1 : List Ed) (d2 : List Int) (d3 : List Int) (v1 : Value) (v2 : Value) (v3 : Value) (hv1 : LfE w B v1 d1) (hv2 : LfR w B v2 d2) (hv3 : LfR w B v3 d3) (hB : B ≤ w.heap.size) (hl1 : szE d1 ≤ 1048576) (hl2 : szR d2 ≤ 1048576) (hl3 : szR d3 ≤ 1048576) :
    Calls Try.prog 10 #[.agg #[.int .i64 d0, v1, v2, v3]] w (MkGraph w d0 d1 d2 d3) := by
  obtain ⟨A1, cp1, rfl⟩ := hv1.len
  have HV1 := Lib.hid hv1
  clear hv1
  obtain ⟨A2, cp2, rfl⟩ := hv2.len
  have HV2 := Lib.hid hv2
  clear hv2
  obtain ⟨A3, cp3, rfl⟩ := hv3.len
  have HV3 := Lib.hid hv3
  clear hv3
  have HB := Lib.hid hB
  clear hB
  have HBN := Lib.hid (Below.refl w.heap.size w)
  go_enter Try.func10, Try.ntmps10
  go_wp2_with fail
  refine (toE_any _ B _ d1 ?_ ?_ hl1).mono ?_
  · exact (HV1.out.below HBN.out HB.out).below (B' := w.heap.size) (by repeat' (first | exact Below.refl _ _ | apply Below.drew | apply Below.setCell | apply Below.alloc | (simp; done) | omega | (simp; omega))) (Nat.le_trans HB.out HBN.out.size)
  · (have := HB.out; have := HBN.out.size; simp; omega)
  rintro e w2 ⟨vm1, rfl, b, om1⟩
  obtain ⟨Am1, cm1, rfl⟩ := om1.len
  have hstep : Below w.heap.size w w2 := Below.trans (by repeat' (first | exact Below.refl _ _ | apply Below.drew | apply Below.setCell | apply Below.alloc | (simp; done) | omega | (simp; omega))) (b.mono (by (first | exact Nat.le_refl _ | (simp; done) | (simp; omega))))
  replace HBN := Lib.hid (HBN.out.trans (hstep.mono HBN.out.size))
  have hzw2 : w.heap.size ≤ w2.heap.size := hstep.size
  have hp0 : w2.cell? ⟨w.heap.size, 0, none⟩ = some (.int .i64 d0) := by have := b.cell (p := ⟨w.heap.size, 0, none⟩) (by first | (simp; done) | (simp; omega)); simpa [go_sem] using this
  have hp1 : w2.cell? ⟨w.heap.size, 1, none⟩ = some (.slice A1 d1.length cp1) := by have := b.cell (p := ⟨w.heap.size, 1, none⟩) (by first | (simp; done) | (simp; omega)); simpa [go_sem] using this
  have hp2 : w2.cell? ⟨w.heap.size, 2, none⟩ = some (.slice A2 d2.length cp2) := by have := b.cell (p := ⟨w.heap.size, 2, none⟩) (by first | (simp; done) | (simp; omega)); simpa [go_sem] using this
  have hp3 : w2.cell? ⟨w.heap.size, 3, none⟩ = some (.slice A3 d3.length cp3) := by have := b.cell (p := ⟨w.heap.size, 3, none⟩) (by first | (simp; done) | (simp; omega)); simpa [go_sem] using this
  have hlhp : w.heap.size < w2.heap.size := by have := b.size; simp at this; omega
  have hlhpq := hlhp
  have hr0 : w2.cell? ⟨w.heap.size + 1, 0, none⟩ = some (.int .i64 0) := by have := b.cell (p := ⟨w.heap.size + 1, 0, none⟩) (by first | (simp; done) | (simp; omega)); simpa [go_sem] using this
  have hr1 : w2.cell? ⟨w.heap.size + 1, 1, none⟩ = some (.slice none 0 0) := by have := b.cell (p := ⟨w.heap.size + 1, 1, none⟩) (by first | (simp; done) | (simp; omega)); simpa [go_sem] using this
  have hr2 : w2.cell? ⟨w.heap.size + 1, 2, none⟩ = some (.slice none 0 0) := by have := b.cell (p := ⟨w.heap.size + 1, 2, none⟩) (by first | (simp; done) | (simp; omega)); simpa [go_sem] using this
  have hr3 : w2.cell? ⟨w.heap.size + 1, 3, none⟩ = some (.slice none 0 0) := by have := b.cell (p := ⟨w.heap.size + 1, 3, none⟩) (by first | (simp; done) | (simp; omega)); simpa [go_sem] using this
  have hlhr : w.heap.size + 1 < w2.heap.size := by have := b.size; simp at this; omega
  have hlhrq := hlhr
  have ho0 : w2.cell? ⟨w.heap.size + 1 + 1, 0, none⟩ = some (.int .i64 d0) := by have := b.cell (p := ⟨w.heap.size + 1 + 1, 0, none⟩) (by first | (simp; done) | (simp; omega)); simpa [go_sem] using this
  have ho1 : w2.cell? ⟨w.heap.size + 1 + 1, 1, none⟩ = some (.slice none 0 0) := by have := b.cell (p := ⟨w.heap.size + 1 + 1, 1, none⟩) (by first | (simp; done) | (simp; omega)); simpa [go_sem] using this
  have ho2 : w2.cell? ⟨w.heap.size + 1 + 1, 2, none⟩ = some (.slice none 0 0) := by have := b.cell (p := ⟨w.heap.size + 1 + 1, 2, none⟩) (by first | (simp; done) | (simp; omega)); simpa [go_sem] using this
  have ho3 : w2.cell? ⟨w.heap.size + 1 + 1, 3, none⟩ = some (.slice none 0 0) := by have := b.cell (p := ⟨w.heap.size + 1 + 1, 3, none⟩) (by first | (simp; done) | (simp; omega)); simpa [go_sem] using this
  have hlho : w.heap.size + 1 + 1 < w2.heap.size := by have := b.size; simp at this; omega
  have hlhoq := hlho
  have hpf : ∀ o, w2.frozen? ⟨w.heap.size, o, none⟩ = false := fun o => by have := b.frozen (p := ⟨w.heap.size, o, none⟩) (by first | (simp; done) | (simp; omega)); simpa [go_sem] using this
  have hrf : ∀ o, w2.frozen? ⟨w.heap.size + 1, o, none⟩ = false := fun o => by have := b.frozen (p := ⟨w.heap.size + 1, o, none⟩) (by first | (simp; done) | (simp; omega)); simpa [go_sem] using this
  have hof : ∀ o, w2.frozen? ⟨w.heap.size + 1 + 1, o, none⟩ = false := fun o => by have := b.frozen (p := ⟨w.heap.size + 1 + 1, o, none⟩) (by first | (simp; done) | (simp; omega)); simpa [go_sem] using this
  obtain ⟨SHOm1, HSHOm1, HOm1⟩ : ∃ S : Nat → Prop, Hid (∀ k, S k → w.heap.size + 3 ≤ k ∧ k < w2.heap.size) ∧ Hid (OwnE w2 S (.slice Am1 d1.length cm1) d1) := ⟨fun k => w.heap.size + 3 ≤ k ∧ k < w2.heap.size, Lib.hid (fun k hk => hk), Lib.hid (om1.mono (fun k hk hk2 => ⟨by have hk3 := hk; (try simp at hk3); omega, hk2⟩))⟩
  clear b hstep om1
  go_wp2_with fail
  obtain ⟨wm2, HWM⟩ : ∃ x, x = w2.setCell ⟨w.heap.size + 1 + 1, 1, none⟩ (.slice Am1 d1.length cm1) := ⟨_, rfl⟩
  rw [← HWM]
  have hzm : wm2.heap.size = w2.heap.size := by rw [HWM]; simp
  replace hp0 := (World.cell?_of_block (w := w2) (w' := wm2) (by rw [HWM]; exact blk_setCell_other _ _ _ _ (by first | (simp; done) | (simp; omega)))).trans hp0
  replace hp1 := (World.cell?_of_block (w := w2) (w' := wm2) (by rw [HWM]; exact blk_setCell_other _ _ _ _ (by first | (simp; done) | (simp; omega)))).trans hp1
  replace hp2 := (World.cell?_of_block (w := w2) (w' := wm2) (by rw [HWM]; exact blk_setCell_other _ _ _ _ (by first | (simp; done) | (simp; omega)))).trans hp2
  replace hp3 := (World.cell?_of_block (w := w2) (w' := wm2) (by rw [HWM]; exact blk_setCell_other _ _ _ _ (by first | (simp; done) | (simp; omega)))).trans hp3
  replace hr0 := (World.cell?_of_block (w := w2) (w' := wm2) (by rw [HWM]; exact blk_setCell_other _ _ _ _ (by first | (simp; done) | (simp; omega)))).trans hr0
  replace hr1 := (World.cell?_of_block (w := w2) (w' := wm2) (by rw [HWM]; exact blk_setCell_other _ _ _ _ (by first | (simp; done) | (simp; omega)))).trans hr1
  replace hr2 := (World.cell?_of_block (w := w2) (w' := wm2) (by rw [HWM]; exact blk_setCell_other _ _ _ _ (by first | (simp; done) | (simp; omega)))).trans hr2
  replace hr3 := (World.cell?_of_block (w := w2) (w' := wm2) (by rw [HWM]; exact blk_setCell_other _ _ _ _ (by first | (simp; done) | (simp; omega)))).trans hr3
  have ho0n : wm2.cell? ⟨w.heap.size + 1 + 1, 0, none⟩ = some (.int .i64 d0) := by rw [HWM]; simp [go_sem, ho0]
  have ho1n : wm2.cell? ⟨w.heap.size + 1 + 1, 1, none⟩ = some (.slice Am1 d1.length cm1) := by rw [HWM]; simp [go_sem, ho1]
  have ho2n : wm2.cell? ⟨w.heap.size + 1 + 1, 2, none⟩ = some (.slice none 0 0) := by rw [HWM]; simp [go_sem, ho2]
  have ho3n : wm2.cell? ⟨w.heap.size + 1 + 1, 3, none⟩ = some (.slice none 0 0) := by rw [HWM]; simp [go_sem, ho3]
  replace ho0 := ho0n
  clear ho0n
  replace ho1 := ho1n
  clear ho1n
  replace ho2 := ho2n
  clear ho2n
  replace ho3 := ho3n
  clear ho3n
  replace hpf : ∀ o, wm2.frozen? ⟨w.heap.size, o, none⟩ = false := fun o => by rw [HWM]; simp [go_sem, hpf]
  replace hlhp : w.heap.size < wm2.heap.size := by rw [hzm]; exact hlhp
  replace hrf : ∀ o, wm2.frozen? ⟨w.heap.size + 1, o, none⟩ = false := fun o => by rw [HWM]; simp [go_sem, hrf]
  replace hlhr : w.heap.size + 1 < wm2.heap.size := by rw [hzm]; exact hlhr
  replace hof : ∀ o, wm2.frozen? ⟨w.heap.size + 1 + 1, o, none⟩ = false := fun o => by rw [HWM]; simp [go_sem, hof]
  replace hlho : w.heap.size + 1 + 1 < wm2.heap.size := by rw [hzm]; exact hlho
  replace HOm1 := Lib.hid (HOm1.out.blocks (w' := wm2) (fun k hk hkl => by have hk2 := HSHOm1.out k hk; rw [HWM]; exact blk_setCell_other _ _ _ _ (by simp; omega)))
  replace HBN : Hid (Below w.heap.size w wm2) := Lib.hid (by rw [HWM]; refine Below.trans HBN.out ?_; have hsz := HBN.out.size; repeat' (first | exact Below.refl _ _ | apply Below.drew | apply Below.setCell | apply Below.alloc | (simp; done) | omega | (simp; omega)))
  clear HWM
  refine (toR_any _ B _ d2 ?_ ?_ hl2).mono ?_
  · exact (HV2.out.below HBN.out HB.out).below (B' := wm2.heap.size) (by repeat' (first | exact Below.refl _ _ | apply Below.drew | apply Below.setCell | apply Below.alloc | (simp; done) | omega | (simp; omega))) (Nat.le_trans HB.out HBN.out.size)
  · (have := HB.out; have := HBN.out.size; omega)
  rintro e w3 ⟨vm2, rfl, b, om2⟩
  obtain ⟨Am2, cm2, rfl⟩ := om2.len
  have hstep : Below wm2.heap.size wm2 w3 := Below.trans (by repeat' (first | exact Below.refl _ _ | apply Below.drew | apply Below.setCell | apply Below.alloc | (simp; done) | omega | (simp; omega))) (b.mono (by (first | exact Nat.le_refl _ | (simp; done) | (simp; omega))))
  replace hp0 := (hstep.cell (p := ⟨w.heap.size, 0, none⟩) hlhp).trans hp0
  replace hp1 := (hstep.cell (p := ⟨w.heap.size, 1, none⟩) hlhp).trans hp1
  replace hp2 := (hstep.cell (p := ⟨w.heap.size, 2, none⟩) hlhp).trans hp2
  replace hp3 := (hstep.cell (p := ⟨w.heap.size, 3, none⟩) hlhp).trans hp3
  replace hlhp : w.heap.size < w3.heap.size := Nat.lt_of_lt_of_le hlhp hstep.size
  replace hr0 := (hstep.cell (p := ⟨w.heap.size + 1, 0, none⟩) hlhr).trans hr0
  replace hr1 := (hstep.cell (p := ⟨w.heap.size + 1, 1, none⟩) hlhr).trans hr1
  replace hr2 := (hstep.cell (p := ⟨w.heap.size + 1, 2, none⟩) hlhr).trans hr2
  replace hr3 := (hstep.cell (p := ⟨w.heap.size + 1, 3, none⟩) hlhr).trans hr3
  replace hlhr : w.heap.size + 1 < w3.heap.size := Nat.lt_of_lt_of_le hlhr hstep.size
  replace ho0 := (hstep.cell (p := ⟨w.heap.size + 1 + 1, 0, none⟩) hlho).trans ho0
  replace ho1 := (hstep.cell (p := ⟨w.heap.size + 1 + 1, 1, none⟩) hlho).trans ho1
  replace ho2 := (hstep.cell (p := ⟨w.heap.size + 1 + 1, 2, none⟩) hlho).trans ho2
  replace ho3 := (hstep.cell (p := ⟨w.heap.size + 1 + 1, 3, none⟩) hlho).trans ho3
  replace hlho : w.heap.size + 1 + 1 < w3.heap.size := Nat.lt_of_lt_of_le hlho hstep.size
  replace HOm1 := Lib.hid (HOm1.out.below hstep (fun _ _ hq => hq))
  replace HBN := Lib.hid (HBN.out.trans (hstep.mono HBN.out.size))
  have hzw3 : wm2.heap.size ≤ w3.heap.size := hstep.size
  replace hpf : ∀ o, w3.frozen? ⟨w.heap.size, o, none⟩ = false := fun o => by have := b.frozen (p := ⟨w.heap.size, o, none⟩) (by first | (simp; done) | (simp; omega)); simpa [go_sem, hpf] using this
  replace hrf : ∀ o, w3.frozen? ⟨w.heap.size + 1, o, none⟩ = false := fun o => by have := b.frozen (p := ⟨w.heap.size + 1, o, none⟩) (by first | (simp; done) | (simp; omega)); simpa [go_sem, hrf] using this
  replace hof : ∀ o, w3.frozen? ⟨w.heap.size + 1 + 1, o, none⟩ = false := fun o => by have := b.frozen (p := ⟨w.heap.size + 1 + 1, o, none⟩) (by first | (simp; done) | (simp; omega)); simpa [go_sem, hof] using this
  obtain ⟨SHOm2, HSHOm2, HOm2⟩ : ∃ S : Nat → Prop, Hid (∀ k, S k → wm2.heap.size ≤ k ∧ k < w3.heap.size) ∧ Hid (OwnR w3 S (.slice Am2 d2.length cm2) d2) := ⟨fun k => wm2.heap.size ≤ k ∧ k < w3.heap.size, Lib.hid (fun k hk => hk), Lib.hid (om2.mono (fun k hk hk2 => ⟨by have hk3 := hk; (try simp at hk3); omega, hk2⟩))⟩
  clear b hstep om2
  go_wp2_with fail
  obtain ⟨wm3, HWM⟩ : ∃ x, x = w3.setCell ⟨w.heap.size + 1 + 1, 2, none⟩ (.slice Am2 d2.length cm2) := ⟨_, rfl⟩
  rw [← HWM]
  have hzm : wm3.heap.size = w3.heap.size := by rw [HWM]; simp
  replace hp0 := (World.cell?_of_block (w := w3) (w' := wm3) (by rw [HWM]; exact blk_setCell_other _ _ _ _ (by first | (simp; done) | (simp; omega)))).trans hp0
  replace hp1 := (World.cell?_of_block (w := w3) (w' := wm3) (by rw [HWM]; exact blk_setCell_other _ _ _ _ (by first | (simp; done) | (simp; omega)))).trans hp1
  replace hp2 := (World.cell?_of_block (w := w3) (w' := wm3) (by rw [HWM]; exact blk_setCell_other _ _ _ _ (by first | (simp; done) | (simp; omega)))).trans hp2
  replace hp3 := (World.cell?_of_block (w := w3) (w' := wm3) (by rw [HWM]; exact blk_setCell_other _ _ _ _ (by first | (simp; done) | (simp; omega)))).trans hp3
  replace hr0 := (World.cell?_of_block (w := w3) (w' := wm3) (by rw [HWM]; exact blk_setCell_other _ _ _ _ (by first | (simp; done) | (simp; omega)))).trans hr0
  replace hr1 := (World.cell?_of_block (w := w3) (w' := wm3) (by rw [HWM]; exact blk_setCell_other _ _ _ _ (by first | (simp; done) | (simp; omega)))).trans hr1
  replace hr2 := (World.cell?_of_block (w := w3) (w' := wm3) (by rw [HWM]; exact blk_setCell_other _ _ _ _ (by first | (simp; done) | (simp; omega)))).trans hr2
  replace hr3 := (World.cell?_of_block (w := w3) (w' := wm3) (by rw [HWM]; exact blk_setCell_other _ _ _ _ (by first | (simp; done) | (simp; omega)))).trans hr3
  have ho0n : wm3.cell? ⟨w.heap.size + 1 + 1, 0, none⟩ = some (.int .i64 d0) := by rw [HWM]; simp [go_sem, ho0]
  have ho1n : wm3.cell? ⟨w.heap.size + 1 + 1, 1, none⟩ = some (.slice Am1 d1.length cm1) := by rw [HWM]; simp [go_sem, ho1]
  have ho2n : wm3.cell? ⟨w.heap.size + 1 + 1, 2, none⟩ = some (.slice Am2 d2.length cm2) := by rw [HWM]; simp [go_sem, ho2]
  have ho3n : wm3.cell? ⟨w.heap.size + 1 + 1, 3, none⟩ = some (.slice none 0 0) := by rw [HWM]; simp [go_sem, ho3]
  replace ho0 := ho0n
  clear ho0n
  replace ho1 := ho1n
  clear ho1n
  replace ho2 := ho2n
  clear ho2n
  replace ho3 := ho3n
  clear ho3n
  replace hpf : ∀ o, wm3.frozen? ⟨w.heap.size, o, none⟩ = false := fun o => by rw [HWM]; simp [go_sem, hpf]
  replace hlhp : w.heap.size < wm3.heap.size := by rw [hzm]; exact hlhp
  replace hrf : ∀ o, wm3.frozen? ⟨w.heap.size + 1, o, none⟩ = false := fun o => by rw [HWM]; simp [go_sem, hrf]
  replace hlhr : w.heap.size + 1 < wm3.heap.size := by rw [hzm]; exact hlhr
  replace hof : ∀ o, wm3.frozen? ⟨w.heap.size + 1 + 1, o, none⟩ = false := fun o => by rw [HWM]; simp [go_sem, hof]
  replace hlho : w.heap.size + 1 + 1 < wm3.heap.size := by rw [hzm]; exact hlho
  replace HOm1 := Lib.hid (HOm1.out.blocks (w' := wm3) (fun k hk hkl => by have hk2 := HSHOm1.out k hk; rw [HWM]; exact blk_setCell_other _ _ _ _ (by simp; omega)))
  replace HOm2 := Lib.hid (HOm2.out.blocks (w' := wm3) (fun k hk hkl => by have hk2 := HSHOm2.out k hk; rw [HWM]; exact blk_setCell_other _ _ _ _ (by simp; omega)))
  replace HBN : Hid (Below w.heap.size w wm3) := Lib.hid (by rw [HWM]; refine Below.trans HBN.out ?_; have hsz := HBN.out.size; repeat' (first | exact Below.refl _ _ | apply Below.drew | apply Below.setCell | apply Below.alloc | (simp; done) | omega | (simp; omega)))
  clear HWM
  refine (toR_any _ B _ d3 ?_ ?_ hl3).mono ?_
  · exact (HV3.out.below HBN.out HB.out).below (B' := wm3.heap.size) (by repeat' (first | exact Below.refl _ _ | apply Below.drew | apply Below.setCell | apply Below.alloc | (simp; done) | omega | (simp; omega))) (Nat.le_trans HB.out HBN.out.size)
  · (have := HB.out; have := HBN.out.size; omega)
  rintro e w4 ⟨vm3, rfl, b, om3⟩
  obtain ⟨Am3, cm3, rfl⟩ := om3.len
  have hstep : Below wm3.heap.size wm3 w4 := Below.trans (by repeat' (first | exact Below.refl _ _ | apply Below.drew | apply Below.setCell | apply Below.alloc | (simp; done) | omega | (simp; omega))) (b.mono (by (first | exact Nat.le_refl _ | (simp; done) | (simp; omega))))
  replace hp0 := (hstep.cell (p := ⟨w.heap.size, 0, none⟩) hlhp).trans hp0
  replace hp1 := (hstep.cell (p := ⟨w.heap.size, 1, none⟩) hlhp).trans hp1
  replace hp2 := (hstep.cell (p := ⟨w.heap.size, 2, none⟩) hlhp).trans hp2
  replace hp3 := (hstep.cell (p := ⟨w.heap.size, 3, none⟩) hlhp).trans hp3
  replace hlhp : w.heap.size < w4.heap.size := Nat.lt_of_lt_of_le hlhp hstep.size
  replace hr0 := (hstep.cell (p := ⟨w.heap.size + 1, 0, none⟩) hlhr).trans hr0
  replace hr1 := (hstep.cell (p := ⟨w.heap.size + 1, 1, none⟩) hlhr).trans hr1
  replace hr2 := (hstep.cell (p := ⟨w.heap.size + 1, 2, none⟩) hlhr).trans hr2
  replace hr3 := (hstep.cell (p := ⟨w.heap.size + 1, 3, none⟩) hlhr).trans hr3
  replace hlhr : w.heap.size + 1 < w4.heap.size := Nat.lt_of_lt_of_le hlhr hstep.size
  replace ho0 := (hstep.cell (p := ⟨w.heap.size + 1 + 1, 0, none⟩) hlho).trans ho0
  replace ho1 := (hstep.cell (p := ⟨w.heap.size + 1 + 1, 1, none⟩) hlho).trans ho1
  replace ho2 := (hstep.cell (p := ⟨w.heap.size + 1 + 1, 2, none⟩) hlho).trans ho2
  replace ho3 := (hstep.cell (p := ⟨w.heap.size + 1 + 1, 3, none⟩) hlho).trans ho3
  replace hlho : w.heap.size + 1 + 1 < w4.heap.size := Nat.lt_of_lt_of_le hlho hstep.size
  replace HOm1 := Lib.hid (HOm1.out.below hstep (fun _ _ hq => hq))
  replace HOm2 := Lib.hid (HOm2.out.below hstep (fun _ _ hq => hq))
  replace HBN := Lib.hid (HBN.out.trans (hstep.mono HBN.out.size))
  have hzw4 : wm3.heap.size ≤ w4.heap.size := hstep.size
  replace hpf : ∀ o, w4.frozen? ⟨w.heap.size, o, none⟩ = false := fun o => by have := b.frozen (p := ⟨w.heap.size, o, none⟩) (by first | (simp; done) | (simp; omega)); simpa [go_sem, hpf] using this
  replace hrf : ∀ o, w4.frozen? ⟨w.heap.size + 1, o, none⟩ = false := fun o => by have := b.frozen (p := ⟨w.heap.size + 1, o, none⟩) (by first | (simp; done) | (simp; omega)); simpa [go_sem, hrf] using this
  replace hof : ∀ o, w4.frozen? ⟨w.heap.size + 1 + 1, o, none⟩ = false := fun o => by have := b.frozen (p := ⟨w.heap.size + 1 + 1, o, none⟩) (by first | (simp; done) | (simp; omega)); simpa [go_sem, hof] using this
  obtain ⟨SHOm3, HSHOm3, HOm3⟩ : ∃ S : Nat → Prop, Hid (∀ k, S k → wm3.heap.size ≤ k ∧ k < w4.heap.size) ∧ Hid (OwnR w4 S (.slice Am3 d3.length cm3) d3) := ⟨fun k => wm3.heap.size ≤ k ∧ k < w4.heap.size, Lib.hid (fun k hk => hk), Lib.hid (om3.mono (fun k hk hk2 => ⟨by have hk3 := hk; (try simp at hk3); omega, hk2⟩))⟩
  clear b hstep om3
  go_wp2
  refine bodyPost_ret (v := .agg #[.int .i64 d0, .slice Am1 d1.length cm1, .slice Am2 d2.length cm2, .slice Am3 d3.length cm3]) (by simp [results, Try.results10, go_sem, hr0, hr1, hr2, hr3]) rfl ?_
  refine ⟨_, _, _, SHOm1, SHOm2, SHOm3, rfl, (by refine Below.trans HBN.out ?_; have hsz := HBN.out.size; repeat' (first | exact Below.refl _ _ | apply Below.drew | apply Below.setCell | apply Below.alloc | (simp; done) | omega | (simp; omega))), fun k hk => by have := HSHOm1.out k hk; omega, fun k hk => by have := HSHOm2.out k hk; omega, fun k hk => by have := HSHOm3.out k hk; omega, fun k h1 h2 => by have := HSHOm1.out k h1; have := HSHOm2.out k h2; omega, fun k h1 h2 => by have := HSHOm1.out k h1; have := HSHOm3.out k h2; omega, fun k h1 h2 => by have := HSHOm2.out k h1; have := HSHOm3.out k h2; omega, ?_, ?_, ?_⟩
  · refine HOm1.out.blocks (fun k hk hkl => ?_)
    have hk2 := HSHOm1.out k hk
    repeat (first | rw [blk_setCell_other _ _ _ _ (by simp; omega)] | rfl)
  · refine HOm2.out.blocks (fun k hk hkl => ?_)
    have hk2 := HSHOm2.out k hk
    repeat (first | rw [blk_setCell_other _ _ _ _ (by simp; omega)] | rfl)
  · refine HOm3.out.blocks (fun k hk hkl => ?_)
    have hk2 := HSHOm3.out k hk
    repeat (first | rw [blk_setCell_other _ _ _ _ (by simp; omega)] | rfl)

set_option maxHeartbeats 800000 in
theorem eqGraph_ok (w : World) (B : Nat) (d0 : Int) (d1 : List Ed) (d2 : List Int) (d3 : List Int) (v1 : Value) (v2 : Value) (v3 : Value) (u1 : Value) (u2 : Value) (u3 : Value) (hv1 : LfE w B v1 d1) (hv2 : LfR w B v2 d2) (hv3 : LfR w B v3 d3) (hu1 : LfE w B u1 d1) (hu2 : LfR w B u2 d2) (hu3 : LfR w B u3 d3) (hB : B ≤ w.heap.size) :
    Calls Try.prog 12 #[.agg #[.int .i64 d0, v1, v2, v3], .agg #[.int .i64 d0, u1, u2, u3]] w (SaysYes w) := by
  obtain ⟨A1, cp1, rfl⟩ := hv1.len
  have HV1 := Lib.hid hv1
  clear hv1
  obtain ⟨A2, cp2, rfl⟩ := hv2.len
  have HV2 := Lib.hid hv2
  clear hv2
  obtain ⟨A3, cp3, rfl⟩ := hv3.len
  have HV3 := Lib.hid hv3
  clear hv3
  obtain ⟨A'1, cq1, rfl⟩ := hu1.len
  have HU1 := Lib.hid hu1
  clear hu1
  obtain ⟨A'2, cq2, rfl⟩ := hu2.len
  have HU2 := Lib.hid hu2
  clear hu2
  obtain ⟨A'3, cq3, rfl⟩ := hu3.len
  have HU3 := Lib.hid hu3
  clear hu3
  have HB := Lib.hid hB
  clear hB
  have HBN := Lib.hid (Below.refl w.heap.size w)
  have hq0 : (d0 != d0) = false := by simp
  go_enter Try.func12, Try.ntmps12
  go_wp2_with fail
  refine (eqE_any _ B _ _ d1 ?_ ?_).mono ?_
  · exact (HV1.out.below HBN.out HB.out).below (B' := w.heap.size) (by repeat' (first | exact Below.refl _ _ | apply Below.drew | apply Below.setCell | apply Below.alloc | (simp; done) | omega | (simp; omega))) (Nat.le_trans HB.out HBN.out.size)
  · exact (HU1.out.below HBN.out HB.out).below (B' := w.heap.size) (by repeat' (first | exact Below.refl _ _ | apply Below.drew | apply Below.setCell | apply Below.alloc | (simp; done) | omega | (simp; omega))) (Nat.le_trans HB.out HBN.out.size)
  rintro e w2 ⟨rfl, b⟩
  have hstep : Below w.heap.size w w2 := Below.trans (by repeat' (first | exact Below.refl _ _ | apply Below.drew | apply Below.setCell | apply Below.alloc | (simp; done) | omega | (simp; omega))) (b.mono (by (first | exact Nat.le_refl _ | (simp; done) | (simp; omega))))
  replace HBN := Lib.hid (HBN.out.trans (hstep.mono HBN.out.size))
  have hzw2 : w.heap.size ≤ w2.heap.size := hstep.size
  have hp0 : w2.cell? ⟨w.heap.size, 0, none⟩ = some (.int .i64 d0) := by have := b.cell (p := ⟨w.heap.size, 0, none⟩) (by first | (simp; done) | (simp; omega)); simpa [go_sem] using this
  have hp1 : w2.cell? ⟨w.heap.size, 1, none⟩ = some (.slice A1 d1.length cp1) := by have := b.cell (p := ⟨w.heap.size, 1, none⟩) (by first | (simp; done) | (simp; omega)); simpa [go_sem] using this
  have hp2 : w2.cell? ⟨w.heap.size, 2, none⟩ = some (.slice A2 d2.length cp2) := by have := b.cell (p := ⟨w.heap.size, 2, none⟩) (by first | (simp; done) | (simp; omega)); simpa [go_sem] using this
  have hp3 : w2.cell? ⟨w.heap.size, 3, none⟩ = some (.slice A3 d3.length cp3) := by have := b.cell (p := ⟨w.heap.size, 3, none⟩) (by first | (simp; done) | (simp; omega)); simpa [go_sem] using this
  have hlhp : w.heap.size < w2.heap.size := by have := b.size; simp at this; omega
  have hlhpq := hlhp
  have hq'0 : w2.cell? ⟨w.heap.size + 1, 0, none⟩ = some (.int .i64 d0) := by have := b.cell (p := ⟨w.heap.size + 1, 0, none⟩) (by first | (simp; done) | (simp; omega)); simpa [go_sem] using this
  have hq'1 : w2.cell? ⟨w.heap.size + 1, 1, none⟩ = some (.slice A'1 d1.length cq1) := by have := b.cell (p := ⟨w.heap.size + 1, 1, none⟩) (by first | (simp; done) | (simp; omega)); simpa [go_sem] using this
  have hq'2 : w2.cell? ⟨w.heap.size + 1, 2, none⟩ = some (.slice A'2 d2.length cq2) := by have := b.cell (p := ⟨w.heap.size + 1, 2, none⟩) (by first | (simp; done) | (simp; omega)); simpa [go_sem] using this
  have hq'3 : w2.cell? ⟨w.heap.size + 1, 3, none⟩ = some (.slice A'3 d3.length cq3) := by have := b.cell (p := ⟨w.heap.size + 1, 3, none⟩) (by first | (simp; done) | (simp; omega)); simpa [go_sem] using this
  have hlhq' : w.heap.size + 1 < w2.heap.size := by have := b.size; simp at this; omega
  have hlhq'q := hlhq'
  clear b hstep 
  go_wp2_with fail
  refine (eqR_any _ B _ _ d2 ?_ ?_).mono ?_
  · exact (HV2.out.below HBN.out HB.out).below (B' := w2.heap.size) (by repeat' (first | exact Below.refl _ _ | apply Below.drew | apply Below.setCell | apply Below.alloc | (simp; done) | omega | (simp; omega))) (Nat.le_trans HB.out HBN.out.size)
  · exact (HU2.out.below HBN.out HB.out).below (B' := w2.heap.size) (by repeat' (first | exact Below.refl _ _ | apply Below.drew | apply Below.setCell | apply Below.alloc | (simp; done) | omega | (simp; omega))) (Nat.le_trans HB.out HBN.out.size)
  rintro e w3 ⟨rfl, b⟩
  have hstep : Below w2.heap.size w2 w3 := Below.trans (by repeat' (first | exact Below.refl _ _ | apply Below.drew | apply Below.setCell | apply Below.alloc | (simp; done) | omega | (simp; omega))) (b.mono (by (first | exact Nat.le_refl _ | (simp; done) | (simp; omega))))
  replace hp0 := (hstep.cell (p := ⟨w.heap.size, 0, none⟩) hlhp).trans hp0
  replace hp1 := (hstep.cell (p := ⟨w.heap.size, 1, none⟩) hlhp).trans hp1
  replace hp2 := (hstep.cell (p := ⟨w.heap.size, 2, none⟩) hlhp).trans hp2
  replace hp3 := (hstep.cell (p := ⟨w.heap.size, 3, none⟩) hlhp).trans hp3
  replace hlhp : w.heap.size < w3.heap.size := Nat.lt_of_lt_of_le hlhp hstep.size
  replace hq'0 := (hstep.cell (p := ⟨w.heap.size + 1, 0, none⟩) hlhq').trans hq'0
  replace hq'1 := (hstep.cell (p := ⟨w.heap.size + 1, 1, none⟩) hlhq').trans hq'1
  replace hq'2 := (hstep.cell (p := ⟨w.heap.size + 1, 2, none⟩) hlhq').trans hq'2
  replace hq'3 := (hstep.cell (p := ⟨w.heap.size + 1, 3, none⟩) hlhq').trans hq'3
  replace hlhq' : w.heap.size + 1 < w3.heap.size := Nat.lt_of_lt_of_le hlhq' hstep.size
  replace HBN := Lib.hid (HBN.out.trans (hstep.mono HBN.out.size))
  have hzw3 : w2.heap.size ≤ w3.heap.size := hstep.size
  clear b hstep 
  go_wp2_with fail
  refine (eqR_any _ B _ _ d3 ?_ ?_).mono ?_
  · exact (HV3.out.below HBN.out HB.out).below (B' := w3.heap.size) (by repeat' (first | exact Below.refl _ _ | apply Below.drew | apply Below.setCell | apply Below.alloc | (simp; done) | omega | (simp; omega))) (Nat.le_trans HB.out HBN.out.size)
  · exact (HU3.out.below HBN.out HB.out).below (B' := w3.heap.size) (by repeat' (first | exact Below.refl _ _ | apply Below.drew | apply Below.setCell | apply Below.alloc | (simp; done) | omega | (simp; omega))) (Nat.le_trans HB.out HBN.out.size)
  rintro e w4 ⟨rfl, b⟩
  have hstep : Below w3.heap.size w3 w4 := Below.trans (by repeat' (first | exact Below.refl _ _ | apply Below.drew | apply Below.setCell | apply Below.alloc | (simp; done) | omega | (simp; omega))) (b.mono (by (first | exact Nat.le_refl _ | (simp; done) | (simp; omega))))
  replace hp0 := (hstep.cell (p := ⟨w.heap.size, 0, none⟩) hlhp).trans hp0
  replace hp1 := (hstep.cell (p := ⟨w.heap.size, 1, none⟩) hlhp).trans hp1
  replace hp2 := (hstep.cell (p := ⟨w.heap.size, 2, none⟩) hlhp).trans hp2
  replace hp3 := (hstep.cell (p := ⟨w.heap.size, 3, none⟩) hlhp).trans hp3
  replace hlhp : w.heap.size < w4.heap.size := Nat.lt_of_lt_of_le hlhp hstep.size
  replace hq'0 := (hstep.cell (p := ⟨w.heap.size + 1, 0, none⟩) hlhq').trans hq'0
  replace hq'1 := (hstep.cell (p := ⟨w.heap.size + 1, 1, none⟩) hlhq').trans hq'1
  replace hq'2 := (hstep.cell (p := ⟨w.heap.size + 1, 2, none⟩) hlhq').trans hq'2
  replace hq'3 := (hstep.cell (p := ⟨w.heap.size + 1, 3, none⟩) hlhq').trans hq'3
  replace hlhq' : w.heap.size + 1 < w4.heap.size := Nat.lt_of_lt_of_le hlhq' hstep.size
  replace HBN := Lib.hid (HBN.out.trans (hstep.mono HBN.out.size))
  have hzw4 : w3.heap.size ≤ w4.heap.size := hstep.size
  clear b hstep 
  go_wp2
  go_ret
  exact ⟨rfl, HBN.out⟩

set_option maxHeartbeats 800000 in
theorem markGraph_ok (w : World) (d0 : Int) (d1 : List Ed) (d2 : List Int) (d3 : List Int) (v1 : Value) (v2 : Value) (v3 : Value) (S1 : Nat → Prop) (S2 : Nat → Prop) (S3 : Nat → Prop) (k : Int) (ho1 : OwnE w S1 v1 d1) (ho2 : OwnR w S2 v2 d2) (ho3 : OwnR w S3 v3 d3) (hd1_2 : ∀ q, S1 q → S2 q → False) (hd1_3 : ∀ q, S1 q → S3 q → False) (hd2_3 : ∀ q, S2 q → S3 q → False) (h0 : 0 ≤ k) (hl : k + ((cntE d1 + cntR d2 + cntR d3 : Nat) : Int) ≤ 9223372036854775807) :
    Calls Try.prog 13 #[.agg #[.int .i64 d0, v1, v2, v3], .int .i64 k] w fun e w' => e = .returned (.int .i64 (k + ((cntE d1 + cntR d2 + cntR d3 : Nat) : Int))) ∧ Touch (fun b => S1 b ∨ S2 b ∨ S3 b) w w' ∧ OwnE w' S1 v1 (mkE k d1) ∧ OwnR w' S2 v2 (mkR (k + ((cntE d1 : Nat) : Int)) d2) ∧ OwnR w' S3 v3 (mkR (k + ((cntE d1 + cntR d2 : Nat) : Int)) d3) := by
  obtain ⟨A1, cp1, rfl⟩ := ho1.len
  obtain ⟨A2, cp2, rfl⟩ := ho2.len
  obtain ⟨A3, cp3, rfl⟩ := ho3.len
  have HOm1 := Lib.hid (ho1.mono (T := fun b => S1 b ∧ b < w.heap.size) (fun k a b => ⟨a, b⟩))
  clear ho1
  have HSm1 : Hid (∀ k, S1 k ∧ k < w.heap.size → 0 ≤ k ∧ k < w.heap.size) := Lib.hid (fun k hk => ⟨Nat.zero_le _, hk.2⟩)
  have HOm2 := Lib.hid (ho2.mono (T := fun b => S2 b ∧ b < w.heap.size) (fun k a b => ⟨a, b⟩))
  clear ho2
  have HSm2 : Hid (∀ k, S2 k ∧ k < w.heap.size → 0 ≤ k ∧ k < w.heap.size) := Lib.hid (fun k hk => ⟨Nat.zero_le _, hk.2⟩)
  have HOm3 := Lib.hid (ho3.mono (T := fun b => S3 b ∧ b < w.heap.size) (fun k a b => ⟨a, b⟩))
  clear ho3
  have HSm3 : Hid (∀ k, S3 k ∧ k < w.heap.size → 0 ≤ k ∧ k < w.heap.size) := Lib.hid (fun k hk => ⟨Nat.zero_le _, hk.2⟩)
  have HDm1_2 : Hid (∀ q, (S1 q ∧ q < w.heap.size) → (S2 q ∧ q < w.heap.size) → False) := Lib.hid (fun q h1 h2 => hd1_2 q h1.1 h2.1)
  have HDm1_3 : Hid (∀ q, (S1 q ∧ q < w.heap.size) → (S3 q ∧ q < w.heap.size) → False) := Lib.hid (fun q h1 h2 => hd1_3 q h1.1 h2.1)
  have HDm2_3 : Hid (∀ q, (S2 q ∧ q < w.heap.size) → (S3 q ∧ q < w.heap.size) → False) := Lib.hid (fun q h1 h2 => hd2_3 q h1.1 h2.1)
  have HTT : Hid (Touch (fun b => S1 b ∨ S2 b ∨ S3 b) w w) := Lib.hid (Touch.refl _ _)
  have HBN := Lib.hid (Below.refl 0 w)
  go_enter Try.func13, Try.ntmps13
  go_wp2_with fail
  refine (markedE_any _ (fun b => S1 b ∧ b < w.heap.size) _ d1 k ?_ (by omega) (by omega)).mono ?_
  · exact HOm1.out.blocks (fun k hk _ => blk_alloc_lt _ _ _ hk.2)
  rintro e w2 ⟨h2, t, om⟩
  obtain ⟨z1, HZ1, hz1a, hz1b, rfl⟩ : ∃ z : Int, Hid (z = k + (cntE d1 : Nat)) ∧ 0 ≤ z ∧ z + (0 + (cntR d2 : Nat) + (cntR d3 : Nat)) ≤ 9223372036854775807 ∧ e = .returned (.int .i64 z) := ⟨_, Lib.hid rfl, by omega, by omega, h2⟩
  have hp0 : w2.cell? ⟨w.heap.size, 0, none⟩ = some (.int .i64 d0) := by have := t.cellAt (p := ⟨w.heap.size, 0, none⟩) (by simp) (fun h => by have := h.2; simp at this); simpa [go_sem] using this
  have hp1 : w2.cell? ⟨w.heap.size, 1, none⟩ = some (.slice A1 d1.length cp1) := by have := t.cellAt (p := ⟨w.heap.size, 1, none⟩) (by simp) (fun h => by have := h.2; simp at this); simpa [go_sem] using this
  have hp2 : w2.cell? ⟨w.heap.size, 2, none⟩ = some (.slice A2 d2.length cp2) := by have := t.cellAt (p := ⟨w.heap.size, 2, none⟩) (by simp) (fun h => by have := h.2; simp at this); simpa [go_sem] using this
  have hp3 : w2.cell? ⟨w.heap.size, 3, none⟩ = some (.slice A3 d3.length cp3) := by have := t.cellAt (p := ⟨w.heap.size, 3, none⟩) (by simp) (fun h => by have := h.2; simp at this); simpa [go_sem] using this
  have hlp : w.heap.size < w2.heap.size := by have := t.size; simp at this; omega
  replace HTT := Lib.hid ((HTT.out.alloc _).trans (t.mono (fun k _ h => Or.inl h.1)))
  replace HOm1 := Lib.hid om
  replace HOm2 := Lib.hid ((HOm2.out.blocks (fun k hk _ => blk_alloc_lt _ _ _ hk.2)).blocks (w' := w2) (fun q hq hql => t.block q hql (fun hx => HDm1_2.out q hx hq)))
  replace HOm3 := Lib.hid ((HOm3.out.blocks (fun k hk _ => blk_alloc_lt _ _ _ hk.2)).blocks (w' := w2) (fun q hq hql => t.block q hql (fun hx => HDm1_3.out q hx hq)))
  clear t om h2
  go_wp2_with fail
  refine (markedR_any _ (fun b => S2 b ∧ b < w.heap.size) _ d2 z1 ?_ (by omega) (by omega)).mono ?_
  · exact HOm2.out.blocks (fun k hk _ => rfl)
  rintro e w3 ⟨h2, t, om⟩
  obtain ⟨z2, HZ2, hz2a, hz2b, rfl⟩ : ∃ z : Int, Hid (z = z1 + (cntR d2 : Nat)) ∧ 0 ≤ z ∧ z + (0 + (cntR d3 : Nat)) ≤ 9223372036854775807 ∧ e = .returned (.int .i64 z) := ⟨_, Lib.hid rfl, by omega, by omega, h2⟩
  replace hp0 := (t.cellAt (p := ⟨w.heap.size, 0, none⟩) hlp (fun h => by have := h.2; simp at this)).trans hp0
  replace hp1 := (t.cellAt (p := ⟨w.heap.size, 1, none⟩) hlp (fun h => by have := h.2; simp at this)).trans hp1
  replace hp2 := (t.cellAt (p := ⟨w.heap.size, 2, none⟩) hlp (fun h => by have := h.2; simp at this)).trans hp2
  replace hp3 := (t.cellAt (p := ⟨w.heap.size, 3, none⟩) hlp (fun h => by have := h.2; simp at this)).trans hp3
  replace hlp : w.heap.size < w3.heap.size := Nat.lt_of_lt_of_le hlp t.size
  replace HTT := Lib.hid ((HTT.out).trans (t.mono (fun k _ h => (Or.inr (Or.inl h.1)))))
  replace HOm1 := Lib.hid (HOm1.out.blocks (w' := w3) (fun q hq hql => t.block q hql (fun hx => HDm1_2.out q hq hx)))
  replace HOm2 := Lib.hid om
  replace HOm3 := Lib.hid (HOm3.out.blocks (w' := w3) (fun q hq hql => t.block q hql (fun hx => HDm2_3.out q hx hq)))
  clear t om h2
  go_wp2_with fail
  refine (markedR_any _ (fun b => S3 b ∧ b < w.heap.size) _ d3 z2 ?_ (by omega) (by omega)).mono ?_
  · exact HOm3.out.blocks (fun k hk _ => rfl)
  rintro e w4 ⟨h2, t, om⟩
  obtain ⟨z3, HZ3, hz3a, hz3b, rfl⟩ : ∃ z : Int, Hid (z = z2 + (cntR d3 : Nat)) ∧ 0 ≤ z ∧ z + (0) ≤ 9223372036854775807 ∧ e = .returned (.int .i64 z) := ⟨_, Lib.hid rfl, by omega, by omega, h2⟩
  replace hp0 := (t.cellAt (p := ⟨w.heap.size, 0, none⟩) hlp (fun h => by have := h.2; simp at this)).trans hp0
  replace hp1 := (t.cellAt (p := ⟨w.heap.size, 1, none⟩) hlp (fun h => by have := h.2; simp at this)).trans hp1
  replace hp2 := (t.cellAt (p := ⟨w.heap.size, 2, none⟩) hlp (fun h => by have := h.2; simp at this)).trans hp2
  replace hp3 := (t.cellAt (p := ⟨w.heap.size, 3, none⟩) hlp (fun h => by have := h.2; simp at this)).trans hp3
  replace hlp : w.heap.size < w4.heap.size := Nat.lt_of_lt_of_le hlp t.size
  replace HTT := Lib.hid ((HTT.out).trans (t.mono (fun k _ h => (Or.inr (Or.inr (h.1))))))
  replace HOm1 := Lib.hid (HOm1.out.blocks (w' := w4) (fun q hq hql => t.block q hql (fun hx => HDm1_3.out q hq hx)))
  replace HOm2 := Lib.hid (HOm2.out.blocks (w' := w4) (fun q hq hql => t.block q hql (fun hx => HDm2_3.out q hq hx)))
  replace HOm3 := Lib.hid om
  clear t om h2
  go_wp2
  go_ret
  have hsum : z3 = k + ((cntE d1 + cntR d2 + cntR d3 : Nat) : Int) := by have := HZ1.out; have := HZ2.out; have := HZ3.out; omega
  refine ⟨congrArg (fun z : Int => Ending.returned (Value.int IntKind.i64 z)) hsum, HTT.out, ?_, ?_, ?_⟩
  · exact HOm1.out.mono fun k h _ => h.1
  · have e2 : (k + ((cntE d1 : Nat) : Int)) = z1 := by have := HZ1.out; omega
    rw [e2]
    exact HOm2.out.mono fun k h _ => h.1
  · have e3 : (k + ((cntE d1 + cntR d2 : Nat) : Int)) = z2 := by have := HZ1.out; have := HZ2.out; omega
    rw [e3]
    exact HOm3.out.mono fun k h _ => h.1

set_option maxHeartbeats 800000 in
theorem heldGraph_ok (w : World) (B : Nat) (d0 : Int) (d1 : List Ed) (d2 : List Int) (d3 : List Int) (v1 : Value) (v2 : Value) (v3 : Value) (k : Int) (hv1 : LfE w B v1 (mkE k d1)) (hv2 : LfR w B v2 (mkR (k + ((cntE d1 : Nat) : Int)) d2)) (hv3 : LfR w B v3 (mkR (k + ((cntE d1 + cntR d2 : Nat) : Int)) d3)) (hB : B ≤ w.heap.size) (h0 : 0 ≤ k) (hl : k + ((cntE d1 + cntR d2 + cntR d3 : Nat) : Int) ≤ 9223372036854775807) :
    Calls Try.prog 14 #[.agg #[.int .i64 d0, v1, v2, v3], .int .i64 k] w (Found w k (cntE d1 + cntR d2 + cntR d3)) := by
  obtain ⟨A1, cp1, rfl⟩ := hv1.len
  rw [mkE_len] at *
  have HV1 := Lib.hid hv1
  clear hv1
  obtain ⟨A2, cp2, rfl⟩ := hv2.len
  rw [mkR_len] at *
  have HV2 := Lib.hid hv2
  clear hv2
  obtain ⟨A3, cp3, rfl⟩ := hv3.len
  rw [mkR_len] at *
  have HV3 := Lib.hid hv3
  clear hv3
  have HB := Lib.hid hB
  clear hB
  have HBN := Lib.hid (Below.refl w.heap.size w)
  go_enter Try.func14, Try.ntmps14
  go_wp2_with fail
  refine (heldE_any _ B _ d1 k ?_ (by omega) (by omega)).mono ?_
  · (exact (HV1.out.below HBN.out HB.out).below (B' := w.heap.size) (by repeat' (first | exact Below.refl _ _ | apply Below.drew | apply Below.setCell | apply Below.alloc | (simp; done) | omega | (simp; omega))) (Nat.le_trans HB.out HBN.out.size))
  rintro e w2 ⟨h2, b⟩
  have hstep : Below w.heap.size w w2 := Below.trans (by repeat' (first | exact Below.refl _ _ | apply Below.drew | apply Below.setCell | apply Below.alloc | (simp; done) | omega | (simp; omega))) (b.mono (by (first | exact Nat.le_refl _ | (simp; done) | (simp; omega))))
  replace HBN := Lib.hid (HBN.out.trans (hstep.mono HBN.out.size))
  have hzw2 : w.heap.size ≤ w2.heap.size := hstep.size
  have hp0 : w2.cell? ⟨w.heap.size, 0, none⟩ = some (.int .i64 d0) := by have := b.cell (p := ⟨w.heap.size, 0, none⟩) (by first | (simp; done) | (simp; omega)); simpa [go_sem] using this
  have hp1 : w2.cell? ⟨w.heap.size, 1, none⟩ = some (.slice A1 d1.length cp1) := by have := b.cell (p := ⟨w.heap.size, 1, none⟩) (by first | (simp; done) | (simp; omega)); simpa [go_sem] using this
  have hp2 : w2.cell? ⟨w.heap.size, 2, none⟩ = some (.slice A2 d2.length cp2) := by have := b.cell (p := ⟨w.heap.size, 2, none⟩) (by first | (simp; done) | (simp; omega)); simpa [go_sem] using this
  have hp3 : w2.cell? ⟨w.heap.size, 3, none⟩ = some (.slice A3 d3.length cp3) := by have := b.cell (p := ⟨w.heap.size, 3, none⟩) (by first | (simp; done) | (simp; omega)); simpa [go_sem] using this
  have hlhp : w.heap.size < w2.heap.size := by have := b.size; simp at this; omega
  have hlhpq := hlhp
  clear b hstep 
  obtain ⟨z1, HZ1, hz1a, hz1b, rfl⟩ : ∃ z : Int, Hid (z = k + (cntE d1 : Nat)) ∧ 0 ≤ z ∧ z + (0 + (cntR d2 : Nat) + (cntR d3 : Nat)) ≤ 9223372036854775807 ∧ e = .returned (.int .i64 z) := ⟨_, Lib.hid rfl, by omega, by omega, h2⟩
  clear h2
  have HE2 := Lib.hid (show (k + ((cntE d1 : Nat) : Int)) = z1 by have := HZ1.out; omega)
  go_wp2_with fail
  refine (heldR_any _ B _ d2 z1 ?_ (by omega) (by omega)).mono ?_
  · (rw [← HE2.out]; exact (HV2.out.below HBN.out HB.out).below (B' := w2.heap.size) (by repeat' (first | exact Below.refl _ _ | apply Below.drew | apply Below.setCell | apply Below.alloc | (simp; done) | omega | (simp; omega))) (Nat.le_trans HB.out HBN.out.size))
  rintro e w3 ⟨h2, b⟩
  have hstep : Below w2.heap.size w2 w3 := Below.trans (by repeat' (first | exact Below.refl _ _ | apply Below.drew | apply Below.setCell | apply Below.alloc | (simp; done) | omega | (simp; omega))) (b.mono (by (first | exact Nat.le_refl _ | (simp; done) | (simp; omega))))
  replace hp0 := (hstep.cell (p := ⟨w.heap.size, 0, none⟩) hlhp).trans hp0
  replace hp1 := (hstep.cell (p := ⟨w.heap.size, 1, none⟩) hlhp).trans hp1
  replace hp2 := (hstep.cell (p := ⟨w.heap.size, 2, none⟩) hlhp).trans hp2
  replace hp3 := (hstep.cell (p := ⟨w.heap.size, 3, none⟩) hlhp).trans hp3
  replace hlhp : w.heap.size < w3.heap.size := Nat.lt_of_lt_of_le hlhp hstep.size
  replace HBN := Lib.hid (HBN.out.trans (hstep.mono HBN.out.size))
  have hzw3 : w2.heap.size ≤ w3.heap.size := hstep.size
  clear b hstep 
  obtain ⟨z2, HZ2, hz2a, hz2b, rfl⟩ : ∃ z : Int, Hid (z = z1 + (cntR d2 : Nat)) ∧ 0 ≤ z ∧ z + (0 + (cntR d3 : Nat)) ≤ 9223372036854775807 ∧ e = .returned (.int .i64 z) := ⟨_, Lib.hid rfl, by omega, by omega, h2⟩
  clear h2
  have HE3 := Lib.hid (show (k + ((cntE d1 + cntR d2 : Nat) : Int)) = z2 by have := HZ1.out; have := HZ2.out; omega)
  go_wp2_with fail
  refine (heldR_any _ B _ d3 z2 ?_ (by omega) (by omega)).mono ?_
  · (rw [← HE3.out]; exact (HV3.out.below HBN.out HB.out).below (B' := w3.heap.size) (by repeat' (first | exact Below.refl _ _ | apply Below.drew | apply Below.setCell | apply Below.alloc | (simp; done) | omega | (simp; omega))) (Nat.le_trans HB.out HBN.out.size))
  rintro e w4 ⟨h2, b⟩
  have hstep : Below w3.heap.size w3 w4 := Below.trans (by repeat' (first | exact Below.refl _ _ | apply Below.drew | apply Below.setCell | apply Below.alloc | (simp; done) | omega | (simp; omega))) (b.mono (by (first | exact Nat.le_refl _ | (simp; done) | (simp; omega))))
  replace hp0 := (hstep.cell (p := ⟨w.heap.size, 0, none⟩) hlhp).trans hp0
  replace hp1 := (hstep.cell (p := ⟨w.heap.size, 1, none⟩) hlhp).trans hp1
  replace hp2 := (hstep.cell (p := ⟨w.heap.size, 2, none⟩) hlhp).trans hp2
  replace hp3 := (hstep.cell (p := ⟨w.heap.size, 3, none⟩) hlhp).trans hp3
  replace hlhp : w.heap.size < w4.heap.size := Nat.lt_of_lt_of_le hlhp hstep.size
  replace HBN := Lib.hid (HBN.out.trans (hstep.mono HBN.out.size))
  have hzw4 : w3.heap.size ≤ w4.heap.size := hstep.size
  clear b hstep 
  obtain ⟨z3, HZ3, hz3a, hz3b, rfl⟩ : ∃ z : Int, Hid (z = z2 + (cntR d3 : Nat)) ∧ 0 ≤ z ∧ z + (0) ≤ 9223372036854775807 ∧ e = .returned (.int .i64 z) := ⟨_, Lib.hid rfl, by omega, by omega, h2⟩
  clear h2
  go_wp2
  go_ret
  have hsum : z3 = k + ((cntE d1 + cntR d2 + cntR d3 : Nat) : Int) := by have := HZ1.out; have := HZ2.out; have := HZ3.out; omega
  exact ⟨congrArg (fun z : Int => Ending.returned (Value.int IntKind.i64 z)) hsum, HBN.out⟩

def MkGraph' (w0 w : World) (d0 : Int) (d1 : List Ed) (d2 : List Int) (d3 : List Int) (e : Ending) (w' : World) : Prop := ∃ (v1 : Value) (v2 : Value) (v3 : Value), e = .returned (.agg #[.int .i64 d0, v1, v2, v3]) ∧ Hid (Below w.heap.size w w') ∧ Hid (Below w0.heap.size w0 w') ∧ Hid (LfE w' w'.heap.size v1 d1) ∧ Hid (LfR w' w'.heap.size v2 d2) ∧ Hid (LfR w' w'.heap.size v3 d3)
theorem toGraph_fr (w0 w : World) (H : Hid (Below w0.heap.size w0 w)) (d0 : Int) (d1 : List Ed) (d2 : List Int) (d3 : List Int) (v1 : Value) (v2 : Value) (v3 : Value) (hv1 : LfE w0 w0.heap.size v1 d1) (hv2 : LfR w0 w0.heap.size v2 d2) (hv3 : LfR w0 w0.heap.size v3 d3) (hl1 : szE d1 ≤ 1048576) (hl2 : szR d2 ≤ 1048576) (hl3 : szR d3 ≤ 1048576) :
    Calls Try.prog 10 #[.agg #[.int .i64 d0, v1, v2, v3]] w (MkGraph' w0 w d0 d1 d2 d3) :=
  (toGraph_ok w w0.heap.size d0 d1 d2 d3 v1 v2 v3 (hv1.below H.out (Nat.le_refl _)) (hv2.below H.out (Nat.le_refl _)) (hv3.below H.out (Nat.le_refl _)) H.out.size hl1 hl2 hl3).mono fun _ _ h => by
    obtain ⟨x1, x2, x3, S1, S2, S3, he, hb, l1, l2, l3, dd1_2, dd1_3, dd2_3, o1, o2, o3⟩ := h
    exact ⟨x1, x2, x3, he, Lib.hid hb, Lib.hid (H.out.trans (hb.mono H.out.size)), Lib.hid o1.rd, Lib.hid o2.rd, Lib.hid o3.rd⟩
theorem eqGraph_fr (w0 w : World) (H : Hid (Below w0.heap.size w0 w)) (d0 : Int) (d1 : List Ed) (d2 : List Int) (d3 : List Int) (v1 : Value) (v2 : Value) (v3 : Value) (u1 : Value) (u2 : Value) (u3 : Value) (hv1 : LfE w0 w0.heap.size v1 d1) (hv2 : LfR w0 w0.heap.size v2 d2) (hv3 : LfR w0 w0.heap.size v3 d3) (hu1 : Hid (LfE w w.heap.size u1 d1)) (hu2 : Hid (LfR w w.heap.size u2 d2)) (hu3 : Hid (LfR w w.heap.size u3 d3)) :
    Calls Try.prog 12 #[.agg #[.int .i64 d0, v1, v2, v3], .agg #[.int .i64 d0, u1, u2, u3]] w (EqM' w0) :=
  (eqGraph_ok w w.heap.size d0 d1 d2 d3 v1 v2 v3 u1 u2 u3 ((hv1.below H.out (Nat.le_refl _)).mono H.out.size) ((hv2.below H.out (Nat.le_refl _)).mono H.out.size) ((hv3.below H.out (Nat.le_refl _)).mono H.out.size) hu1.out hu2.out hu3.out (Nat.le_refl _)).mono fun _ _ ⟨he, hb⟩ => ⟨he, Lib.hid (H.out.trans (hb.mono H.out.size))⟩
end Go.Proofs.Ytdcgoeapgboclaa
