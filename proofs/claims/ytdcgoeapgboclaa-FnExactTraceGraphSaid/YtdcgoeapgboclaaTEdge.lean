/- What the laws' helpers do with the struct Edge. -/
import Derived.Test.YtdcgoeapgboclaaLeaf
namespace Go.Proofs.Ytdcgoeapgboclaa
set_option maxRecDepth 100000
open Go Go.RowKit Go.Deep

def MkEdge (w : World) (d0 : Int) (d1 : Int) (d2 : List Int) (d3 : List Int) (e : Ending) (w' : World) : Prop := ∃ (vd2 : Value) (vd3 : Value) (Sd2 : Nat → Prop) (Sd3 : Nat → Prop), e = .returned (.agg #[.int .i64 d0, .int .i64 d1, vd2, vd3]) ∧ Below w.heap.size w w' ∧ (∀ k, Sd2 k → w.heap.size ≤ k) ∧ (∀ k, Sd3 k → w.heap.size ≤ k) ∧ (∀ k, Sd2 k → Sd3 k → False) ∧ OwnR w' Sd2 vd2 d2 ∧ OwnR w' Sd3 vd3 d3

set_option maxHeartbeats 800000 in
theorem szEdge_ok (w : World) (B : Nat) (d0 : Int) (d1 : Int) (d2 : List Int) (d3 : List Int) (v2 : Value) (v3 : Value) (left : Int) (hv2 : LfR w B v2 d2) (hv3 : LfR w B v3 d3) (hB : B ≤ w.heap.size) (h0 : 0 ≤ left) (h1 : left ≤ 1000000000) :
    Calls Try.prog 53 #[.agg #[.int .i64 d0, .int .i64 d1, v2, v3], .int .i64 left] w (SzB left (szR d2 + szR d3) w) := by
  obtain ⟨A2, cp2, rfl⟩ := hv2.len
  have HV2 := Lib.hid hv2
  clear hv2
  obtain ⟨A3, cp3, rfl⟩ := hv3.len
  have HV3 := Lib.hid hv3
  clear hv3
  have HB := Lib.hid hB
  clear hB
  have HBN := Lib.hid (Below.refl w.heap.size w)
  go_enter Try.func53, Try.ntmps53
  go_wp2_with fail
  refine (szR_any _ B _ d2 left ?_ (by omega) (by omega)).mono ?_
  · exact (HV2.out.below HBN.out HB.out).below (B' := w.heap.size) (by repeat' (first | exact Below.refl _ _ | apply Below.drew | apply Below.setCell | apply Below.alloc | (simp; done) | omega | (simp; omega))) (Nat.le_trans HB.out HBN.out.size)
  rintro e w2 ⟨b, h2⟩
  have hstep : Below w.heap.size w w2 := Below.trans (by repeat' (first | exact Below.refl _ _ | apply Below.drew | apply Below.setCell | apply Below.alloc | (simp; done) | omega | (simp; omega))) (b.mono (by (first | exact Nat.le_refl _ | (simp; done) | (simp; omega))))
  replace HBN := Lib.hid (HBN.out.trans (hstep.mono HBN.out.size))
  have hzw2 : w.heap.size ≤ w2.heap.size := hstep.size
  have hp0 : w2.cell? ⟨w.heap.size, 0, none⟩ = some (.int .i64 d0) := by have := b.cell (p := ⟨w.heap.size, 0, none⟩) (by first | (simp; done) | (simp; omega)); simpa [go_sem] using this
  have hp1 : w2.cell? ⟨w.heap.size, 1, none⟩ = some (.int .i64 d1) := by have := b.cell (p := ⟨w.heap.size, 1, none⟩) (by first | (simp; done) | (simp; omega)); simpa [go_sem] using this
  have hp2 : w2.cell? ⟨w.heap.size, 2, none⟩ = some (.slice A2 d2.length cp2) := by have := b.cell (p := ⟨w.heap.size, 2, none⟩) (by first | (simp; done) | (simp; omega)); simpa [go_sem] using this
  have hp3 : w2.cell? ⟨w.heap.size, 3, none⟩ = some (.slice A3 d3.length cp3) := by have := b.cell (p := ⟨w.heap.size, 3, none⟩) (by first | (simp; done) | (simp; omega)); simpa [go_sem] using this
  have hlhp : w.heap.size < w2.heap.size := by have := b.size; simp at this; omega
  have hlhpq := hlhp
  clear b hstep 
  rcases h2 with rfl | ⟨hle2, h2⟩
  · go_wp2
    go_ret
    exact ⟨HBN.out, Or.inl rfl⟩
  obtain ⟨z2, HZ2, hz2a, hz2b, rfl⟩ : ∃ z : Int, Hid (z = left - (szR d2 : Nat)) ∧ 0 ≤ z ∧ z ≤ 1000000000 ∧ e = .returned (.int .i64 z) := ⟨_, Lib.hid rfl, by omega, by omega, h2⟩
  clear h2
  go_wp2_with fail
  refine (szR_any _ B _ d3 z2 ?_ (by omega) (by omega)).mono ?_
  · exact (HV3.out.below HBN.out HB.out).below (B' := w2.heap.size) (by repeat' (first | exact Below.refl _ _ | apply Below.drew | apply Below.setCell | apply Below.alloc | (simp; done) | omega | (simp; omega))) (Nat.le_trans HB.out HBN.out.size)
  rintro e w3 ⟨b, h2⟩
  have hstep : Below w2.heap.size w2 w3 := Below.trans (by repeat' (first | exact Below.refl _ _ | apply Below.drew | apply Below.setCell | apply Below.alloc | (simp; done) | omega | (simp; omega))) (b.mono (by (first | exact Nat.le_refl _ | (simp; done) | (simp; omega))))
  replace hp0 := (hstep.cell (p := ⟨w.heap.size, 0, none⟩) hlhp).trans hp0
  replace hp1 := (hstep.cell (p := ⟨w.heap.size, 1, none⟩) hlhp).trans hp1
  replace hp2 := (hstep.cell (p := ⟨w.heap.size, 2, none⟩) hlhp).trans hp2
  replace hp3 := (hstep.cell (p := ⟨w.heap.size, 3, none⟩) hlhp).trans hp3
  replace hlhp : w.heap.size < w3.heap.size := Nat.lt_of_lt_of_le hlhp hstep.size
  replace HBN := Lib.hid (HBN.out.trans (hstep.mono HBN.out.size))
  have hzw3 : w2.heap.size ≤ w3.heap.size := hstep.size
  clear b hstep 
  rcases h2 with rfl | ⟨hle3, h2⟩
  · go_wp2
    go_ret
    exact ⟨HBN.out, Or.inl rfl⟩
  obtain ⟨z3, HZ3, hz3a, hz3b, rfl⟩ : ∃ z : Int, Hid (z = z2 - (szR d3 : Nat)) ∧ 0 ≤ z ∧ z ≤ 1000000000 ∧ e = .returned (.int .i64 z) := ⟨_, Lib.hid rfl, by omega, by omega, h2⟩
  clear h2
  go_wp2
  go_ret
  have hsum : z3 = left - ((szR d2 + szR d3 : Nat) : Int) := by have := HZ2.out; have := HZ3.out; omega
  exact ⟨HBN.out, Or.inr ⟨by have := HZ2.out; have := HZ3.out; omega, congrArg (fun z : Int => Ending.returned (Value.int IntKind.i64 z)) hsum⟩⟩

set_option maxHeartbeats 800000 in
theorem toEdge_ok (w : World) (B : Nat) (d0 : Int) (d1 : Int) (d2 : List Int) (d3 : List Int) (v2 : Value) (v3 : Value) (hv2 : LfR w B v2 d2) (hv3 : LfR w B v3 d3) (hB : B ≤ w.heap.size) (hl2 : szR d2 ≤ 1048576) (hl3 : szR d3 ≤ 1048576) :
    Calls Try.prog 60 #[.agg #[.int .i64 d0, .int .i64 d1, v2, v3]] w (MkEdge w d0 d1 d2 d3) := by
  obtain ⟨A2, cp2, rfl⟩ := hv2.len
  have HV2 := Lib.hid hv2
  clear hv2
  obtain ⟨A3, cp3, rfl⟩ := hv3.len
  have HV3 := Lib.hid hv3
  clear hv3
  have HB := Lib.hid hB
  clear hB
  have HBN := Lib.hid (Below.refl w.heap.size w)
  go_enter Try.func60, Try.ntmps60
  go_wp2_with fail
  refine (toR_any _ B _ d2 ?_ ?_ hl2).mono ?_
  · exact (HV2.out.below HBN.out HB.out).below (B' := w.heap.size) (by repeat' (first | exact Below.refl _ _ | apply Below.drew | apply Below.setCell | apply Below.alloc | (simp; done) | omega | (simp; omega))) (Nat.le_trans HB.out HBN.out.size)
  · (have := HB.out; have := HBN.out.size; simp; omega)
  rintro e w2 ⟨vm2, rfl, b, om2⟩
  obtain ⟨Am2, cm2, rfl⟩ := om2.len
  have hstep : Below w.heap.size w w2 := Below.trans (by repeat' (first | exact Below.refl _ _ | apply Below.drew | apply Below.setCell | apply Below.alloc | (simp; done) | omega | (simp; omega))) (b.mono (by (first | exact Nat.le_refl _ | (simp; done) | (simp; omega))))
  replace HBN := Lib.hid (HBN.out.trans (hstep.mono HBN.out.size))
  have hzw2 : w.heap.size ≤ w2.heap.size := hstep.size
  have hp0 : w2.cell? ⟨w.heap.size, 0, none⟩ = some (.int .i64 d0) := by have := b.cell (p := ⟨w.heap.size, 0, none⟩) (by first | (simp; done) | (simp; omega)); simpa [go_sem] using this
  have hp1 : w2.cell? ⟨w.heap.size, 1, none⟩ = some (.int .i64 d1) := by have := b.cell (p := ⟨w.heap.size, 1, none⟩) (by first | (simp; done) | (simp; omega)); simpa [go_sem] using this
  have hp2 : w2.cell? ⟨w.heap.size, 2, none⟩ = some (.slice A2 d2.length cp2) := by have := b.cell (p := ⟨w.heap.size, 2, none⟩) (by first | (simp; done) | (simp; omega)); simpa [go_sem] using this
  have hp3 : w2.cell? ⟨w.heap.size, 3, none⟩ = some (.slice A3 d3.length cp3) := by have := b.cell (p := ⟨w.heap.size, 3, none⟩) (by first | (simp; done) | (simp; omega)); simpa [go_sem] using this
  have hlhp : w.heap.size < w2.heap.size := by have := b.size; simp at this; omega
  have hlhpq := hlhp
  have hr0 : w2.cell? ⟨w.heap.size + 1, 0, none⟩ = some (.int .i64 0) := by have := b.cell (p := ⟨w.heap.size + 1, 0, none⟩) (by first | (simp; done) | (simp; omega)); simpa [go_sem] using this
  have hr1 : w2.cell? ⟨w.heap.size + 1, 1, none⟩ = some (.int .i64 0) := by have := b.cell (p := ⟨w.heap.size + 1, 1, none⟩) (by first | (simp; done) | (simp; omega)); simpa [go_sem] using this
  have hr2 : w2.cell? ⟨w.heap.size + 1, 2, none⟩ = some (.slice none 0 0) := by have := b.cell (p := ⟨w.heap.size + 1, 2, none⟩) (by first | (simp; done) | (simp; omega)); simpa [go_sem] using this
  have hr3 : w2.cell? ⟨w.heap.size + 1, 3, none⟩ = some (.slice none 0 0) := by have := b.cell (p := ⟨w.heap.size + 1, 3, none⟩) (by first | (simp; done) | (simp; omega)); simpa [go_sem] using this
  have hlhr : w.heap.size + 1 < w2.heap.size := by have := b.size; simp at this; omega
  have hlhrq := hlhr
  have ho0 : w2.cell? ⟨w.heap.size + 1 + 1, 0, none⟩ = some (.int .i64 d0) := by have := b.cell (p := ⟨w.heap.size + 1 + 1, 0, none⟩) (by first | (simp; done) | (simp; omega)); simpa [go_sem] using this
  have ho1 : w2.cell? ⟨w.heap.size + 1 + 1, 1, none⟩ = some (.int .i64 d1) := by have := b.cell (p := ⟨w.heap.size + 1 + 1, 1, none⟩) (by first | (simp; done) | (simp; omega)); simpa [go_sem] using this
  have ho2 : w2.cell? ⟨w.heap.size + 1 + 1, 2, none⟩ = some (.slice none 0 0) := by have := b.cell (p := ⟨w.heap.size + 1 + 1, 2, none⟩) (by first | (simp; done) | (simp; omega)); simpa [go_sem] using this
  have ho3 : w2.cell? ⟨w.heap.size + 1 + 1, 3, none⟩ = some (.slice none 0 0) := by have := b.cell (p := ⟨w.heap.size + 1 + 1, 3, none⟩) (by first | (simp; done) | (simp; omega)); simpa [go_sem] using this
  have hlho : w.heap.size + 1 + 1 < w2.heap.size := by have := b.size; simp at this; omega
  have hlhoq := hlho
  have hpf : ∀ o, w2.frozen? ⟨w.heap.size, o, none⟩ = false := fun o => by have := b.frozen (p := ⟨w.heap.size, o, none⟩) (by first | (simp; done) | (simp; omega)); simpa [go_sem] using this
  have hrf : ∀ o, w2.frozen? ⟨w.heap.size + 1, o, none⟩ = false := fun o => by have := b.frozen (p := ⟨w.heap.size + 1, o, none⟩) (by first | (simp; done) | (simp; omega)); simpa [go_sem] using this
  have hof : ∀ o, w2.frozen? ⟨w.heap.size + 1 + 1, o, none⟩ = false := fun o => by have := b.frozen (p := ⟨w.heap.size + 1 + 1, o, none⟩) (by first | (simp; done) | (simp; omega)); simpa [go_sem] using this
  obtain ⟨SHOm2, HSHOm2, HOm2⟩ : ∃ S : Nat → Prop, Hid (∀ k, S k → w.heap.size + 3 ≤ k ∧ k < w2.heap.size) ∧ Hid (OwnR w2 S (.slice Am2 d2.length cm2) d2) := ⟨fun k => w.heap.size + 3 ≤ k ∧ k < w2.heap.size, Lib.hid (fun k hk => hk), Lib.hid (om2.mono (fun k hk hk2 => ⟨by have hk3 := hk; (try simp at hk3); omega, hk2⟩))⟩
  clear b hstep om2
  go_wp2_with fail
  obtain ⟨wm3, HWM⟩ : ∃ x, x = w2.setCell ⟨w.heap.size + 1 + 1, 2, none⟩ (.slice Am2 d2.length cm2) := ⟨_, rfl⟩
  rw [← HWM]
  have hzm : wm3.heap.size = w2.heap.size := by rw [HWM]; simp
  replace hp0 := (World.cell?_of_block (w := w2) (w' := wm3) (by rw [HWM]; exact blk_setCell_other _ _ _ _ (by first | (simp; done) | (simp; omega)))).trans hp0
  replace hp1 := (World.cell?_of_block (w := w2) (w' := wm3) (by rw [HWM]; exact blk_setCell_other _ _ _ _ (by first | (simp; done) | (simp; omega)))).trans hp1
  replace hp2 := (World.cell?_of_block (w := w2) (w' := wm3) (by rw [HWM]; exact blk_setCell_other _ _ _ _ (by first | (simp; done) | (simp; omega)))).trans hp2
  replace hp3 := (World.cell?_of_block (w := w2) (w' := wm3) (by rw [HWM]; exact blk_setCell_other _ _ _ _ (by first | (simp; done) | (simp; omega)))).trans hp3
  replace hr0 := (World.cell?_of_block (w := w2) (w' := wm3) (by rw [HWM]; exact blk_setCell_other _ _ _ _ (by first | (simp; done) | (simp; omega)))).trans hr0
  replace hr1 := (World.cell?_of_block (w := w2) (w' := wm3) (by rw [HWM]; exact blk_setCell_other _ _ _ _ (by first | (simp; done) | (simp; omega)))).trans hr1
  replace hr2 := (World.cell?_of_block (w := w2) (w' := wm3) (by rw [HWM]; exact blk_setCell_other _ _ _ _ (by first | (simp; done) | (simp; omega)))).trans hr2
  replace hr3 := (World.cell?_of_block (w := w2) (w' := wm3) (by rw [HWM]; exact blk_setCell_other _ _ _ _ (by first | (simp; done) | (simp; omega)))).trans hr3
  have ho0n : wm3.cell? ⟨w.heap.size + 1 + 1, 0, none⟩ = some (.int .i64 d0) := by rw [HWM]; simp [go_sem, ho0]
  have ho1n : wm3.cell? ⟨w.heap.size + 1 + 1, 1, none⟩ = some (.int .i64 d1) := by rw [HWM]; simp [go_sem, ho1]
  have ho2n : wm3.cell? ⟨w.heap.size + 1 + 1, 2, none⟩ = some (.slice Am2 d2.length cm2) := by rw [HWM]; simp [go_sem, ho2]
  have ho3n : wm3.cell? ⟨w.heap.size + 1 + 1, 3, none⟩ = some (.slice none 0 0) := by rw [HWM]; simp [go_sem, ho3]
  replace ho0 := ho0n
  clear ho0n
  replace ho1 := ho1n
  clear ho1n
  replace ho2 := ho2n
  clear ho2n
  replace ho3 := ho3n
  clear ho3n
  replace hpf : ∀ o, wm3.frozen? ⟨w.heap.size, o, none⟩ = false := fun o => by rw [HWM]; simp [go_sem, hpf]
  replace hlhp : w.heap.size < wm3.heap.size := by rw [hzm]; exact hlhp
  replace hrf : ∀ o, wm3.frozen? ⟨w.heap.size + 1, o, none⟩ = false := fun o => by rw [HWM]; simp [go_sem, hrf]
  replace hlhr : w.heap.size + 1 < wm3.heap.size := by rw [hzm]; exact hlhr
  replace hof : ∀ o, wm3.frozen? ⟨w.heap.size + 1 + 1, o, none⟩ = false := fun o => by rw [HWM]; simp [go_sem, hof]
  replace hlho : w.heap.size + 1 + 1 < wm3.heap.size := by rw [hzm]; exact hlho
  replace HOm2 := Lib.hid (HOm2.out.blocks (w' := wm3) (fun k hk hkl => by have hk2 := HSHOm2.out k hk; rw [HWM]; exact blk_setCell_other _ _ _ _ (by simp; omega)))
  replace HBN : Hid (Below w.heap.size w wm3) := Lib.hid (by rw [HWM]; refine Below.trans HBN.out ?_; have hsz := HBN.out.size; repeat' (first | exact Below.refl _ _ | apply Below.drew | apply Below.setCell | apply Below.alloc | (simp; done) | omega | (simp; omega)))
  clear HWM
  refine (toR_any _ B _ d3 ?_ ?_ hl3).mono ?_
  · exact (HV3.out.below HBN.out HB.out).below (B' := wm3.heap.size) (by repeat' (first | exact Below.refl _ _ | apply Below.drew | apply Below.setCell | apply Below.alloc | (simp; done) | omega | (simp; omega))) (Nat.le_trans HB.out HBN.out.size)
  · (have := HB.out; have := HBN.out.size; omega)
  rintro e w3 ⟨vm3, rfl, b, om3⟩
  obtain ⟨Am3, cm3, rfl⟩ := om3.len
  have hstep : Below wm3.heap.size wm3 w3 := Below.trans (by repeat' (first | exact Below.refl _ _ | apply Below.drew | apply Below.setCell | apply Below.alloc | (simp; done) | omega | (simp; omega))) (b.mono (by (first | exact Nat.le_refl _ | (simp; done) | (simp; omega))))
  replace hp0 := (hstep.cell (p := ⟨w.heap.size, 0, none⟩) hlhp).trans hp0
  replace hp1 := (hstep.cell (p := ⟨w.heap.size, 1, none⟩) hlhp).trans hp1
  replace hp2 := (hstep.cell (p := ⟨w.heap.size, 2, none⟩) hlhp).trans hp2
  replace hp3 := (hstep.cell (p := ⟨w.heap.size, 3, none⟩) hlhp).trans hp3
  replace hlhp : w.heap.size < w3.heap.size := Nat.lt_of_lt_of_le hlhp hstep.size
  replace hr0 := (hstep.cell (p := ⟨w.heap.size + 1, 0, none⟩) hlhr).trans hr0
  replace hr1 := (hstep.cell (p := ⟨w.heap.size + 1, 1, none⟩) hlhr).trans hr1
  replace hr2 := (hstep.cell (p := ⟨w.heap.size + 1, 2, none⟩) hlhr).trans hr2
  replace hr3 := (hstep.cell (p := ⟨w.heap.size + 1, 3, none⟩) hlhr).trans hr3
  replace hlhr : w.heap.size + 1 < w3.heap.size := Nat.lt_of_lt_of_le hlhr hstep.size
  replace ho0 := (hstep.cell (p := ⟨w.heap.size + 1 + 1, 0, none⟩) hlho).trans ho0
  replace ho1 := (hstep.cell (p := ⟨w.heap.size + 1 + 1, 1, none⟩) hlho).trans ho1
  replace ho2 := (hstep.cell (p := ⟨w.heap.size + 1 + 1, 2, none⟩) hlho).trans ho2
  replace ho3 := (hstep.cell (p := ⟨w.heap.size + 1 + 1, 3, none⟩) hlho).trans ho3
  replace hlho : w.heap.size + 1 + 1 < w3.heap.size := Nat.lt_of_lt_of_le hlho hstep.size
  replace HOm2 := Lib.hid (HOm2.out.below hstep (fun _ _ hq => hq))
  replace HBN := Lib.hid (HBN.out.trans (hstep.mono HBN.out.size))
  have hzw3 : wm3.heap.size ≤ w3.heap.size := hstep.size
  replace hpf : ∀ o, w3.frozen? ⟨w.heap.size, o, none⟩ = false := fun o => by have := b.frozen (p := ⟨w.heap.size, o, none⟩) (by first | (simp; done) | (simp; omega)); simpa [go_sem, hpf] using this
  replace hrf : ∀ o, w3.frozen? ⟨w.heap.size + 1, o, none⟩ = false := fun o => by have := b.frozen (p := ⟨w.heap.size + 1, o, none⟩) (by first | (simp; done) | (simp; omega)); simpa [go_sem, hrf] using this
  replace hof : ∀ o, w3.frozen? ⟨w.heap.size + 1 + 1, o, none⟩ = false := fun o => by have := b.frozen (p := ⟨w.heap.size + 1 + 1, o, none⟩) (by first | (simp; done) | (simp; omega)); simpa [go_sem, hof] using this
  obtain ⟨SHOm3, HSHOm3, HOm3⟩ : ∃ S : Nat → Prop, Hid (∀ k, S k → wm3.heap.size ≤ k ∧ k < w3.heap.size) ∧ Hid (OwnR w3 S (.slice Am3 d3.length cm3) d3) := ⟨fun k => wm3.heap.size ≤ k ∧ k < w3.heap.size, Lib.hid (fun k hk => hk), Lib.hid (om3.mono (fun k hk hk2 => ⟨by have hk3 := hk; (try simp at hk3); omega, hk2⟩))⟩
  clear b hstep om3
  go_wp2
  refine bodyPost_ret (v := .agg #[.int .i64 d0, .int .i64 d1, .slice Am2 d2.length cm2, .slice Am3 d3.length cm3]) (by simp [results, Try.results60, go_sem, hr0, hr1, hr2, hr3]) rfl ?_
  refine ⟨_, _, SHOm2, SHOm3, rfl, (by refine Below.trans HBN.out ?_; have hsz := HBN.out.size; repeat' (first | exact Below.refl _ _ | apply Below.drew | apply Below.setCell | apply Below.alloc | (simp; done) | omega | (simp; omega))), fun k hk => by have := HSHOm2.out k hk; omega, fun k hk => by have := HSHOm3.out k hk; omega, fun k h1 h2 => by have := HSHOm2.out k h1; have := HSHOm3.out k h2; omega, ?_, ?_⟩
  · refine HOm2.out.blocks (fun k hk hkl => ?_)
    have hk2 := HSHOm2.out k hk
    repeat (first | rw [blk_setCell_other _ _ _ _ (by simp; omega)] | rfl)
  · refine HOm3.out.blocks (fun k hk hkl => ?_)
    have hk2 := HSHOm3.out k hk
    repeat (first | rw [blk_setCell_other _ _ _ _ (by simp; omega)] | rfl)

set_option maxHeartbeats 800000 in
theorem eqEdge_ok (w : World) (B : Nat) (d0 : Int) (d1 : Int) (d2 : List Int) (d3 : List Int) (v2 : Value) (v3 : Value) (u2 : Value) (u3 : Value) (hv2 : LfR w B v2 d2) (hv3 : LfR w B v3 d3) (hu2 : LfR w B u2 d2) (hu3 : LfR w B u3 d3) (hB : B ≤ w.heap.size) :
    Calls Try.prog 64 #[.agg #[.int .i64 d0, .int .i64 d1, v2, v3], .agg #[.int .i64 d0, .int .i64 d1, u2, u3]] w (SaysYes w) := by
  obtain ⟨A2, cp2, rfl⟩ := hv2.len
  have HV2 := Lib.hid hv2
  clear hv2
  obtain ⟨A3, cp3, rfl⟩ := hv3.len
  have HV3 := Lib.hid hv3
  clear hv3
  obtain ⟨A'2, cq2, rfl⟩ := hu2.len
  have HU2 := Lib.hid hu2
  clear hu2
  obtain ⟨A'3, cq3, rfl⟩ := hu3.len
  have HU3 := Lib.hid hu3
  clear hu3
  have HB := Lib.hid hB
  clear hB
  have HBN := Lib.hid (Below.refl w.heap.size w)
  have hq0 : (d0 != d0) = false := by simp
  have hq1 : (d1 != d1) = false := by simp
  go_enter Try.func64, Try.ntmps64
  go_wp2_with fail
  refine (eqR_any _ B _ _ d2 ?_ ?_).mono ?_
  · exact (HV2.out.below HBN.out HB.out).below (B' := w.heap.size) (by repeat' (first | exact Below.refl _ _ | apply Below.drew | apply Below.setCell | apply Below.alloc | (simp; done) | omega | (simp; omega))) (Nat.le_trans HB.out HBN.out.size)
  · exact (HU2.out.below HBN.out HB.out).below (B' := w.heap.size) (by repeat' (first | exact Below.refl _ _ | apply Below.drew | apply Below.setCell | apply Below.alloc | (simp; done) | omega | (simp; omega))) (Nat.le_trans HB.out HBN.out.size)
  rintro e w2 ⟨rfl, b⟩
  have hstep : Below w.heap.size w w2 := Below.trans (by repeat' (first | exact Below.refl _ _ | apply Below.drew | apply Below.setCell | apply Below.alloc | (simp; done) | omega | (simp; omega))) (b.mono (by (first | exact Nat.le_refl _ | (simp; done) | (simp; omega))))
  replace HBN := Lib.hid (HBN.out.trans (hstep.mono HBN.out.size))
  have hzw2 : w.heap.size ≤ w2.heap.size := hstep.size
  have hp0 : w2.cell? ⟨w.heap.size, 0, none⟩ = some (.int .i64 d0) := by have := b.cell (p := ⟨w.heap.size, 0, none⟩) (by first | (simp; done) | (simp; omega)); simpa [go_sem] using this
  have hp1 : w2.cell? ⟨w.heap.size, 1, none⟩ = some (.int .i64 d1) := by have := b.cell (p := ⟨w.heap.size, 1, none⟩) (by first | (simp; done) | (simp; omega)); simpa [go_sem] using this
  have hp2 : w2.cell? ⟨w.heap.size, 2, none⟩ = some (.slice A2 d2.length cp2) := by have := b.cell (p := ⟨w.heap.size, 2, none⟩) (by first | (simp; done) | (simp; omega)); simpa [go_sem] using this
  have hp3 : w2.cell? ⟨w.heap.size, 3, none⟩ = some (.slice A3 d3.length cp3) := by have := b.cell (p := ⟨w.heap.size, 3, none⟩) (by first | (simp; done) | (simp; omega)); simpa [go_sem] using this
  have hlhp : w.heap.size < w2.heap.size := by have := b.size; simp at this; omega
  have hlhpq := hlhp
  have hq'0 : w2.cell? ⟨w.heap.size + 1, 0, none⟩ = some (.int .i64 d0) := by have := b.cell (p := ⟨w.heap.size + 1, 0, none⟩) (by first | (simp; done) | (simp; omega)); simpa [go_sem] using this
  have hq'1 : w2.cell? ⟨w.heap.size + 1, 1, none⟩ = some (.int .i64 d1) := by have := b.cell (p := ⟨w.heap.size + 1, 1, none⟩) (by first | (simp; done) | (simp; omega)); simpa [go_sem] using this
  have hq'2 : w2.cell? ⟨w.heap.size + 1, 2, none⟩ = some (.slice A'2 d2.length cq2) := by have := b.cell (p := ⟨w.heap.size + 1, 2, none⟩) (by first | (simp; done) | (simp; omega)); simpa [go_sem] using this
  have hq'3 : w2.cell? ⟨w.heap.size + 1, 3, none⟩ = some (.slice A'3 d3.length cq3) := by have := b.cell (p := ⟨w.heap.size + 1, 3, none⟩) (by first | (simp; done) | (simp; omega)); simpa [go_sem] using this
  have hlhq' : w.heap.size + 1 < w2.heap.size := by have := b.size; simp at this; omega
  have hlhq'q := hlhq'
  clear b hstep 
  go_wp2_with fail
  refine (eqR_any _ B _ _ d3 ?_ ?_).mono ?_
  · exact (HV3.out.below HBN.out HB.out).below (B' := w2.heap.size) (by repeat' (first | exact Below.refl _ _ | apply Below.drew | apply Below.setCell | apply Below.alloc | (simp; done) | omega | (simp; omega))) (Nat.le_trans HB.out HBN.out.size)
  · exact (HU3.out.below HBN.out HB.out).below (B' := w2.heap.size) (by repeat' (first | exact Below.refl _ _ | apply Below.drew | apply Below.setCell | apply Below.alloc | (simp; done) | omega | (simp; omega))) (Nat.le_trans HB.out HBN.out.size)
  rintro e w3 ⟨rfl, b⟩
  have hstep : Below w2.heap.size w2 w3 := Below.trans (by repeat' (first | exact Below.refl _ _ | apply Below.drew | apply Below.setCell | apply Below.alloc | (simp; done) | omega | (simp; omega))) (b.mono (by (first | exact Nat.le_refl _ | (simp; done) | (simp; omega))))
  replace hp0 := (hstep.cell (p := ⟨w.heap.size, 0, none⟩) hlhp).trans hp0
  replace hp1 := (hstep.cell (p := ⟨w.heap.size, 1, none⟩) hlhp).trans hp1
  replace hp2 := (hstep.cell (p := ⟨w.heap.size, 2, none⟩) hlhp).trans hp2
  replace hp3 := (hstep.cell (p := ⟨w.heap.size, 3, none⟩) hlhp).trans hp3
  replace hlhp : w.heap.size < w3.heap.size := Nat.lt_of_lt_of_le hlhp hstep.size
  replace hq'0 := (hstep.cell (p := ⟨w.heap.size + 1, 0, none⟩) hlhq').trans hq'0
  replace hq'1 := (hstep.cell (p := ⟨w.heap.size + 1, 1, none⟩) hlhq').trans hq'1
  replace hq'2 := (hstep.cell (p := ⟨w.heap.size + 1, 2, none⟩) hlhq').trans hq'2
  replace hq'3 := (hstep.cell (p := ⟨w.heap.size + 1, 3, none⟩) hlhq').trans hq'3
  replace hlhq' : w.heap.size + 1 < w3.heap.size := Nat.lt_of_lt_of_le hlhq' hstep.size
  replace HBN := Lib.hid (HBN.out.trans (hstep.mono HBN.out.size))
  have hzw3 : w2.heap.size ≤ w3.heap.size := hstep.size
  clear b hstep 
  go_wp2
  go_ret
  exact ⟨rfl, HBN.out⟩

def MkEdge' (w0 w : World) (d0 : Int) (d1 : Int) (d2 : List Int) (d3 : List Int) (e : Ending) (w' : World) : Prop := ∃ (v2 : Value) (v3 : Value), e = .returned (.agg #[.int .i64 d0, .int .i64 d1, v2, v3]) ∧ Hid (Below w.heap.size w w') ∧ Hid (Below w0.heap.size w0 w') ∧ Hid (LfR w' w'.heap.size v2 d2) ∧ Hid (LfR w' w'.heap.size v3 d3)
theorem toEdge_fr (w0 w : World) (H : Hid (Below w0.heap.size w0 w)) (d0 : Int) (d1 : Int) (d2 : List Int) (d3 : List Int) (v2 : Value) (v3 : Value) (hv2 : LfR w0 w0.heap.size v2 d2) (hv3 : LfR w0 w0.heap.size v3 d3) (hl2 : szR d2 ≤ 1048576) (hl3 : szR d3 ≤ 1048576) :
    Calls Try.prog 60 #[.agg #[.int .i64 d0, .int .i64 d1, v2, v3]] w (MkEdge' w0 w d0 d1 d2 d3) :=
  (toEdge_ok w w0.heap.size d0 d1 d2 d3 v2 v3 (hv2.below H.out (Nat.le_refl _)) (hv3.below H.out (Nat.le_refl _)) H.out.size hl2 hl3).mono fun _ _ h => by
    obtain ⟨x2, x3, S2, S3, he, hb, l2, l3, dd2_3, o2, o3⟩ := h
    exact ⟨x2, x3, he, Lib.hid hb, Lib.hid (H.out.trans (hb.mono H.out.size)), Lib.hid o2.rd, Lib.hid o3.rd⟩
theorem eqEdge_fr (w0 w : World) (H : Hid (Below w0.heap.size w0 w)) (d0 : Int) (d1 : Int) (d2 : List Int) (d3 : List Int) (v2 : Value) (v3 : Value) (u2 : Value) (u3 : Value) (hv2 : LfR w0 w0.heap.size v2 d2) (hv3 : LfR w0 w0.heap.size v3 d3) (hu2 : Hid (LfR w w.heap.size u2 d2)) (hu3 : Hid (LfR w w.heap.size u3 d3)) :
    Calls Try.prog 64 #[.agg #[.int .i64 d0, .int .i64 d1, v2, v3], .agg #[.int .i64 d0, .int .i64 d1, u2, u3]] w (EqM' w0) :=
  (eqEdge_ok w w.heap.size d0 d1 d2 d3 v2 v3 u2 u3 ((hv2.below H.out (Nat.le_refl _)).mono H.out.size) ((hv3.below H.out (Nat.le_refl _)).mono H.out.size) hu2.out hu3.out (Nat.le_refl _)).mono fun _ _ ⟨he, hb⟩ => ⟨he, Lib.hid (H.out.trans (hb.mono H.out.size))⟩
end Go.Proofs.Ytdcgoeapgboclaa
