/- What the laws' helpers do with the struct Relation. -/
import Derived.Test.YtdjgkcnhmfkjoaaDoorLeaf
namespace Go.Proofs.YtdjgkcnhmfkjoaaDoor
set_option maxRecDepth 100000
open Go Go.RowKit Go.Deep

def MkRelation (w : World) (d0 : Int) (d1 : Int) (d2 : List (List Int)) (e : Ending) (w' : World) : Prop := ∃ (vd2 : Value), e = .returned (.agg #[.int .i64 d0, .int .i64 d1, vd2]) ∧ Below w.heap.size w w' ∧ OwnG w' (fun b => w.heap.size ≤ b) vd2 d2

set_option maxHeartbeats 800000 in
theorem szRelation_ok (w : World) (B : Nat) (d0 : Int) (d1 : Int) (d2 : List (List Int)) (v2 : Value) (left : Int) (hv2 : LfG w B v2 d2) (hB : B ≤ w.heap.size) (h0 : 0 ≤ left) (h1 : left ≤ 1000000000) :
    Calls Tryd.prog 4 #[.agg #[.int .i64 d0, .int .i64 d1, v2], .int .i64 left] w (SzB left (szG d2) w) := by
  obtain ⟨A2, cp2, rfl⟩ := hv2.len
  have HV2 := Lib.hid hv2
  clear hv2
  have HB := Lib.hid hB
  clear hB
  have HBN := Lib.hid (Below.refl w.heap.size w)
  go_enter Tryd.func4, Tryd.ntmps4
  go_wp2_with fail
  refine (szG_any _ B _ d2 left ?_ (by omega) (by omega)).mono ?_
  · exact (HV2.out.below HBN.out HB.out).below (B' := w.heap.size) (by repeat' (first | exact Below.refl _ _ | apply Below.drew | apply Below.setCell | apply Below.alloc | (simp; done) | omega | (simp; omega))) (Nat.le_trans HB.out HBN.out.size)
  rintro e w2 ⟨b, h2⟩
  have hstep : Below w.heap.size w w2 := Below.trans (by repeat' (first | exact Below.refl _ _ | apply Below.drew | apply Below.setCell | apply Below.alloc | (simp; done) | omega | (simp; omega))) (b.mono (by (first | exact Nat.le_refl _ | (simp; done) | (simp; omega))))
  replace HBN := Lib.hid (HBN.out.trans (hstep.mono HBN.out.size))
  have hzw2 : w.heap.size ≤ w2.heap.size := hstep.size
  have hp0 : w2.cell? ⟨w.heap.size, 0, none⟩ = some (.int .i64 d0) := by have := b.cell (p := ⟨w.heap.size, 0, none⟩) (by first | (simp; done) | (simp; omega)); simpa [go_sem] using this
  have hp1 : w2.cell? ⟨w.heap.size, 1, none⟩ = some (.int .i64 d1) := by have := b.cell (p := ⟨w.heap.size, 1, none⟩) (by first | (simp; done) | (simp; omega)); simpa [go_sem] using this
  have hp2 : w2.cell? ⟨w.heap.size, 2, none⟩ = some (.slice A2 d2.length cp2) := by have := b.cell (p := ⟨w.heap.size, 2, none⟩) (by first | (simp; done) | (simp; omega)); simpa [go_sem] using this
  have hlhp : w.heap.size < w2.heap.size := by have := b.size; simp at this; omega
  have hlhpq := hlhp
  clear b hstep 
  rcases h2 with rfl | ⟨hle2, h2⟩
  · go_wp2
    go_ret
    exact ⟨HBN.out, Or.inl rfl⟩
  obtain ⟨z2, HZ2, hz2a, hz2b, rfl⟩ : ∃ z : Int, Hid (z = left - (szG d2 : Nat)) ∧ 0 ≤ z ∧ z ≤ 1000000000 ∧ e = .returned (.int .i64 z) := ⟨_, Lib.hid rfl, by omega, by omega, h2⟩
  clear h2
  go_wp2
  go_ret
  have hsum : z2 = left - ((szG d2 : Nat) : Int) := by have := HZ2.out; omega
  exact ⟨HBN.out, Or.inr ⟨by have := HZ2.out; omega, congrArg (fun z : Int => Ending.returned (Value.int IntKind.i64 z)) hsum⟩⟩

set_option maxHeartbeats 800000 in
theorem toRelation_ok (w : World) (B : Nat) (d0 : Int) (d1 : Int) (d2 : List (List Int)) (v2 : Value) (hv2 : LfG w B v2 d2) (hB : B ≤ w.heap.size) (hl2 : szG d2 ≤ 1048576) :
    Calls Tryd.prog 6 #[.agg #[.int .i64 d0, .int .i64 d1, v2]] w (MkRelation w d0 d1 d2) := by
  obtain ⟨A2, cp2, rfl⟩ := hv2.len
  have HV2 := Lib.hid hv2
  clear hv2
  have HB := Lib.hid hB
  clear hB
  have HBN := Lib.hid (Below.refl w.heap.size w)
  go_enter Tryd.func6, Tryd.ntmps6
  go_wp2_with fail
  refine (toG_any _ B _ d2 ?_ ?_ hl2).mono ?_
  · exact (HV2.out.below HBN.out HB.out).below (B' := w.heap.size) (by repeat' (first | exact Below.refl _ _ | apply Below.drew | apply Below.setCell | apply Below.alloc | (simp; done) | omega | (simp; omega))) (Nat.le_trans HB.out HBN.out.size)
  · (have := HB.out; have := HBN.out.size; simp; omega)
  rintro e w2 ⟨vm2, rfl, b, om2⟩
  obtain ⟨Am2, cm2, rfl⟩ := om2.len
  have hstep : Below w.heap.size w w2 := Below.trans (by repeat' (first | exact Below.refl _ _ | apply Below.drew | apply Below.setCell | apply Below.alloc | (simp; done) | omega | (simp; omega))) (b.mono (by (first | exact Nat.le_refl _ | (simp; done) | (simp; omega))))
  replace HBN := Lib.hid (HBN.out.trans (hstep.mono HBN.out.size))
  have hzw2 : w.heap.size ≤ w2.heap.size := hstep.size
  have hp0 : w2.cell? ⟨w.heap.size, 0, none⟩ = some (.int .i64 d0) := by have := b.cell (p := ⟨w.heap.size, 0, none⟩) (by first | (simp; done) | (simp; omega)); simpa [go_sem] using this
  have hp1 : w2.cell? ⟨w.heap.size, 1, none⟩ = some (.int .i64 d1) := by have := b.cell (p := ⟨w.heap.size, 1, none⟩) (by first | (simp; done) | (simp; omega)); simpa [go_sem] using this
  have hp2 : w2.cell? ⟨w.heap.size, 2, none⟩ = some (.slice A2 d2.length cp2) := by have := b.cell (p := ⟨w.heap.size, 2, none⟩) (by first | (simp; done) | (simp; omega)); simpa [go_sem] using this
  have hlhp : w.heap.size < w2.heap.size := by have := b.size; simp at this; omega
  have hlhpq := hlhp
  have hr0 : w2.cell? ⟨w.heap.size + 1, 0, none⟩ = some (.int .i64 0) := by have := b.cell (p := ⟨w.heap.size + 1, 0, none⟩) (by first | (simp; done) | (simp; omega)); simpa [go_sem] using this
  have hr1 : w2.cell? ⟨w.heap.size + 1, 1, none⟩ = some (.int .i64 0) := by have := b.cell (p := ⟨w.heap.size + 1, 1, none⟩) (by first | (simp; done) | (simp; omega)); simpa [go_sem] using this
  have hr2 : w2.cell? ⟨w.heap.size + 1, 2, none⟩ = some (.slice none 0 0) := by have := b.cell (p := ⟨w.heap.size + 1, 2, none⟩) (by first | (simp; done) | (simp; omega)); simpa [go_sem] using this
  have hlhr : w.heap.size + 1 < w2.heap.size := by have := b.size; simp at this; omega
  have hlhrq := hlhr
  have ho0 : w2.cell? ⟨w.heap.size + 1 + 1, 0, none⟩ = some (.int .i64 d0) := by have := b.cell (p := ⟨w.heap.size + 1 + 1, 0, none⟩) (by first | (simp; done) | (simp; omega)); simpa [go_sem] using this
  have ho1 : w2.cell? ⟨w.heap.size + 1 + 1, 1, none⟩ = some (.int .i64 d1) := by have := b.cell (p := ⟨w.heap.size + 1 + 1, 1, none⟩) (by first | (simp; done) | (simp; omega)); simpa [go_sem] using this
  have ho2 : w2.cell? ⟨w.heap.size + 1 + 1, 2, none⟩ = some (.slice none 0 0) := by have := b.cell (p := ⟨w.heap.size + 1 + 1, 2, none⟩) (by first | (simp; done) | (simp; omega)); simpa [go_sem] using this
  have hlho : w.heap.size + 1 + 1 < w2.heap.size := by have := b.size; simp at this; omega
  have hlhoq := hlho
  have hpf : ∀ o, w2.frozen? ⟨w.heap.size, o, none⟩ = false := fun o => by have := b.frozen (p := ⟨w.heap.size, o, none⟩) (by first | (simp; done) | (simp; omega)); simpa [go_sem] using this
  have hrf : ∀ o, w2.frozen? ⟨w.heap.size + 1, o, none⟩ = false := fun o => by have := b.frozen (p := ⟨w.heap.size + 1, o, none⟩) (by first | (simp; done) | (simp; omega)); simpa [go_sem] using this
  have hof : ∀ o, w2.frozen? ⟨w.heap.size + 1 + 1, o, none⟩ = false := fun o => by have := b.frozen (p := ⟨w.heap.size + 1 + 1, o, none⟩) (by first | (simp; done) | (simp; omega)); simpa [go_sem] using this
  obtain ⟨SHOm2, HSHOm2, HOm2⟩ : ∃ S : Nat → Prop, Hid (∀ k, S k → w.heap.size + 3 ≤ k ∧ k < w2.heap.size) ∧ Hid (OwnG w2 S (.slice Am2 d2.length cm2) d2) := ⟨fun k => w.heap.size + 3 ≤ k ∧ k < w2.heap.size, Lib.hid (fun k hk => hk), Lib.hid (om2.mono (fun k hk hk2 => ⟨by have hk3 := hk; (try simp at hk3); omega, hk2⟩))⟩
  clear b hstep om2
  go_wp2
  refine bodyPost_ret (v := .agg #[.int .i64 d0, .int .i64 d1, .slice Am2 d2.length cm2]) (by simp [results, Tryd.results6, go_sem, hr0, hr1, hr2]) rfl ?_
  refine ⟨_, rfl, (by refine Below.trans HBN.out ?_; have hsz := HBN.out.size; repeat' (first | exact Below.refl _ _ | apply Below.drew | apply Below.setCell | apply Below.alloc | (simp; done) | omega | (simp; omega))), ?_⟩
  refine (HOm2.out.blocks (fun k hk hkl => ?_)).mono (fun k hk _ => by have := HSHOm2.out k hk; omega)
  have hk2 := HSHOm2.out k hk
  repeat (first | rw [blk_setCell_other _ _ _ _ (by simp; omega)] | rfl)

set_option maxHeartbeats 800000 in
theorem eqRelation_ok (w : World) (B : Nat) (d0 : Int) (d1 : Int) (d2 : List (List Int)) (v2 : Value) (u2 : Value) (hv2 : LfG w B v2 d2) (hu2 : LfG w B u2 d2) (hB : B ≤ w.heap.size) :
    Calls Tryd.prog 8 #[.agg #[.int .i64 d0, .int .i64 d1, v2], .agg #[.int .i64 d0, .int .i64 d1, u2]] w (SaysYes w) := by
  obtain ⟨A2, cp2, rfl⟩ := hv2.len
  have HV2 := Lib.hid hv2
  clear hv2
  obtain ⟨A'2, cq2, rfl⟩ := hu2.len
  have HU2 := Lib.hid hu2
  clear hu2
  have HB := Lib.hid hB
  clear hB
  have HBN := Lib.hid (Below.refl w.heap.size w)
  have hq0 : (d0 != d0) = false := by simp
  have hq1 : (d1 != d1) = false := by simp
  go_enter Tryd.func8, Tryd.ntmps8
  go_wp2_with fail
  refine (eqG_any _ B _ _ d2 ?_ ?_).mono ?_
  · exact (HV2.out.below HBN.out HB.out).below (B' := w.heap.size) (by repeat' (first | exact Below.refl _ _ | apply Below.drew | apply Below.setCell | apply Below.alloc | (simp; done) | omega | (simp; omega))) (Nat.le_trans HB.out HBN.out.size)
  · exact (HU2.out.below HBN.out HB.out).below (B' := w.heap.size) (by repeat' (first | exact Below.refl _ _ | apply Below.drew | apply Below.setCell | apply Below.alloc | (simp; done) | omega | (simp; omega))) (Nat.le_trans HB.out HBN.out.size)
  rintro e w2 ⟨rfl, b⟩
  have hstep : Below w.heap.size w w2 := Below.trans (by repeat' (first | exact Below.refl _ _ | apply Below.drew | apply Below.setCell | apply Below.alloc | (simp; done) | omega | (simp; omega))) (b.mono (by (first | exact Nat.le_refl _ | (simp; done) | (simp; omega))))
  replace HBN := Lib.hid (HBN.out.trans (hstep.mono HBN.out.size))
  have hzw2 : w.heap.size ≤ w2.heap.size := hstep.size
  have hp0 : w2.cell? ⟨w.heap.size, 0, none⟩ = some (.int .i64 d0) := by have := b.cell (p := ⟨w.heap.size, 0, none⟩) (by first | (simp; done) | (simp; omega)); simpa [go_sem] using this
  have hp1 : w2.cell? ⟨w.heap.size, 1, none⟩ = some (.int .i64 d1) := by have := b.cell (p := ⟨w.heap.size, 1, none⟩) (by first | (simp; done) | (simp; omega)); simpa [go_sem] using this
  have hp2 : w2.cell? ⟨w.heap.size, 2, none⟩ = some (.slice A2 d2.length cp2) := by have := b.cell (p := ⟨w.heap.size, 2, none⟩) (by first | (simp; done) | (simp; omega)); simpa [go_sem] using this
  have hlhp : w.heap.size < w2.heap.size := by have := b.size; simp at this; omega
  have hlhpq := hlhp
  have hq'0 : w2.cell? ⟨w.heap.size + 1, 0, none⟩ = some (.int .i64 d0) := by have := b.cell (p := ⟨w.heap.size + 1, 0, none⟩) (by first | (simp; done) | (simp; omega)); simpa [go_sem] using this
  have hq'1 : w2.cell? ⟨w.heap.size + 1, 1, none⟩ = some (.int .i64 d1) := by have := b.cell (p := ⟨w.heap.size + 1, 1, none⟩) (by first | (simp; done) | (simp; omega)); simpa [go_sem] using this
  have hq'2 : w2.cell? ⟨w.heap.size + 1, 2, none⟩ = some (.slice A'2 d2.length cq2) := by have := b.cell (p := ⟨w.heap.size + 1, 2, none⟩) (by first | (simp; done) | (simp; omega)); simpa [go_sem] using this
  have hlhq' : w.heap.size + 1 < w2.heap.size := by have := b.size; simp at this; omega
  have hlhq'q := hlhq'
  clear b hstep 
  go_wp2
  go_ret
  exact ⟨rfl, HBN.out⟩

set_option maxHeartbeats 800000 in
theorem markRelation_ok (w : World) (d0 : Int) (d1 : Int) (d2 : List (List Int)) (v2 : Value) (S2 : Nat → Prop) (k : Int) (ho2 : OwnG w S2 v2 d2) (h0 : 0 ≤ k) (hl : k + ((cntG d2 : Nat) : Int) ≤ 9223372036854775807) :
    Calls Tryd.prog 9 #[.agg #[.int .i64 d0, .int .i64 d1, v2], .int .i64 k] w fun e w' => e = .returned (.int .i64 (k + ((cntG d2 : Nat) : Int))) ∧ Touch (fun b => S2 b) w w' ∧ OwnG w' S2 v2 (mkG k d2) := by
  obtain ⟨A2, cp2, rfl⟩ := ho2.len
  have HOm2 := Lib.hid (ho2.mono (T := fun b => S2 b ∧ b < w.heap.size) (fun k a b => ⟨a, b⟩))
  clear ho2
  have HSm2 : Hid (∀ k, S2 k ∧ k < w.heap.size → 0 ≤ k ∧ k < w.heap.size) := Lib.hid (fun k hk => ⟨Nat.zero_le _, hk.2⟩)
  have HTT : Hid (Touch (fun b => S2 b) w w) := Lib.hid (Touch.refl _ _)
  have HBN := Lib.hid (Below.refl 0 w)
  go_enter Tryd.func9, Tryd.ntmps9
  go_wp2_with fail
  refine (markedG_any _ (fun b => S2 b ∧ b < w.heap.size) _ d2 k ?_ (by omega) (by omega)).mono ?_
  · exact HOm2.out.blocks (fun k hk _ => blk_alloc_lt _ _ _ hk.2)
  rintro e w2 ⟨h2, t, om⟩
  obtain ⟨z2, HZ2, hz2a, hz2b, rfl⟩ : ∃ z : Int, Hid (z = k + (cntG d2 : Nat)) ∧ 0 ≤ z ∧ z + (0) ≤ 9223372036854775807 ∧ e = .returned (.int .i64 z) := ⟨_, Lib.hid rfl, by omega, by omega, h2⟩
  have hp0 : w2.cell? ⟨w.heap.size, 0, none⟩ = some (.int .i64 d0) := by have := t.cellAt (p := ⟨w.heap.size, 0, none⟩) (by simp) (fun h => by have := h.2; simp at this); simpa [go_sem] using this
  have hp1 : w2.cell? ⟨w.heap.size, 1, none⟩ = some (.int .i64 d1) := by have := t.cellAt (p := ⟨w.heap.size, 1, none⟩) (by simp) (fun h => by have := h.2; simp at this); simpa [go_sem] using this
  have hp2 : w2.cell? ⟨w.heap.size, 2, none⟩ = some (.slice A2 d2.length cp2) := by have := t.cellAt (p := ⟨w.heap.size, 2, none⟩) (by simp) (fun h => by have := h.2; simp at this); simpa [go_sem] using this
  have hlp : w.heap.size < w2.heap.size := by have := t.size; simp at this; omega
  replace HTT := Lib.hid ((HTT.out.alloc _).trans (t.mono (fun k _ h => h.1)))
  replace HOm2 := Lib.hid om
  clear t om h2
  go_wp2
  go_ret
  have hsum : z2 = k + ((cntG d2 : Nat) : Int) := by have := HZ2.out; omega
  refine ⟨congrArg (fun z : Int => Ending.returned (Value.int IntKind.i64 z)) hsum, HTT.out, ?_⟩
  · exact HOm2.out.mono fun k h _ => h.1

set_option maxHeartbeats 800000 in
theorem heldRelation_ok (w : World) (B : Nat) (d0 : Int) (d1 : Int) (d2 : List (List Int)) (v2 : Value) (k : Int) (hv2 : LfG w B v2 (mkG k d2)) (hB : B ≤ w.heap.size) (h0 : 0 ≤ k) (hl : k + ((cntG d2 : Nat) : Int) ≤ 9223372036854775807) :
    Calls Tryd.prog 10 #[.agg #[.int .i64 d0, .int .i64 d1, v2], .int .i64 k] w (Found w k (cntG d2)) := by
  obtain ⟨A2, cp2, rfl⟩ := hv2.len
  rw [mkG_len] at *
  have HV2 := Lib.hid hv2
  clear hv2
  have HB := Lib.hid hB
  clear hB
  have HBN := Lib.hid (Below.refl w.heap.size w)
  go_enter Tryd.func10, Tryd.ntmps10
  go_wp2_with fail
  refine (heldG_any' _ B _ d2 k ?_ (by omega) (by omega)).mono ?_
  · (exact (HV2.out.below HBN.out HB.out).below (B' := w.heap.size) (by repeat' (first | exact Below.refl _ _ | apply Below.drew | apply Below.setCell | apply Below.alloc | (simp; done) | omega | (simp; omega))) (Nat.le_trans HB.out HBN.out.size))
  rintro e w2 ⟨h2, b⟩
  have hstep : Below w.heap.size w w2 := Below.trans (by repeat' (first | exact Below.refl _ _ | apply Below.drew | apply Below.setCell | apply Below.alloc | (simp; done) | omega | (simp; omega))) (b.mono (by (first | exact Nat.le_refl _ | (simp; done) | (simp; omega))))
  replace HBN := Lib.hid (HBN.out.trans (hstep.mono HBN.out.size))
  have hzw2 : w.heap.size ≤ w2.heap.size := hstep.size
  have hp0 : w2.cell? ⟨w.heap.size, 0, none⟩ = some (.int .i64 d0) := by have := b.cell (p := ⟨w.heap.size, 0, none⟩) (by first | (simp; done) | (simp; omega)); simpa [go_sem] using this
  have hp1 : w2.cell? ⟨w.heap.size, 1, none⟩ = some (.int .i64 d1) := by have := b.cell (p := ⟨w.heap.size, 1, none⟩) (by first | (simp; done) | (simp; omega)); simpa [go_sem] using this
  have hp2 : w2.cell? ⟨w.heap.size, 2, none⟩ = some (.slice A2 d2.length cp2) := by have := b.cell (p := ⟨w.heap.size, 2, none⟩) (by first | (simp; done) | (simp; omega)); simpa [go_sem] using this
  have hlhp : w.heap.size < w2.heap.size := by have := b.size; simp at this; omega
  have hlhpq := hlhp
  clear b hstep 
  obtain ⟨z2, HZ2, hz2a, hz2b, rfl⟩ : ∃ z : Int, Hid (z = k + (cntG d2 : Nat)) ∧ 0 ≤ z ∧ z + (0) ≤ 9223372036854775807 ∧ e = .returned (.int .i64 z) := ⟨_, Lib.hid rfl, by omega, by omega, h2⟩
  clear h2
  go_wp2
  go_ret
  have hsum : z2 = k + ((cntG d2 : Nat) : Int) := by have := HZ2.out; omega
  exact ⟨congrArg (fun z : Int => Ending.returned (Value.int IntKind.i64 z)) hsum, HBN.out⟩

def MkRelation' (w0 w : World) (d0 : Int) (d1 : Int) (d2 : List (List Int)) (e : Ending) (w' : World) : Prop := ∃ (v2 : Value), e = .returned (.agg #[.int .i64 d0, .int .i64 d1, v2]) ∧ Hid (Below w.heap.size w w') ∧ Hid (Below w0.heap.size w0 w') ∧ Hid (LfG w' w'.heap.size v2 d2)
theorem toRelation_fr (w0 w : World) (H : Hid (Below w0.heap.size w0 w)) (d0 : Int) (d1 : Int) (d2 : List (List Int)) (v2 : Value) (hv2 : LfG w0 w0.heap.size v2 d2) (hl2 : szG d2 ≤ 1048576) :
    Calls Tryd.prog 6 #[.agg #[.int .i64 d0, .int .i64 d1, v2]] w (MkRelation' w0 w d0 d1 d2) :=
  (toRelation_ok w w0.heap.size d0 d1 d2 v2 (hv2.below H.out (Nat.le_refl _)) H.out.size hl2).mono fun _ _ h => by
    obtain ⟨x2, he, hb, o2⟩ := h
    exact ⟨x2, he, Lib.hid hb, Lib.hid (H.out.trans (hb.mono H.out.size)), Lib.hid o2.rd⟩
theorem eqRelation_fr (w0 w : World) (H : Hid (Below w0.heap.size w0 w)) (d0 : Int) (d1 : Int) (d2 : List (List Int)) (v2 : Value) (u2 : Value) (hv2 : LfG w0 w0.heap.size v2 d2) (hu2 : Hid (LfG w w.heap.size u2 d2)) :
    Calls Tryd.prog 8 #[.agg #[.int .i64 d0, .int .i64 d1, v2], .agg #[.int .i64 d0, .int .i64 d1, u2]] w (EqM' w0) :=
  (eqRelation_ok w w.heap.size d0 d1 d2 v2 u2 ((hv2.below H.out (Nat.le_refl _)).mono H.out.size) hu2.out (Nat.le_refl _)).mono fun _ _ ⟨he, hb⟩ => ⟨he, Lib.hid (H.out.trans (hb.mono H.out.size))⟩
end Go.Proofs.YtdjgkcnhmfkjoaaDoor
