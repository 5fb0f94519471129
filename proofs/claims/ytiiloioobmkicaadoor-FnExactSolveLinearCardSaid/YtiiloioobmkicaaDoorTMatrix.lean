/- What the laws' helpers do with the struct Matrix. -/
import Derived.Test.YtiiloioobmkicaaDoorLeaf
namespace Go.Proofs.YtiiloioobmkicaaDoor
set_option maxRecDepth 100000
open Go Go.RowKit Go.Deep

def MkMatrix (w : World) (d0 : Int) (d1 : List (List Int)) (e : Ending) (w' : World) : Prop := ∃ (vd1 : Value), e = .returned (.agg #[.int .i64 d0, vd1]) ∧ Below w.heap.size w w' ∧ OwnG w' (fun b => w.heap.size ≤ b) vd1 d1

set_option maxHeartbeats 800000 in
theorem szMatrix_ok (w : World) (B : Nat) (d0 : Int) (d1 : List (List Int)) (v1 : Value) (left : Int) (hv1 : LfG w B v1 d1) (hB : B ≤ w.heap.size) (h0 : 0 ≤ left) (h1 : left ≤ 1000000000) :
    Calls Tryd.prog 24 #[.agg #[.int .i64 d0, v1], .int .i64 left] w (SzB left (szG d1) w) := by
  obtain ⟨A1, cp1, rfl⟩ := hv1.len
  have HV1 := Lib.hid hv1
  clear hv1
  have HB := Lib.hid hB
  clear hB
  have HBN := Lib.hid (Below.refl w.heap.size w)
  go_enter Tryd.func24, Tryd.ntmps24
  go_wp2_with fail
  refine (szG_any _ B _ d1 left ?_ (by omega) (by omega)).mono ?_
  · exact (HV1.out.below HBN.out HB.out).below (B' := w.heap.size) (by repeat' (first | exact Below.refl _ _ | apply Below.drew | apply Below.setCell | apply Below.alloc | (simp; done) | omega | (simp; omega))) (Nat.le_trans HB.out HBN.out.size)
  rintro e w2 ⟨b, h2⟩
  have hstep : Below w.heap.size w w2 := Below.trans (by repeat' (first | exact Below.refl _ _ | apply Below.drew | apply Below.setCell | apply Below.alloc | (simp; done) | omega | (simp; omega))) (b.mono (by (first | exact Nat.le_refl _ | (simp; done) | (simp; omega))))
  replace HBN := Lib.hid (HBN.out.trans (hstep.mono HBN.out.size))
  have hzw2 : w.heap.size ≤ w2.heap.size := hstep.size
  have hp0 : w2.cell? ⟨w.heap.size, 0, none⟩ = some (.int .i64 d0) := by have := b.cell (p := ⟨w.heap.size, 0, none⟩) (by first | (simp; done) | (simp; omega)); simpa [go_sem] using this
  have hp1 : w2.cell? ⟨w.heap.size, 1, none⟩ = some (.slice A1 d1.length cp1) := by have := b.cell (p := ⟨w.heap.size, 1, none⟩) (by first | (simp; done) | (simp; omega)); simpa [go_sem] using this
  have hlhp : w.heap.size < w2.heap.size := by have := b.size; simp at this; omega
  have hlhpq := hlhp
  clear b hstep 
  rcases h2 with rfl | ⟨hle1, h2⟩
  · go_wp2
    go_ret
    exact ⟨HBN.out, Or.inl rfl⟩
  obtain ⟨z1, HZ1, hz1a, hz1b, rfl⟩ : ∃ z : Int, Hid (z = left - (szG d1 : Nat)) ∧ 0 ≤ z ∧ z ≤ 1000000000 ∧ e = .returned (.int .i64 z) := ⟨_, Lib.hid rfl, by omega, by omega, h2⟩
  clear h2
  go_wp2
  go_ret
  have hsum : z1 = left - ((szG d1 : Nat) : Int) := by have := HZ1.out; omega
  exact ⟨HBN.out, Or.inr ⟨by have := HZ1.out; omega, congrArg (fun z : Int => Ending.returned (Value.int IntKind.i64 z)) hsum⟩⟩

set_option maxHeartbeats 800000 in
theorem toMatrix_ok (w : World) (B : Nat) (d0 : Int) (d1 : List (List Int)) (v1 : Value) (hv1 : LfG w B v1 d1) (hB : B ≤ w.heap.size) (hl1 : szG d1 ≤ 1048576) :
    Calls Tryd.prog 26 #[.agg #[.int .i64 d0, v1]] w (MkMatrix w d0 d1) := by
  obtain ⟨A1, cp1, rfl⟩ := hv1.len
  have HV1 := Lib.hid hv1
  clear hv1
  have HB := Lib.hid hB
  clear hB
  have HBN := Lib.hid (Below.refl w.heap.size w)
  go_enter Tryd.func26, Tryd.ntmps26
  go_wp2_with fail
  refine (toG_any _ B _ d1 ?_ ?_ hl1).mono ?_
  · exact (HV1.out.below HBN.out HB.out).below (B' := w.heap.size) (by repeat' (first | exact Below.refl _ _ | apply Below.drew | apply Below.setCell | apply Below.alloc | (simp; done) | omega | (simp; omega))) (Nat.le_trans HB.out HBN.out.size)
  · (have := HB.out; have := HBN.out.size; simp; omega)
  rintro e w2 ⟨vm1, rfl, b, om1⟩
  obtain ⟨Am1, cm1, rfl⟩ := om1.len
  have hstep : Below w.heap.size w w2 := Below.trans (by repeat' (first | exact Below.refl _ _ | apply Below.drew | apply Below.setCell | apply Below.alloc | (simp; done) | omega | (simp; omega))) (b.mono (by (first | exact Nat.le_refl _ | (simp; done) | (simp; omega))))
  replace HBN := Lib.hid (HBN.out.trans (hstep.mono HBN.out.size))
  have hzw2 : w.heap.size ≤ w2.heap.size := hstep.size
  have hp0 : w2.cell? ⟨w.heap.size, 0, none⟩ = some (.int .i64 d0) := by have := b.cell (p := ⟨w.heap.size, 0, none⟩) (by first | (simp; done) | (simp; omega)); simpa [go_sem] using this
  have hp1 : w2.cell? ⟨w.heap.size, 1, none⟩ = some (.slice A1 d1.length cp1) := by have := b.cell (p := ⟨w.heap.size, 1, none⟩) (by first | (simp; done) | (simp; omega)); simpa [go_sem] using this
  have hlhp : w.heap.size < w2.heap.size := by have := b.size; simp at this; omega
  have hlhpq := hlhp
  have hr0 : w2.cell? ⟨w.heap.size + 1, 0, none⟩ = some (.int .i64 0) := by have := b.cell (p := ⟨w.heap.size + 1, 0, none⟩) (by first | (simp; done) | (simp; omega)); simpa [go_sem] using this
  have hr1 : w2.cell? ⟨w.heap.size + 1, 1, none⟩ = some (.slice none 0 0) := by have := b.cell (p := ⟨w.heap.size + 1, 1, none⟩) (by first | (simp; done) | (simp; omega)); simpa [go_sem] using this
  have hlhr : w.heap.size + 1 < w2.heap.size := by have := b.size; simp at this; omega
  have hlhrq := hlhr
  have ho0 : w2.cell? ⟨w.heap.size + 1 + 1, 0, none⟩ = some (.int .i64 d0) := by have := b.cell (p := ⟨w.heap.size + 1 + 1, 0, none⟩) (by first | (simp; done) | (simp; omega)); simpa [go_sem] using this
  have ho1 : w2.cell? ⟨w.heap.size + 1 + 1, 1, none⟩ = some (.slice none 0 0) := by have := b.cell (p := ⟨w.heap.size + 1 + 1, 1, none⟩) (by first | (simp; done) | (simp; omega)); simpa [go_sem] using this
  have hlho : w.heap.size + 1 + 1 < w2.heap.size := by have := b.size; simp at this; omega
  have hlhoq := hlho
  have hpf : ∀ o, w2.frozen? ⟨w.heap.size, o, none⟩ = false := fun o => by have := b.frozen (p := ⟨w.heap.size, o, none⟩) (by first | (simp; done) | (simp; omega)); simpa [go_sem] using this
  have hrf : ∀ o, w2.frozen? ⟨w.heap.size + 1, o, none⟩ = false := fun o => by have := b.frozen (p := ⟨w.heap.size + 1, o, none⟩) (by first | (simp; done) | (simp; omega)); simpa [go_sem] using this
  have hof : ∀ o, w2.frozen? ⟨w.heap.size + 1 + 1, o, none⟩ = false := fun o => by have := b.frozen (p := ⟨w.heap.size + 1 + 1, o, none⟩) (by first | (simp; done) | (simp; omega)); simpa [go_sem] using this
  obtain ⟨SHOm1, HSHOm1, HOm1⟩ : ∃ S : Nat → Prop, Hid (∀ k, S k → w.heap.size + 3 ≤ k ∧ k < w2.heap.size) ∧ Hid (OwnG w2 S (.slice Am1 d1.length cm1) d1) := ⟨fun k => w.heap.size + 3 ≤ k ∧ k < w2.heap.size, Lib.hid (fun k hk => hk), Lib.hid (om1.mono (fun k hk hk2 => ⟨by have hk3 := hk; (try simp at hk3); omega, hk2⟩))⟩
  clear b hstep om1
  go_wp2
  refine bodyPost_ret (v := .agg #[.int .i64 d0, .slice Am1 d1.length cm1]) (by simp [results, Tryd.results26, go_sem, hr0, hr1]) rfl ?_
  refine ⟨_, rfl, (by refine Below.trans HBN.out ?_; have hsz := HBN.out.size; repeat' (first | exact Below.refl _ _ | apply Below.drew | apply Below.setCell | apply Below.alloc | (simp; done) | omega | (simp; omega))), ?_⟩
  refine (HOm1.out.blocks (fun k hk hkl => ?_)).mono (fun k hk _ => by have := HSHOm1.out k hk; omega)
  have hk2 := HSHOm1.out k hk
  repeat (first | rw [blk_setCell_other _ _ _ _ (by simp; omega)] | rfl)

set_option maxHeartbeats 800000 in
theorem eqMatrix_ok (w : World) (B : Nat) (d0 : Int) (d1 : List (List Int)) (v1 : Value) (u1 : Value) (hv1 : LfG w B v1 d1) (hu1 : LfG w B u1 d1) (hB : B ≤ w.heap.size) :
    Calls Tryd.prog 21 #[.agg #[.int .i64 d0, v1], .agg #[.int .i64 d0, u1]] w (SaysYes w) := by
  obtain ⟨A1, cp1, rfl⟩ := hv1.len
  have HV1 := Lib.hid hv1
  clear hv1
  obtain ⟨A'1, cq1, rfl⟩ := hu1.len
  have HU1 := Lib.hid hu1
  clear hu1
  have HB := Lib.hid hB
  clear hB
  have HBN := Lib.hid (Below.refl w.heap.size w)
  have hq0 : (d0 != d0) = false := by simp
  go_enter Tryd.func21, Tryd.ntmps21
  go_wp2_with fail
  refine (eqG_any _ B _ _ d1 ?_ ?_).mono ?_
  · exact (HV1.out.below HBN.out HB.out).below (B' := w.heap.size) (by repeat' (first | exact Below.refl _ _ | apply Below.drew | apply Below.setCell | apply Below.alloc | (simp; done) | omega | (simp; omega))) (Nat.le_trans HB.out HBN.out.size)
  · exact (HU1.out.below HBN.out HB.out).below (B' := w.heap.size) (by repeat' (first | exact Below.refl _ _ | apply Below.drew | apply Below.setCell | apply Below.alloc | (simp; done) | omega | (simp; omega))) (Nat.le_trans HB.out HBN.out.size)
  rintro e w2 ⟨rfl, b⟩
  have hstep : Below w.heap.size w w2 := Below.trans (by repeat' (first | exact Below.refl _ _ | apply Below.drew | apply Below.setCell | apply Below.alloc | (simp; done) | omega | (simp; omega))) (b.mono (by (first | exact Nat.le_refl _ | (simp; done) | (simp; omega))))
  replace HBN := Lib.hid (HBN.out.trans (hstep.mono HBN.out.size))
  have hzw2 : w.heap.size ≤ w2.heap.size := hstep.size
  have hp0 : w2.cell? ⟨w.heap.size, 0, none⟩ = some (.int .i64 d0) := by have := b.cell (p := ⟨w.heap.size, 0, none⟩) (by first | (simp; done) | (simp; omega)); simpa [go_sem] using this
  have hp1 : w2.cell? ⟨w.heap.size, 1, none⟩ = some (.slice A1 d1.length cp1) := by have := b.cell (p := ⟨w.heap.size, 1, none⟩) (by first | (simp; done) | (simp; omega)); simpa [go_sem] using this
  have hlhp : w.heap.size < w2.heap.size := by have := b.size; simp at this; omega
  have hlhpq := hlhp
  have hq'0 : w2.cell? ⟨w.heap.size + 1, 0, none⟩ = some (.int .i64 d0) := by have := b.cell (p := ⟨w.heap.size + 1, 0, none⟩) (by first | (simp; done) | (simp; omega)); simpa [go_sem] using this
  have hq'1 : w2.cell? ⟨w.heap.size + 1, 1, none⟩ = some (.slice A'1 d1.length cq1) := by have := b.cell (p := ⟨w.heap.size + 1, 1, none⟩) (by first | (simp; done) | (simp; omega)); simpa [go_sem] using this
  have hlhq' : w.heap.size + 1 < w2.heap.size := by have := b.size; simp at this; omega
  have hlhq'q := hlhq'
  clear b hstep 
  go_wp2
  go_ret
  exact ⟨rfl, HBN.out⟩

set_option maxHeartbeats 800000 in
theorem markMatrix_ok (w : World) (d0 : Int) (d1 : List (List Int)) (v1 : Value) (S1 : Nat → Prop) (k : Int) (ho1 : OwnG w S1 v1 d1) (h0 : 0 ≤ k) (hl : k + ((cntG d1 : Nat) : Int) ≤ 9223372036854775807) :
    Calls Tryd.prog 22 #[.agg #[.int .i64 d0, v1], .int .i64 k] w fun e w' => e = .returned (.int .i64 (k + ((cntG d1 : Nat) : Int))) ∧ Touch (fun b => S1 b) w w' ∧ OwnG w' S1 v1 (mkG k d1) := by
  obtain ⟨A1, cp1, rfl⟩ := ho1.len
  have HOm1 := Lib.hid (ho1.mono (T := fun b => S1 b ∧ b < w.heap.size) (fun k a b => ⟨a, b⟩))
  clear ho1
  have HSm1 : Hid (∀ k, S1 k ∧ k < w.heap.size → 0 ≤ k ∧ k < w.heap.size) := Lib.hid (fun k hk => ⟨Nat.zero_le _, hk.2⟩)
  have HTT : Hid (Touch (fun b => S1 b) w w) := Lib.hid (Touch.refl _ _)
  have HBN := Lib.hid (Below.refl 0 w)
  go_enter Tryd.func22, Tryd.ntmps22
  go_wp2_with fail
  refine (markedG_any _ (fun b => S1 b ∧ b < w.heap.size) _ d1 k ?_ (by omega) (by omega)).mono ?_
  · exact HOm1.out.blocks (fun k hk _ => blk_alloc_lt _ _ _ hk.2)
  rintro e w2 ⟨h2, t, om⟩
  obtain ⟨z1, HZ1, hz1a, hz1b, rfl⟩ : ∃ z : Int, Hid (z = k + (cntG d1 : Nat)) ∧ 0 ≤ z ∧ z + (0) ≤ 9223372036854775807 ∧ e = .returned (.int .i64 z) := ⟨_, Lib.hid rfl, by omega, by omega, h2⟩
  have hp0 : w2.cell? ⟨w.heap.size, 0, none⟩ = some (.int .i64 d0) := by have := t.cellAt (p := ⟨w.heap.size, 0, none⟩) (by simp) (fun h => by have := h.2; simp at this); simpa [go_sem] using this
  have hp1 : w2.cell? ⟨w.heap.size, 1, none⟩ = some (.slice A1 d1.length cp1) := by have := t.cellAt (p := ⟨w.heap.size, 1, none⟩) (by simp) (fun h => by have := h.2; simp at this); simpa [go_sem] using this
  have hlp : w.heap.size < w2.heap.size := by have := t.size; simp at this; omega
  replace HTT := Lib.hid ((HTT.out.alloc _).trans (t.mono (fun k _ h => h.1)))
  replace HOm1 := Lib.hid om
  clear t om h2
  go_wp2
  go_ret
  have hsum : z1 = k + ((cntG d1 : Nat) : Int) := by have := HZ1.out; omega
  refine ⟨congrArg (fun z : Int => Ending.returned (Value.int IntKind.i64 z)) hsum, HTT.out, ?_⟩
  · exact HOm1.out.mono fun k h _ => h.1

set_option maxHeartbeats 800000 in
theorem heldMatrix_ok (w : World) (B : Nat) (d0 : Int) (d1 : List (List Int)) (v1 : Value) (k : Int) (hv1 : LfG w B v1 (mkG k d1)) (hB : B ≤ w.heap.size) (h0 : 0 ≤ k) (hl : k + ((cntG d1 : Nat) : Int) ≤ 9223372036854775807) :
    Calls Tryd.prog 23 #[.agg #[.int .i64 d0, v1], .int .i64 k] w (Found w k (cntG d1)) := by
  obtain ⟨A1, cp1, rfl⟩ := hv1.len
  rw [mkG_len] at *
  have HV1 := Lib.hid hv1
  clear hv1
  have HB := Lib.hid hB
  clear hB
  have HBN := Lib.hid (Below.refl w.heap.size w)
  go_enter Tryd.func23, Tryd.ntmps23
  go_wp2_with fail
  refine (heldG_any' _ B _ d1 k ?_ (by omega) (by omega)).mono ?_
  · (exact (HV1.out.below HBN.out HB.out).below (B' := w.heap.size) (by repeat' (first | exact Below.refl _ _ | apply Below.drew | apply Below.setCell | apply Below.alloc | (simp; done) | omega | (simp; omega))) (Nat.le_trans HB.out HBN.out.size))
  rintro e w2 ⟨h2, b⟩
  have hstep : Below w.heap.size w w2 := Below.trans (by repeat' (first | exact Below.refl _ _ | apply Below.drew | apply Below.setCell | apply Below.alloc | (simp; done) | omega | (simp; omega))) (b.mono (by (first | exact Nat.le_refl _ | (simp; done) | (simp; omega))))
  replace HBN := Lib.hid (HBN.out.trans (hstep.mono HBN.out.size))
  have hzw2 : w.heap.size ≤ w2.heap.size := hstep.size
  have hp0 : w2.cell? ⟨w.heap.size, 0, none⟩ = some (.int .i64 d0) := by have := b.cell (p := ⟨w.heap.size, 0, none⟩) (by first | (simp; done) | (simp; omega)); simpa [go_sem] using this
  have hp1 : w2.cell? ⟨w.heap.size, 1, none⟩ = some (.slice A1 d1.length cp1) := by have := b.cell (p := ⟨w.heap.size, 1, none⟩) (by first | (simp; done) | (simp; omega)); simpa [go_sem] using this
  have hlhp : w.heap.size < w2.heap.size := by have := b.size; simp at this; omega
  have hlhpq := hlhp
  clear b hstep 
  obtain ⟨z1, HZ1, hz1a, hz1b, rfl⟩ : ∃ z : Int, Hid (z = k + (cntG d1 : Nat)) ∧ 0 ≤ z ∧ z + (0) ≤ 9223372036854775807 ∧ e = .returned (.int .i64 z) := ⟨_, Lib.hid rfl, by omega, by omega, h2⟩
  clear h2
  go_wp2
  go_ret
  have hsum : z1 = k + ((cntG d1 : Nat) : Int) := by have := HZ1.out; omega
  exact ⟨congrArg (fun z : Int => Ending.returned (Value.int IntKind.i64 z)) hsum, HBN.out⟩

def MkMatrix' (w0 w : World) (d0 : Int) (d1 : List (List Int)) (e : Ending) (w' : World) : Prop := ∃ (v1 : Value), e = .returned (.agg #[.int .i64 d0, v1]) ∧ Hid (Below w.heap.size w w') ∧ Hid (Below w0.heap.size w0 w') ∧ Hid (LfG w' w'.heap.size v1 d1)
theorem toMatrix_fr (w0 w : World) (H : Hid (Below w0.heap.size w0 w)) (d0 : Int) (d1 : List (List Int)) (v1 : Value) (hv1 : LfG w0 w0.heap.size v1 d1) (hl1 : szG d1 ≤ 1048576) :
    Calls Tryd.prog 26 #[.agg #[.int .i64 d0, v1]] w (MkMatrix' w0 w d0 d1) :=
  (toMatrix_ok w w0.heap.size d0 d1 v1 (hv1.below H.out (Nat.le_refl _)) H.out.size hl1).mono fun _ _ h => by
    obtain ⟨x1, he, hb, o1⟩ := h
    exact ⟨x1, he, Lib.hid hb, Lib.hid (H.out.trans (hb.mono H.out.size)), Lib.hid o1.rd⟩
theorem eqMatrix_fr (w0 w : World) (H : Hid (Below w0.heap.size w0 w)) (d0 : Int) (d1 : List (List Int)) (v1 : Value) (u1 : Value) (hv1 : LfG w0 w0.heap.size v1 d1) (hu1 : Hid (LfG w w.heap.size u1 d1)) :
    Calls Tryd.prog 21 #[.agg #[.int .i64 d0, v1], .agg #[.int .i64 d0, u1]] w (EqM' w0) :=
  (eqMatrix_ok w w.heap.size d0 d1 v1 u1 ((hv1.below H.out (Nat.le_refl _)).mono H.out.size) hu1.out (Nat.le_refl _)).mono fun _ _ ⟨he, hb⟩ => ⟨he, Lib.hid (H.out.trans (hb.mono H.out.size))⟩
end Go.Proofs.YtiiloioobmkicaaDoor
