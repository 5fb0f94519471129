/- What the laws' helpers do with the struct Term. -/
import Derived.Test.YtiealgnmhjebeaaLeafN0
namespace Go.Proofs.Ytiealgnmhjebeaa
set_option maxRecDepth 100000
open Go Go.RowKit Go.Deep

def MkTerm (w : World) (d0 : List Nd) (e : Ending) (w' : World) : Prop := ∃ (vd0 : Value), e = .returned (.agg #[vd0]) ∧ Below w.heap.size w w' ∧ OwnN w' (fun b => w.heap.size ≤ b) vd0 d0

set_option maxHeartbeats 800000 in
theorem szTerm_ok (w : World) (B : Nat) (d0 : List Nd) (v0 : Value) (left : Int) (hv0 : LfN w B v0 d0) (hB : B ≤ w.heap.size) (h0 : 0 ≤ left) (h1 : left ≤ 1000000000) :
    Calls Try.prog 8 #[.agg #[v0], .int .i64 left] w (SzB left (szN d0) w) := by
  obtain ⟨A0, cp0, rfl⟩ := hv0.len
  have HV0 := Lib.hid hv0
  clear hv0
  have HB := Lib.hid hB
  clear hB
  have HBN := Lib.hid (Below.refl w.heap.size w)
  go_enter Try.func8, Try.ntmps8
  go_wp2_with fail
  refine (szN_any _ B _ d0 left ?_ (by omega) (by omega)).mono ?_
  · exact (HV0.out.below HBN.out HB.out).below (B' := w.heap.size) (by repeat' (first | exact Below.refl _ _ | apply Below.drew | apply Below.setCell | apply Below.alloc | (simp; done) | omega | (simp; omega))) (Nat.le_trans HB.out HBN.out.size)
  rintro e w2 ⟨b, h2⟩
  have hstep : Below w.heap.size w w2 := Below.trans (by repeat' (first | exact Below.refl _ _ | apply Below.drew | apply Below.setCell | apply Below.alloc | (simp; done) | omega | (simp; omega))) (b.mono (by (first | exact Nat.le_refl _ | (simp; done) | (simp; omega))))
  replace HBN := Lib.hid (HBN.out.trans (hstep.mono HBN.out.size))
  have hzw2 : w.heap.size ≤ w2.heap.size := hstep.size
  have hp0 : w2.cell? ⟨w.heap.size, 0, none⟩ = some (.slice A0 d0.length cp0) := by have := b.cell (p := ⟨w.heap.size, 0, none⟩) (by first | (simp; done) | (simp; omega)); simpa [go_sem] using this
  have hlhp : w.heap.size < w2.heap.size := by have := b.size; simp at this; omega
  have hlhpq := hlhp
  clear b hstep 
  rcases h2 with rfl | ⟨hle0, h2⟩
  · go_wp2
    go_ret
    exact ⟨HBN.out, Or.inl rfl⟩
  obtain ⟨z0, HZ0, hz0a, hz0b, rfl⟩ : ∃ z : Int, Hid (z = left - (szN d0 : Nat)) ∧ 0 ≤ z ∧ z ≤ 1000000000 ∧ e = .returned (.int .i64 z) := ⟨_, Lib.hid rfl, by omega, by omega, h2⟩
  clear h2
  go_wp2
  go_ret
  have hsum : z0 = left - ((szN d0 : Nat) : Int) := by have := HZ0.out; omega
  exact ⟨HBN.out, Or.inr ⟨by have := HZ0.out; omega, congrArg (fun z : Int => Ending.returned (Value.int IntKind.i64 z)) hsum⟩⟩

set_option maxHeartbeats 800000 in
theorem toTerm_ok (w : World) (B : Nat) (d0 : List Nd) (v0 : Value) (hv0 : LfN w B v0 d0) (hB : B ≤ w.heap.size) (hl0 : szN d0 ≤ 1048576) :
    Calls Try.prog 10 #[.agg #[v0]] w (MkTerm w d0) := by
  obtain ⟨A0, cp0, rfl⟩ := hv0.len
  have HV0 := Lib.hid hv0
  clear hv0
  have HB := Lib.hid hB
  clear hB
  have HBN := Lib.hid (Below.refl w.heap.size w)
  go_enter Try.func10, Try.ntmps10
  go_wp2_with fail
  refine (toN_any _ B _ d0 ?_ ?_ hl0).mono ?_
  · exact (HV0.out.below HBN.out HB.out).below (B' := w.heap.size) (by repeat' (first | exact Below.refl _ _ | apply Below.drew | apply Below.setCell | apply Below.alloc | (simp; done) | omega | (simp; omega))) (Nat.le_trans HB.out HBN.out.size)
  · (have := HB.out; have := HBN.out.size; simp; omega)
  rintro e w2 ⟨vm0, rfl, b, om0⟩
  obtain ⟨Am0, cm0, rfl⟩ := om0.len
  have hstep : Below w.heap.size w w2 := Below.trans (by repeat' (first | exact Below.refl _ _ | apply Below.drew | apply Below.setCell | apply Below.alloc | (simp; done) | omega | (simp; omega))) (b.mono (by (first | exact Nat.le_refl _ | (simp; done) | (simp; omega))))
  replace HBN := Lib.hid (HBN.out.trans (hstep.mono HBN.out.size))
  have hzw2 : w.heap.size ≤ w2.heap.size := hstep.size
  have hp0 : w2.cell? ⟨w.heap.size, 0, none⟩ = some (.slice A0 d0.length cp0) := by have := b.cell (p := ⟨w.heap.size, 0, none⟩) (by first | (simp; done) | (simp; omega)); simpa [go_sem] using this
  have hlhp : w.heap.size < w2.heap.size := by have := b.size; simp at this; omega
  have hlhpq := hlhp
  have hr0 : w2.cell? ⟨w.heap.size + 1, 0, none⟩ = some (.slice none 0 0) := by have := b.cell (p := ⟨w.heap.size + 1, 0, none⟩) (by first | (simp; done) | (simp; omega)); simpa [go_sem] using this
  have hlhr : w.heap.size + 1 < w2.heap.size := by have := b.size; simp at this; omega
  have hlhrq := hlhr
  have ho0 : w2.cell? ⟨w.heap.size + 1 + 1, 0, none⟩ = some (.slice none 0 0) := by have := b.cell (p := ⟨w.heap.size + 1 + 1, 0, none⟩) (by first | (simp; done) | (simp; omega)); simpa [go_sem] using this
  have hlho : w.heap.size + 1 + 1 < w2.heap.size := by have := b.size; simp at this; omega
  have hlhoq := hlho
  have hpf : ∀ o, w2.frozen? ⟨w.heap.size, o, none⟩ = false := fun o => by have := b.frozen (p := ⟨w.heap.size, o, none⟩) (by first | (simp; done) | (simp; omega)); simpa [go_sem] using this
  have hrf : ∀ o, w2.frozen? ⟨w.heap.size + 1, o, none⟩ = false := fun o => by have := b.frozen (p := ⟨w.heap.size + 1, o, none⟩) (by first | (simp; done) | (simp; omega)); simpa [go_sem] using this
  have hof : ∀ o, w2.frozen? ⟨w.heap.size + 1 + 1, o, none⟩ = false := fun o => by have := b.frozen (p := ⟨w.heap.size + 1 + 1, o, none⟩) (by first | (simp; done) | (simp; omega)); simpa [go_sem] using this
  obtain ⟨SHOm0, HSHOm0, HOm0⟩ : ∃ S : Nat → Prop, Hid (∀ k, S k → w.heap.size + 3 ≤ k ∧ k < w2.heap.size) ∧ Hid (OwnN w2 S (.slice Am0 d0.length cm0) d0) := ⟨fun k => w.heap.size + 3 ≤ k ∧ k < w2.heap.size, Lib.hid (fun k hk => hk), Lib.hid (om0.mono (fun k hk hk2 => ⟨by have hk3 := hk; (try simp at hk3); omega, hk2⟩))⟩
  clear b hstep om0
  go_wp2
  refine bodyPost_ret (v := .agg #[.slice Am0 d0.length cm0]) (by simp [results, Try.results10, go_sem, hr0]) rfl ?_
  refine ⟨_, rfl, (by refine Below.trans HBN.out ?_; have hsz := HBN.out.size; repeat' (first | exact Below.refl _ _ | apply Below.drew | apply Below.setCell | apply Below.alloc | (simp; done) | omega | (simp; omega))), ?_⟩
  refine (HOm0.out.blocks (fun k hk hkl => ?_)).mono (fun k hk _ => by have := HSHOm0.out k hk; omega)
  have hk2 := HSHOm0.out k hk
  repeat (first | rw [blk_setCell_other _ _ _ _ (by simp; omega)] | rfl)

set_option maxHeartbeats 800000 in
theorem eqTerm_ok (w : World) (B : Nat) (d0 : List Nd) (v0 : Value) (u0 : Value) (hv0 : LfN w B v0 d0) (hu0 : LfN w B u0 d0) (hB : B ≤ w.heap.size) :
    Calls Try.prog 12 #[.agg #[v0], .agg #[u0]] w (SaysYes w) := by
  obtain ⟨A0, cp0, rfl⟩ := hv0.len
  have HV0 := Lib.hid hv0
  clear hv0
  obtain ⟨A'0, cq0, rfl⟩ := hu0.len
  have HU0 := Lib.hid hu0
  clear hu0
  have HB := Lib.hid hB
  clear hB
  have HBN := Lib.hid (Below.refl w.heap.size w)
  go_enter Try.func12, Try.ntmps12
  go_wp2_with fail
  refine (eqN_any _ B _ _ d0 ?_ ?_).mono ?_
  · exact (HV0.out.below HBN.out HB.out).below (B' := w.heap.size) (by repeat' (first | exact Below.refl _ _ | apply Below.drew | apply Below.setCell | apply Below.alloc | (simp; done) | omega | (simp; omega))) (Nat.le_trans HB.out HBN.out.size)
  · exact (HU0.out.below HBN.out HB.out).below (B' := w.heap.size) (by repeat' (first | exact Below.refl _ _ | apply Below.drew | apply Below.setCell | apply Below.alloc | (simp; done) | omega | (simp; omega))) (Nat.le_trans HB.out HBN.out.size)
  rintro e w2 ⟨rfl, b⟩
  have hstep : Below w.heap.size w w2 := Below.trans (by repeat' (first | exact Below.refl _ _ | apply Below.drew | apply Below.setCell | apply Below.alloc | (simp; done) | omega | (simp; omega))) (b.mono (by (first | exact Nat.le_refl _ | (simp; done) | (simp; omega))))
  replace HBN := Lib.hid (HBN.out.trans (hstep.mono HBN.out.size))
  have hzw2 : w.heap.size ≤ w2.heap.size := hstep.size
  have hp0 : w2.cell? ⟨w.heap.size, 0, none⟩ = some (.slice A0 d0.length cp0) := by have := b.cell (p := ⟨w.heap.size, 0, none⟩) (by first | (simp; done) | (simp; omega)); simpa [go_sem] using this
  have hlhp : w.heap.size < w2.heap.size := by have := b.size; simp at this; omega
  have hlhpq := hlhp
  have hq'0 : w2.cell? ⟨w.heap.size + 1, 0, none⟩ = some (.slice A'0 d0.length cq0) := by have := b.cell (p := ⟨w.heap.size + 1, 0, none⟩) (by first | (simp; done) | (simp; omega)); simpa [go_sem] using this
  have hlhq' : w.heap.size + 1 < w2.heap.size := by have := b.size; simp at this; omega
  have hlhq'q := hlhq'
  clear b hstep 
  go_wp2
  go_ret
  exact ⟨rfl, HBN.out⟩

set_option maxHeartbeats 800000 in
theorem markTerm_ok (w : World) (d0 : List Nd) (v0 : Value) (S0 : Nat → Prop) (k : Int) (ho0 : OwnN w S0 v0 d0) (h0 : 0 ≤ k) (hl : k + ((cntN d0 : Nat) : Int) ≤ 9223372036854775807) :
    Calls Try.prog 13 #[.agg #[v0], .int .i64 k] w fun e w' => e = .returned (.int .i64 (k + ((cntN d0 : Nat) : Int))) ∧ Touch (fun b => S0 b) w w' ∧ OwnN w' S0 v0 (mkN k d0) := by
  obtain ⟨A0, cp0, rfl⟩ := ho0.len
  have HOm0 := Lib.hid (ho0.mono (T := fun b => S0 b ∧ b < w.heap.size) (fun k a b => ⟨a, b⟩))
  clear ho0
  have HSm0 : Hid (∀ k, S0 k ∧ k < w.heap.size → 0 ≤ k ∧ k < w.heap.size) := Lib.hid (fun k hk => ⟨Nat.zero_le _, hk.2⟩)
  have HTT : Hid (Touch (fun b => S0 b) w w) := Lib.hid (Touch.refl _ _)
  have HBN := Lib.hid (Below.refl 0 w)
  go_enter Try.func13, Try.ntmps13
  go_wp2_with fail
  refine (markedN_any _ (fun b => S0 b ∧ b < w.heap.size) _ d0 k ?_ (by omega) (by omega)).mono ?_
  · exact HOm0.out.blocks (fun k hk _ => blk_alloc_lt _ _ _ hk.2)
  rintro e w2 ⟨h2, t, om⟩
  obtain ⟨z0, HZ0, hz0a, hz0b, rfl⟩ : ∃ z : Int, Hid (z = k + (cntN d0 : Nat)) ∧ 0 ≤ z ∧ z + (0) ≤ 9223372036854775807 ∧ e = .returned (.int .i64 z) := ⟨_, Lib.hid rfl, by omega, by omega, h2⟩
  have hp0 : w2.cell? ⟨w.heap.size, 0, none⟩ = some (.slice A0 d0.length cp0) := by have := t.cellAt (p := ⟨w.heap.size, 0, none⟩) (by simp) (fun h => by have := h.2; simp at this); simpa [go_sem] using this
  have hlp : w.heap.size < w2.heap.size := by have := t.size; simp at this; omega
  replace HTT := Lib.hid ((HTT.out.alloc _).trans (t.mono (fun k _ h => h.1)))
  replace HOm0 := Lib.hid om
  clear t om h2
  go_wp2
  go_ret
  have hsum : z0 = k + ((cntN d0 : Nat) : Int) := by have := HZ0.out; omega
  refine ⟨congrArg (fun z : Int => Ending.returned (Value.int IntKind.i64 z)) hsum, HTT.out, ?_⟩
  · exact HOm0.out.mono fun k h _ => h.1

set_option maxHeartbeats 800000 in
theorem heldTerm_ok (w : World) (B : Nat) (d0 : List Nd) (v0 : Value) (k : Int) (hv0 : LfN w B v0 (mkN k d0)) (hB : B ≤ w.heap.size) (h0 : 0 ≤ k) (hl : k + ((cntN d0 : Nat) : Int) ≤ 9223372036854775807) :
    Calls Try.prog 14 #[.agg #[v0], .int .i64 k] w (Found w k (cntN d0)) := by
  obtain ⟨A0, cp0, rfl⟩ := hv0.len
  rw [mkN_len] at *
  have HV0 := Lib.hid hv0
  clear hv0
  have HB := Lib.hid hB
  clear hB
  have HBN := Lib.hid (Below.refl w.heap.size w)
  go_enter Try.func14, Try.ntmps14
  go_wp2_with fail
  refine (heldN_any _ B _ d0 k ?_ (by omega) (by omega)).mono ?_
  · (exact (HV0.out.below HBN.out HB.out).below (B' := w.heap.size) (by repeat' (first | exact Below.refl _ _ | apply Below.drew | apply Below.setCell | apply Below.alloc | (simp; done) | omega | (simp; omega))) (Nat.le_trans HB.out HBN.out.size))
  rintro e w2 ⟨h2, b⟩
  have hstep : Below w.heap.size w w2 := Below.trans (by repeat' (first | exact Below.refl _ _ | apply Below.drew | apply Below.setCell | apply Below.alloc | (simp; done) | omega | (simp; omega))) (b.mono (by (first | exact Nat.le_refl _ | (simp; done) | (simp; omega))))
  replace HBN := Lib.hid (HBN.out.trans (hstep.mono HBN.out.size))
  have hzw2 : w.heap.size ≤ w2.heap.size := hstep.size
  have hp0 : w2.cell? ⟨w.heap.size, 0, none⟩ = some (.slice A0 d0.length cp0) := by have := b.cell (p := ⟨w.heap.size, 0, none⟩) (by first | (simp; done) | (simp; omega)); simpa [go_sem] using this
  have hlhp : w.heap.size < w2.heap.size := by have := b.size; simp at this; omega
  have hlhpq := hlhp
  clear b hstep 
  obtain ⟨z0, HZ0, hz0a, hz0b, rfl⟩ : ∃ z : Int, Hid (z = k + (cntN d0 : Nat)) ∧ 0 ≤ z ∧ z + (0) ≤ 9223372036854775807 ∧ e = .returned (.int .i64 z) := ⟨_, Lib.hid rfl, by omega, by omega, h2⟩
  clear h2
  go_wp2
  go_ret
  have hsum : z0 = k + ((cntN d0 : Nat) : Int) := by have := HZ0.out; omega
  exact ⟨congrArg (fun z : Int => Ending.returned (Value.int IntKind.i64 z)) hsum, HBN.out⟩

def MkTerm' (w0 w : World) (d0 : List Nd) (e : Ending) (w' : World) : Prop := ∃ (v0 : Value), e = .returned (.agg #[v0]) ∧ Hid (Below w.heap.size w w') ∧ Hid (Below w0.heap.size w0 w') ∧ Hid (LfN w' w'.heap.size v0 d0)
theorem toTerm_fr (w0 w : World) (H : Hid (Below w0.heap.size w0 w)) (d0 : List Nd) (v0 : Value) (hv0 : LfN w0 w0.heap.size v0 d0) (hl0 : szN d0 ≤ 1048576) :
    Calls Try.prog 10 #[.agg #[v0]] w (MkTerm' w0 w d0) :=
  (toTerm_ok w w0.heap.size d0 v0 (hv0.below H.out (Nat.le_refl _)) H.out.size hl0).mono fun _ _ h => by
    obtain ⟨x0, he, hb, o0⟩ := h
    exact ⟨x0, he, Lib.hid hb, Lib.hid (H.out.trans (hb.mono H.out.size)), Lib.hid o0.rd⟩
theorem eqTerm_fr (w0 w : World) (H : Hid (Below w0.heap.size w0 w)) (d0 : List Nd) (v0 : Value) (u0 : Value) (hv0 : LfN w0 w0.heap.size v0 d0) (hu0 : Hid (LfN w w.heap.size u0 d0)) :
    Calls Try.prog 12 #[.agg #[v0], .agg #[u0]] w (EqM' w0) :=
  (eqTerm_ok w w.heap.size d0 v0 u0 ((hv0.below H.out (Nat.le_refl _)).mono H.out.size) hu0.out (Nat.le_refl _)).mono fun _ _ ⟨he, hb⟩ => ⟨he, Lib.hid (H.out.trans (hb.mono H.out.size))⟩
end Go.Proofs.Ytiealgnmhjebeaa
