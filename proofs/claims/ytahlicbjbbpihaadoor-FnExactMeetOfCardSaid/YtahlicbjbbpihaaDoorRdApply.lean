/- The program's state of a reduction, and an operation applied to it. -/
import Derived.Test.YtahlicbjbbpihaaDoorRdOps
import Derived.Test.YtahlicbjbbpihaaDoorAppG
import Derived.Deep.RegionLaw
namespace Go.Proofs.YtahlicbjbbpihaaDoor
set_option maxRecDepth 100000
open Go Go.RowKit Go.Deep

abbrev tRd : TypeId := 118
def leads (l : List Nat) : List Value := l.map fun n => Value.int .i64 (n : Nat)
theorem leads_len (l : List Nat) : (leads l).length = l.length := by simp [leads]
/-- The state: the box rb of the struct, both grids, the leading columns. -/
structure RSt (w : World) (base : Nat) (Sa St : Nat → Prop) (rb : Nat) (p : Int) (va vt vl : Value) (a t : List (List Int)) (lead : List Nat) (fac : Int) : Prop where
  box : CellsAt w rb tRd [.int .i64 p, va, vt, vl, .int .i64 fac]
  a : OwG w tI tR Sa va a
  t : OwG w tI tR St vt t
  l : w.ownsRow 0 tI 1 vl lead.length (leads lead)
  ld : ∀ k, vl.ownBlock = some k → base ≤ k ∧ k ≠ rb ∧ ¬ Sa k ∧ ¬ St k
  hi : base ≤ rb
  sa : ∀ k, Sa k → base ≤ k ∧ k ≠ rb ∧ ¬ St k ∧ k < w.heap.size
  st : ∀ k, St k → k ≠ rb ∧ k < w.heap.size
section
variable {w w' : World} {base : Nat} {Sa St : Nat → Prop} {rb : Nat} {p : Int} {va vt vl : Value} {a t a2 t2 : List (List Int)} {lead : List Nat} {fac : Int}
theorem CellsAt.five {b : Nat} {ty : TypeId} {v0 v1 v2 v3 v4 : Value} (h : CellsAt w b ty [v0, v1, v2, v3, v4]) : w.cell? ⟨b, 0, none⟩ = some v0 ∧ w.cell? ⟨b, 1, none⟩ = some v1 ∧ w.cell? ⟨b, 2, none⟩ = some v2 ∧ w.cell? ⟨b, 3, none⟩ = some v3 ∧ w.cell? ⟨b, 4, none⟩ = some v4 ∧ (∀ o, w.frozen? ⟨b, o, none⟩ = false) ∧ b < w.heap.size :=
  ⟨h.cell (i := 0) (by simp), h.cell (i := 1) (by simp), h.cell (i := 2) (by simp), h.cell (i := 3) (by simp), h.cell (i := 4) (by simp), h.frozen, h.lt⟩
theorem RSt.frame (h : RSt w base Sa St rb p va vt vl a t lead fac) (hb : Below w.heap.size w w') : RSt w' base Sa St rb p va vt vl a t lead fac :=
  ⟨h.box.below hb h.box.lt, OwG.below h.a hb (fun _ _ hl => hl), OwG.below h.t hb (fun _ _ hl => hl), ownsRow_of_block h.l (fun g _ hl => hb.block g hl), h.ld, h.hi, fun k hk => ⟨(h.sa k hk).1, (h.sa k hk).2.1, (h.sa k hk).2.2.1, Nat.lt_of_lt_of_le (h.sa k hk).2.2.2 hb.size⟩, fun k hk => ⟨(h.st k hk).1, Nat.lt_of_lt_of_le (h.st k hk).2 hb.size⟩⟩
theorem RSt.wroteA (h : RSt w base Sa St rb p va vt vl a t lead fac) (ht : Touch Sa w w') (ho : OwG w' tI tR Sa va a2) : RSt w' base Sa St rb p va vt vl a2 t lead fac :=
  ⟨h.box.touch ht (fun hk => (h.sa _ hk).2.1 rfl), ho, h.t.blocks (fun k hk hl => ht.block k hl (fun h2 => (h.sa k h2).2.2.1 hk)), ownsRow_of_block h.l (fun g hg hl => ht.block g hl (h.ld g hg).2.2.1), h.ld, h.hi, fun k hk => ⟨(h.sa k hk).1, (h.sa k hk).2.1, (h.sa k hk).2.2.1, Nat.lt_of_lt_of_le (h.sa k hk).2.2.2 ht.size⟩, fun k hk => ⟨(h.st k hk).1, Nat.lt_of_lt_of_le (h.st k hk).2 ht.size⟩⟩
theorem RSt.wroteT (h : RSt w base Sa St rb p va vt vl a t lead fac) (ht : Touch St w w') (ho : OwG w' tI tR St vt t2) : RSt w' base Sa St rb p va vt vl a t2 lead fac :=
  ⟨h.box.touch ht (fun hk => (h.st _ hk).1 rfl), h.a.blocks (fun k hk hl => ht.block k hl (fun h2 => (h.sa k hk).2.2.1 h2)), ho, ownsRow_of_block h.l (fun g hg hl => ht.block g hl (h.ld g hg).2.2.2), h.ld, h.hi, fun k hk => ⟨(h.sa k hk).1, (h.sa k hk).2.1, (h.sa k hk).2.2.1, Nat.lt_of_lt_of_le (h.sa k hk).2.2.2 ht.size⟩, fun k hk => ⟨(h.st k hk).1, Nat.lt_of_lt_of_le (h.st k hk).2 ht.size⟩⟩
theorem RSt.setFac (h : RSt w base Sa St rb p va vt vl a t lead fac) (f : Int) : RSt (w.setCell ⟨rb, 4, none⟩ (.int .i64 f)) base Sa St rb p va vt vl a t lead f := by
  have hb : ∀ k, k ≠ rb → (w.setCell ⟨rb, 4, none⟩ (.int .i64 f)).heap[k]? = w.heap[k]? := fun k hk => blk_setCell_other _ _ _ _ (by dsimp only; exact hk)
  exact ⟨h.box.set 4 _, h.a.blocks (fun k hk _ => hb k (h.sa k hk).2.1), h.t.blocks (fun k hk _ => hb k (h.st k hk).1), ownsRow_of_block h.l (fun g hg _ => hb g (h.ld g hg).2.1), h.ld, h.hi, fun k hk => by have := h.sa k hk; rw [nblk_setCell]; exact this, fun k hk => by have := h.st k hk; rw [nblk_setCell]; exact this⟩
theorem RSt.drew (h : RSt w base Sa St rb p va vt vl a t lead fac) : RSt w.drew base Sa St rb p va vt vl a t lead fac := ⟨h.box, OwG.drew h.a, OwG.drew h.t, ownsRow_of_block h.l (fun _ _ _ => rfl), h.ld, h.hi, h.sa, h.st⟩
end
/-- The state has changed: a and t written in place, the factor another one. -/
def Rd (w : World) (base : Nat) (Sa St : Nat → Prop) (rb : Nat) (p : Int) (va vt vl : Value) (a t : List (List Int)) (lead : List Nat) (fac : Int) (e : Ending) (w' : World) : Prop :=
  e = .returned (.tuple #[]) ∧ Touch (fun k => Sa k ∨ St k ∨ k = rb) w w' ∧ RSt w' base Sa St rb p va vt vl a t lead fac
set_option maxHeartbeats 3200000 in
set_option maxRecDepth 100000 in
theorem apply_go (w : World) (base : Nat) (Sa St : Nat → Prop) (rb : Nat) (p : Int) (va vt vl : Value) (a t a2 t2 : List (List Int)) (lead : List Nat) (fac : Int) (k tg sr f : Int) (hk : k = 0 ∨ k = 1 ∨ k = 2) (h : RSt w base Sa St rb p va vt vl a t lead fac) (hidle : idleB k tg sr f = false)
    (h1 : 2 ≤ p) (h2 : p ≤ 97) (hf0 : 0 ≤ fac) (hf1 : fac < p) (hd0 : 0 ≤ detB p k f) (hd1 : detB p k f < p)
    (ha : ∀ w, (∀ k, Sa k → k < w.heap.size) → OwG w tI tR Sa va a → Calls Tryd.prog 143 #[.agg #[.int .i64 k, .int .i64 tg, .int .i64 sr, .int .i64 f], .int .i64 p, va] w (WroteG w Sa va a2))
    (ht : ∀ w, (∀ k, St k → k < w.heap.size) → OwG w tI tR St vt t → Calls Tryd.prog 143 #[.agg #[.int .i64 k, .int .i64 tg, .int .i64 sr, .int .i64 f], .int .i64 p, vt] w (WroteG w St vt t2)) :
    Calls Tryd.prog 141 #[.pointer (some ⟨rb, 0, none⟩), .agg #[.int .i64 k, .int .i64 tg, .int .i64 sr, .int .i64 f]] w (Rd w base Sa St rb p va vt vl a2 t2 lead (fac * detB p k f % p)) := by
  have HID := Lib.hid hidle
  have HH := Lib.hid h
  have HA := Lib.hid ha
  have HT := Lib.hid ht
  clear hidle h ha ht
  go_enter Tryd.func141, Tryd.ntmps141
  go_wp2_with fail
  refine (isIdle_any _ k tg sr f hk).mono ?_
  rintro e w1 ⟨rfl, b1⟩
  rw [HID.out]
  have HX := Lib.hid ((cellsAt_new w #[.int .i64 k, .int .i64 tg, .int .i64 sr, .int .i64 f] tO).below b1 (by simp))
  have HB1 := Lib.hid (Below.trans (((Below.refl w.heap.size w).alloc (Nat.le_refl _) (.cells #[.int .i64 k, .int .i64 tg, .int .i64 sr, .int .i64 f] tO))) (b1.mono (by simp)))
  have HS1 := Lib.hid (HH.out.frame HB1.out)
  have hrw := HH.out.box.lt
  clear b1
  obtain ⟨hr0, hr1, hr2, hr3, hr4, hrf, hrs⟩ := HS1.out.box.five
  have hx0 := HX.out.cell (i := 0) (by simp)
  have hx1 := HX.out.cell (i := 1) (by simp)
  have hx2 := HX.out.cell (i := 2) (by simp)
  have hx3 := HX.out.cell (i := 3) (by simp)
  go_wp2
  go_still_tail 9, (by kernel_rfl)
  change wpList _ _ _ _ _ w1.drew
  go_wp2_with fail
  refine (HA.out w1.drew (fun q hq => (HS1.out.sa q hq).2.2.2) (OwG.drew HS1.out.a)).mono ?_
  rintro e w2 ⟨rfl, t2', o2⟩
  have HS2 := Lib.hid (HS1.out.drew.wroteA t2' o2)
  have HX2 := Lib.hid ((CellsAt.drew HX.out).touch t2' (fun hq => by have := (HS1.out.sa _ hq); have := HH.out.sa _ hq; omega))
  have HT2 := Lib.hid (Touch.trans (S := fun k => Sa k ∨ St k ∨ k = rb) (a := w) (Touch.of_below HB1.out (fun q h1 h2 => absurd h2 (by omega))).drew (t2'.mono (fun q _ hq => Or.inl hq)))
  clear t2' o2 hr0 hr1 hr2 hr3 hr4 hrf hrs hx0 hx1 hx2 hx3
  obtain ⟨hr0, hr1, hr2, hr3, hr4, hrf, hrs⟩ := HS2.out.box.five
  have hx0 := HX2.out.cell (i := 0) (by simp)
  have hx1 := HX2.out.cell (i := 1) (by simp)
  have hx2 := HX2.out.cell (i := 2) (by simp)
  have hx3 := HX2.out.cell (i := 3) (by simp)
  go_wp2
  go_still_tail 9, (by kernel_rfl)
  change wpList _ _ _ _ _ w2.drew
  go_wp2_with fail
  refine (HT.out w2.drew (fun q hq => (HS2.out.st q hq).2) (OwG.drew HS2.out.t)).mono ?_
  rintro e w3 ⟨rfl, t3', o3⟩
  have HS3 := Lib.hid (HS2.out.drew.wroteT t3' o3)
  have HX3 := Lib.hid ((CellsAt.drew HX2.out).touch t3' (fun hq => by have := HH.out.st _ hq; omega))
  have HT3 := Lib.hid (HT2.out.drew.trans (t3'.mono (fun q _ hq => Or.inr (Or.inl hq))))
  clear t3' o3 hr0 hr1 hr2 hr3 hr4 hrf hrs hx0 hx1 hx2 hx3
  obtain ⟨hr0, hr1, hr2, hr3, hr4, hrf, hrs⟩ := HS3.out.box.five
  have hx0 := HX3.out.cell (i := 0) (by simp)
  have hx1 := HX3.out.cell (i := 1) (by simp)
  have hx2 := HX3.out.cell (i := 2) (by simp)
  have hx3 := HX3.out.cell (i := 3) (by simp)
  have hm0 : 0 ≤ fac * detB p k f := Int.mul_nonneg hf0 hd0
  have hm1 : fac * detB p k f ≤ 97 * 97 := Int.mul_le_mul (by omega) (by omega) hd0 (by omega)
  have hp0 : ¬ p = 0 := by omega
  have hwr : IntKind.i64.wrap (fac * detB p k f) = fac * detB p k f := Go.IntWalk.i64_in _ ⟨by omega, by omega⟩
  have htm : (fac * detB p k f).tmod p = fac * detB p k f % p := Int.tmod_eq_emod_of_nonneg hm0
  go_wp2
  go_region_law
    (first
      | (go_simp; go_at_call 144; refine (determinant_any _ p k tg sr f hk h1 h2).mono ?_; rintro e w4 ⟨rfl, b4⟩; have HS4 := Lib.hid (HS3.out.drew.frame b4); have hq0 := HS4.out.box.five.1; have hq4 := HS4.out.box.five.2.2.2.2.1; have hqf := HS4.out.box.five.2.2.2.2.2.1; have HT4 := Lib.hid (HT3.out.drew.trans (Touch.of_below (S := fun k => Sa k ∨ St k ∨ k = rb) b4 (fun q h1 h2 => absurd h2 (by omega))))))
  all_goals go_end0
  all_goals exact ⟨rfl, HT4.out.setCell (Or.inl (Or.inr (Or.inr rfl))) _, HS4.out.setFac _⟩
end Go.Proofs.YtahlicbjbbpihaaDoor
