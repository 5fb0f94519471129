/- The laws' helpers on matrices: a struct of a number of columns and a grid. -/
import Derived.Test.YtahlicbjbbpihaaDoorMarks
import Derived.Deep.RegionHeld3
namespace Go.Proofs.YtahlicbjbbpihaaDoor
set_option maxRecDepth 100000
open Go Go.RowKit Go.Deep

/-- A matrix as a value: its columns and a slice. -/
def MadeM (w : World) (c : Int) (rows : List (List Int)) (e : Ending) (w' : World) : Prop := ∃ v, e = .returned (.agg #[.int .i64 c, v]) ∧ Below w.heap.size w w' ∧ OwG w' tI tR (fun b => w.heap.size ≤ b) v rows
theorem OwG.len {w : World} {ti ts : TypeId} {S : Nat → Prop} {v : Value} {rows : List (List Int)} (h : OwG w ti ts S v rows) : ∃ A c, v = .slice A rows.length c := by
  obtain ⟨A, c, e, _⟩ := h
  exact ⟨A, c, e⟩
theorem RdG.len {w : World} {B : Nat} {v : Value} {rows : List (List Int)} (h : RdG w B v rows) : ∃ A c, v = .slice A rows.length c := by
  obtain ⟨A, c, e, _⟩ := h
  exact ⟨A, c, e⟩
theorem decide_and' {a b : Prop} [Decidable a] [Decidable b] : decide (a ∧ b) = (decide a && decide b) := by simp
/-- Too many, or as many fewer as there are rows and ints; a struct was boxed. -/
def SzRetM (left : Int) (rows : List (List Int)) (w : World) (e : Ending) (w' : World) : Prop := Below w.heap.size w w' ∧ (e = .returned (.int .i64 (-1)) ∨ (((rows.length + tot rows : Nat) : Int) ≤ left ∧ e = .returned (.int .i64 (left - (rows.length + tot rows : Nat)))))
set_option maxHeartbeats 400000 in
theorem szMatrix_any (w : World) (B : Nat) (v : Value) (c : Int) (rows : List (List Int)) (left : Int) (hv : RdG w B v rows) (hB : B ≤ w.heap.size) (h0 : 0 ≤ left) (h1 : left ≤ 1000000000) (hn : rows.length ≤ 9223372036854775807) (hr : ∀ r, r < rows.length → (rows.getD r []).length ≤ 9223372036854775807) :
    Calls Tryd.prog 34 #[.agg #[.int .i64 c, v], .int .i64 left] w (SzRetM left rows w) := by
  obtain ⟨A, cp, rfl⟩ := hv.len
  have HV := Lib.hid hv
  have HR := Lib.hid hr
  have HB := Lib.hid hB
  clear hv hr hB
  go_enter Tryd.func34, Tryd.ntmps34
  go_wp2_with fail
  refine (szIntSS_any _ B _ rows _ ?_ h0 h1 hn HR.out).mono ?_
  · exact HV.out.below ((Below.refl _ _).alloc (Nat.le_refl _) _) HB.out
  rintro e w2 ⟨rfl, rfl | ⟨hle, rfl⟩⟩
  · go_wp2
    go_ret
    exact ⟨(Below.refl _ _).alloc (Nat.le_refl _) _, Or.inl rfl⟩
  · have hge : ¬ left - ((rows.length + tot rows : Nat) : Int) < 0 := by omega
    generalize hz : ((rows.length + tot rows : Nat) : Int) = z at hge hle
    have HZ := Lib.hid hz
    have HLE := Lib.hid hle
    clear hle hz
    go_wp2
    go_ret
    refine ⟨(Below.refl _ _).alloc (Nat.le_refl _) _, Or.inr ⟨by rw [HZ.out]; exact HLE.out, by rw [HZ.out]; rfl⟩⟩
set_option maxHeartbeats 400000 in
theorem toMatrix_any (w : World) (B : Nat) (v : Value) (c : Int) (rows : List (List Int)) (hv : RdG w B v rows) (hB : B ≤ w.heap.size) (hl : rows.length ≤ 1000000000) (hr : ∀ r, r < rows.length → (rows.getD r []).length ≤ 1000000000) :
    Calls Tryd.prog 36 #[.agg #[.int .i64 c, v]] w (MadeM w c rows) := by
  obtain ⟨A, cp, rfl⟩ := hv.len
  have HV := Lib.hid hv
  have HR := Lib.hid hr
  have HB := Lib.hid hB
  clear hv hr hB
  go_enter Tryd.func36, Tryd.ntmps36
  go_wp2_with fail
  refine (toIntSS_any _ B _ rows ?_ ?_ hl HR.out).mono ?_
  · refine HV.out.below (B' := w.heap.size) ?_ HB.out
    repeat' (first | exact Below.refl _ _ | apply Below.setCell | apply Below.alloc | (simp; done) | (simp; omega))
  · have := HB.out
    simp
    omega
  rintro e w2 ⟨v2, rfl, b2, o2⟩
  obtain ⟨A2, c2, rfl⟩ := o2.len
  have HB2 := Lib.hid b2
  have HO2 := Lib.hid o2
  have h0 : w2.cell? ⟨w.heap.size + 1 + 1, 0, none⟩ = some (.int .i64 c) := by have := b2.cell (p := ⟨w.heap.size + 1 + 1, 0, none⟩) (by simp); simpa [go_sem] using this
  have h1 : w2.cell? ⟨w.heap.size + 1 + 1, 1, none⟩ = some (.slice none 0 0) := by have := b2.cell (p := ⟨w.heap.size + 1 + 1, 1, none⟩) (by simp); simpa [go_sem] using this
  have h2 : ∀ o, w2.frozen? ⟨w.heap.size + 1 + 1, o, none⟩ = false := fun o => by have := b2.frozen (p := ⟨w.heap.size + 1 + 1, o, none⟩) (by simp); simpa [go_sem] using this
  have h3 : w2.cell? ⟨w.heap.size + 1, 0, none⟩ = some (.int .i64 0) := by have := b2.cell (p := ⟨w.heap.size + 1, 0, none⟩) (by simp); simpa [go_sem] using this
  have h4 : w2.cell? ⟨w.heap.size + 1, 1, none⟩ = some (.slice none 0 0) := by have := b2.cell (p := ⟨w.heap.size + 1, 1, none⟩) (by simp); simpa [go_sem] using this
  have h5 : ∀ o, w2.frozen? ⟨w.heap.size + 1, o, none⟩ = false := fun o => by have := b2.frozen (p := ⟨w.heap.size + 1, o, none⟩) (by simp); simpa [go_sem] using this
  clear b2 o2
  go_wp2
  refine bodyPost_ret (v := .agg #[.int .i64 c, .slice A2 rows.length c2]) (by simp [results, Tryd.results36, go_sem, h3, h4]) rfl ?_
  refine ⟨_, rfl, ?_, ?_⟩
  · have hb : Below w.heap.size w w2 := Below.trans (by repeat' (first | exact Below.refl _ _ | apply Below.setCell | apply Below.alloc | (simp; done) | (simp; omega))) (HB2.out.mono (by simp; omega))
    exact ((hb.setCell (by simp; omega) _).setCell (by simp) _).setCell (by simp) _
  · have o3 := (HO2.out.mono (T := fun b => w.heap.size + 1 + 1 < b) (fun k hk _ => by simp at hk; omega))
    refine (o3.blocks (fun k hk _ => ?_)).mono (fun k hk _ => by omega)
    rw [blk_setCell_other _ _ _ _ (by simp; omega), blk_setCell_other _ _ _ _ (by simp; omega), blk_setCell_other _ _ _ _ (by simp; omega)]

set_option maxHeartbeats 400000 in
theorem eqMatrix_any (w : World) (B : Nat) (va vb : Value) (c d : Int) (xs ys : List (List Int)) (ha : RdG w B va xs) (hb : RdG w B vb ys) (hB : B ≤ w.heap.size) (hl : xs.length ≤ 9223372036854775807) (hr : ∀ r, r < xs.length → (xs.getD r []).length ≤ 9223372036854775807) :
    Calls Tryd.prog 38 #[.agg #[.int .i64 c, va], .agg #[.int .i64 d, vb]] w fun e w' => e = .returned (.bool (decide (c = d ∧ xs = ys))) ∧ Below w.heap.size w w' := by
  obtain ⟨A, cp, rfl⟩ := ha.len
  obtain ⟨A', cp', rfl⟩ := hb.len
  have HA := Lib.hid ha
  have HB := Lib.hid hb
  have HR := Lib.hid hr
  have HBB := Lib.hid hB
  clear ha hb hr hB
  by_cases hcd : c = d
  · subst hcd
    have hq : ((c : Int) != c) = false := by simp
    by_cases hxy : xs = ys
    · have HX := Lib.hid hxy
      have HD := Lib.hid (show decide (xs = ys) = true by simpa using hxy)
      clear hxy
      go_enter Tryd.func38, Tryd.ntmps38
      go_wp2_with fail
      refine (eqIntSS_any _ B _ _ xs ys ?_ ?_ hl HR.out).mono ?_
      · exact HA.out.below (B' := w.heap.size) (by repeat' (first | exact Below.refl _ _ | apply Below.alloc | (simp; done) | (simp; omega))) HBB.out
      · exact HB.out.below (B' := w.heap.size) (by repeat' (first | exact Below.refl _ _ | apply Below.alloc | (simp; done) | (simp; omega))) HBB.out
      rintro e w2 ⟨rfl, n, rfl⟩
      rw [HD.out]
      go_wp2
      go_ret
      refine ⟨by rw [HX.out]; simp, ?_⟩
      exact below_drewN (by repeat' (first | exact Below.refl _ _ | apply Below.alloc | (simp; done) | (simp; omega)))
    · have HX := Lib.hid (show decide (c = c ∧ xs = ys) = false by simpa using hxy)
      have HD := Lib.hid (show decide (xs = ys) = false by simpa using hxy)
      clear hxy
      go_enter Tryd.func38, Tryd.ntmps38
      go_wp2_with fail
      refine (eqIntSS_any _ B _ _ xs ys ?_ ?_ hl HR.out).mono ?_
      · exact HA.out.below (B' := w.heap.size) (by repeat' (first | exact Below.refl _ _ | apply Below.alloc | (simp; done) | (simp; omega))) HBB.out
      · exact HB.out.below (B' := w.heap.size) (by repeat' (first | exact Below.refl _ _ | apply Below.alloc | (simp; done) | (simp; omega))) HBB.out
      rintro e w2 ⟨rfl, n, rfl⟩
      rw [HD.out]
      go_wp2
      go_ret
      refine ⟨by rw [HX.out]; rfl, ?_⟩
      exact below_drewN (by repeat' (first | exact Below.refl _ _ | apply Below.alloc | (simp; done) | (simp; omega)))
  · have hq : ((c : Int) != d) = true := by simp [hcd]
    have HX := Lib.hid (show decide (c = d ∧ xs = ys) = false by simp [hcd])
    clear hcd
    go_enter Tryd.func38, Tryd.ntmps38
    go_wp2
    go_ret
    refine ⟨by rw [HX.out]; rfl, ?_⟩
    repeat' (first | exact Below.refl _ _ | apply Below.alloc | (simp; done) | (simp; omega))

/-- The matrix v, marked from k on. -/
def MarkM (w : World) (S : Nat → Prop) (v : Value) (k : Int) (rows : List (List Int)) (e : Ending) (w' : World) : Prop :=
  e = .returned (.int .i64 (k + tot rows)) ∧ Touch S w w' ∧ OwG w' tI tR S v (marksG k rows)
set_option maxHeartbeats 400000 in
theorem markMatrix_any (w : World) (S : Nat → Prop) (v : Value) (c : Int) (rows : List (List Int)) (k : Int) (hv : OwG w tI tR S v rows) (h0 : 0 ≤ k) (hl : k + tot rows ≤ 9223372036854775807) (hn : rows.length ≤ 9223372036854775807) :
    Calls Tryd.prog 39 #[.agg #[.int .i64 c, v], .int .i64 k] w (MarkM w S v k rows) := by
  obtain ⟨A, cp, rfl⟩ := hv.len
  have HV := Lib.hid (hv.mono (T := fun b => S b ∧ b < w.heap.size) (fun k a b => ⟨a, b⟩))
  clear hv
  go_enter Tryd.func39, Tryd.ntmps39
  go_wp2_with fail
  refine (markG_any _ (fun b => S b ∧ b < w.heap.size) _ rows _ ?_ h0 hl hn).mono ?_
  · exact HV.out.blocks (fun k hk _ => blk_alloc_lt _ _ _ hk.2)
  rintro e w2 ⟨rfl, t2, z2, o2⟩
  have HT := Lib.hid t2
  have HO := Lib.hid o2
  clear t2 z2 o2
  go_wp2
  go_ret
  exact ⟨rfl, ((Touch.refl _ _).alloc _).trans (HT.out.mono fun k _ h => h.1), HO.out.mono fun k h _ => h.1⟩
theorem Touch.cellAt {S : Nat → Prop} {w w' : World} (h : Touch S w w') {p : Addr} (hp : p.block < w.heap.size) (hs : ¬ S p.block) : w'.cell? p = w.cell? p := World.cell?_of_block (w := w) (h.block p.block hp hs)
/-! ### What a function returns: its data, in memory of its own. -/
def RetMB (w : World) (c : Int) (rows : List (List Int)) (ok : Bool) (e : Ending) (w' : World) : Prop :=
  ∃ v, e = .returned (.tuple #[.agg #[.int .i64 c, v], .bool ok]) ∧ Below w.heap.size w w' ∧ OwG w' tI tR (fun b => w.heap.size ≤ b) v rows
def RetMMB (w : World) (c0 : Int) (rows0 : List (List Int)) (c1 : Int) (rows1 : List (List Int)) (ok : Bool) (e : Ending) (w' : World) : Prop :=
  ∃ (v0 v1 : Value) (T0 T1 : Nat → Prop), e = .returned (.tuple #[.agg #[.int .i64 c0, v0], .agg #[.int .i64 c1, v1], .bool ok]) ∧ Below w.heap.size w w' ∧ (∀ k, T0 k → w.heap.size ≤ k) ∧ (∀ k, T1 k → w.heap.size ≤ k) ∧ (∀ k, T0 k → T1 k → False) ∧ OwG w' tI tR T0 v0 rows0 ∧ OwG w' tI tR T1 v1 rows1
def RetIB (w : World) (n : Int) (ok : Bool) (e : Ending) (w' : World) : Prop := e = .returned (.tuple #[.int .i64 n, .bool ok]) ∧ Below w.heap.size w w'
def RetRB (w : World) (xs : List Int) (ok : Bool) (e : Ending) (w' : World) : Prop :=
  ∃ v, e = .returned (.tuple #[v, .bool ok]) ∧ Below w.heap.size w w' ∧ OwR w' tI (fun b => w.heap.size ≤ b) v xs
def RetGB (w : World) (rows : List (List Int)) (ok : Bool) (e : Ending) (w' : World) : Prop :=
  ∃ v, e = .returned (.tuple #[v, .bool ok]) ∧ Below w.heap.size w w' ∧ OwG w' tI tR (fun b => w.heap.size ≤ b) v rows

/-! ### Inside a region that draws its order: the world at hand has come from w0, below whose size nothing turned. -/
def MadeM' (w0 w : World) (c : Int) (rows : List (List Int)) (e : Ending) (w' : World) : Prop := ∃ v, e = .returned (.agg #[.int .i64 c, v]) ∧ Hid (Below w.heap.size w w') ∧ Hid (Below w0.heap.size w0 w') ∧ Hid (OwG w' tI tR (fun b => w.heap.size ≤ b) v rows)
theorem toMatrix_from (w0 w : World) (H : Hid (Below w0.heap.size w0 w)) (v : Value) (c : Int) (rows : List (List Int)) (hv : RdG w0 w0.heap.size v rows) (hl : rows.length ≤ 1000000000) (hr : ∀ r, r < rows.length → (rows.getD r []).length ≤ 1000000000) :
    Calls Tryd.prog 36 #[.agg #[.int .i64 c, v]] w (MadeM' w0 w c rows) :=
  (toMatrix_any w w0.heap.size v c rows (hv.below H.out (Nat.le_refl _)) H.out.size hl hr).mono fun _ _ ⟨v, he, hb, ho⟩ => ⟨v, he, Lib.hid hb, Lib.hid (H.out.trans (hb.mono H.out.size)), Lib.hid ho⟩
theorem held1 {w0 w' : World} {a : Nat} {u0 u1 : Value} (H : Hid (Below w0.heap.size w0 w')) (h0 : w0.cell? ⟨a, 0, none⟩ = some u0) (h1 : w0.cell? ⟨a, 1, none⟩ = some u1) (ha : a < w0.heap.size) :
    w'.cell? ⟨a, 0, none⟩ = some u0 ∧ w'.cell? ⟨a, 1, none⟩ = some u1 ∧ Hid (Below w0.heap.size w0 w') :=
  ⟨(H.out.cell (p := ⟨a, 0, none⟩) ha).trans h0, (H.out.cell (p := ⟨a, 1, none⟩) ha).trans h1, H⟩
theorem held2 {w0 w' : World} {a b : Nat} {u0 u1 u2 u3 : Value} (H : Hid (Below w0.heap.size w0 w')) (h0 : w0.cell? ⟨a, 0, none⟩ = some u0) (h1 : w0.cell? ⟨a, 1, none⟩ = some u1) (ha : a < w0.heap.size)
    (h2 : w0.cell? ⟨b, 0, none⟩ = some u2) (h3 : w0.cell? ⟨b, 1, none⟩ = some u3) (hb : b < w0.heap.size) :
    w'.cell? ⟨a, 0, none⟩ = some u0 ∧ w'.cell? ⟨a, 1, none⟩ = some u1 ∧ w'.cell? ⟨b, 0, none⟩ = some u2 ∧ w'.cell? ⟨b, 1, none⟩ = some u3 ∧ Hid (Below w0.heap.size w0 w') :=
  ⟨(H.out.cell (p := ⟨a, 0, none⟩) ha).trans h0, (H.out.cell (p := ⟨a, 1, none⟩) ha).trans h1, (H.out.cell (p := ⟨b, 0, none⟩) hb).trans h2, (H.out.cell (p := ⟨b, 1, none⟩) hb).trans h3, H⟩
/-- Two matrices are compared, one of which lies where w0 left it, the other one just made. -/
def EqM' (w0 : World) (e : Ending) (w' : World) : Prop := e = .returned (.bool true) ∧ Hid (Below w0.heap.size w0 w')
theorem OwR.below {w w' : World} {ti : TypeId} {S : Nat → Prop} {v : Value} {xs : List Int} {B : Nat} (h : OwR w ti S v xs) (hb : Below B w w') (hs : ∀ k, S k → k < w.heap.size → k < B) : OwR w' ti S v xs := h.blocks fun k hk hl _ _ => hb.block k (hs k hk hl)
theorem eqMatrix_from (w0 w : World) (H : Hid (Below w0.heap.size w0 w)) (S : Nat → Prop) (v u : Value) (c : Int) (rows : List (List Int)) (hv : RdG w0 w0.heap.size v rows) (hu : Hid (OwG w tI tR S u rows)) (hl : rows.length ≤ 9223372036854775807) (hr : ∀ r, r < rows.length → (rows.getD r []).length ≤ 9223372036854775807) :
    Calls Tryd.prog 38 #[.agg #[.int .i64 c, v], .agg #[.int .i64 c, u]] w (EqM' w0) :=
  (eqMatrix_any w w.heap.size v u c c rows rows ((hv.below H.out (Nat.le_refl _)).mono H.out.size) hu.out.readB (Nat.le_refl _) hl hr).mono fun _ _ ⟨he, hb⟩ => ⟨by rw [he]; simp, Lib.hid (H.out.trans (hb.mono H.out.size))⟩
end Go.Proofs.YtahlicbjbbpihaaDoor
