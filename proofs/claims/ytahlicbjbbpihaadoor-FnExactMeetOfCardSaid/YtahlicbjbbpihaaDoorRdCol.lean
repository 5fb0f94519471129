/- The program's reduction: one column. -/
import Derived.Test.YtahlicbjbbpihaaDoorRdApply
import Derived.Test.YtahlicbjbbpihaaDoorFdWalks2
namespace Go.Proofs.YtahlicbjbbpihaaDoor
set_option maxRecDepth 100000
open Go Go.RowKit Go.Deep

/-- The state has changed; what was there below base, and not in St, is as it was. -/
def Rd2 (w : World) (base : Nat) (Sa St : Nat → Prop) (rb : Nat) (p : Int) (va vt vl : Value) (a t : List (List Int)) (lead : List Nat) (fac : Int) (e : Ending) (w' : World) : Prop :=
  e = .returned (.tuple #[]) ∧ Touch (fun k => base ≤ k ∨ St k) w w' ∧ RSt w' base Sa St rb p va vt vl a t lead fac
section
variable {w w' : World} {base : Nat} {Sa St : Nat → Prop} {rb : Nat} {p : Int} {va vt vl : Value} {a t : List (List Int)} {lead : List Nat} {fac : Int}
theorem Rd.to2 {e : Ending} {a0 t0 : List (List Int)} {fac0 : Int} (h0 : RSt w base Sa St rb p va vt vl a0 t0 lead fac0) (h : Rd w base Sa St rb p va vt vl a t lead fac e w') : Rd2 w base Sa St rb p va vt vl a t lead fac e w' :=
  ⟨h.1, h.2.1.mono (fun k _ hk => by
    rcases hk with hk | hk | hk
    · exact Or.inl (h0.sa k hk).1
    · exact Or.inr hk
    · rw [hk]; exact Or.inl h0.hi), h.2.2⟩
end
set_option maxHeartbeats 800000 in
theorem apply_idle (w : World) (base : Nat) (Sa St : Nat → Prop) (rb : Nat) (p : Int) (va vt vl : Value) (a t : List (List Int)) (lead : List Nat) (fac : Int) (k tg sr f : Int) (hk : k = 0 ∨ k = 1 ∨ k = 2) (h : RSt w base Sa St rb p va vt vl a t lead fac) (hidle : idleB k tg sr f = true) :
    Calls Tryd.prog 141 #[.pointer (some ⟨rb, 0, none⟩), .agg #[.int .i64 k, .int .i64 tg, .int .i64 sr, .int .i64 f]] w (Rd2 w base Sa St rb p va vt vl a t lead fac) := by
  have HID := Lib.hid hidle
  have HH := Lib.hid h
  clear hidle h
  go_enter Tryd.func141, Tryd.ntmps141
  go_wp2_with fail
  refine (isIdle_any _ k tg sr f hk).mono ?_
  rintro e w1 ⟨rfl, b1⟩
  rw [HID.out]
  have HB1 := Lib.hid (Below.trans (((Below.refl w.heap.size w).alloc (Nat.le_refl _) (.cells #[.int .i64 k, .int .i64 tg, .int .i64 sr, .int .i64 f] tO))) (b1.mono (by simp)))
  clear b1
  go_wp2
  go_end0
  exact ⟨rfl, Touch.of_below HB1.out (fun q h1 h2 => absurd h2 (by omega)), HH.out.frame HB1.out⟩
theorem apply_exch (w : World) (base : Nat) (Sa St : Nat → Prop) (rb : Nat) (p : Int) (va vt vl : Value) (a t : List (List Int)) (lead : List Nat) (fac : Int) (r i : Nat) (h : RSt w base Sa St rb p va vt vl a t lead fac) (h1 : 2 ≤ p) (h2 : p ≤ 97) (hf0 : 0 ≤ fac) (hf1 : fac < p)
    (hr : r < a.length) (hi : i < a.length) (ht : t.length = a.length) :
    Calls Tryd.prog 141 #[.pointer (some ⟨rb, 0, none⟩), .agg #[.int .i64 0, .int .i64 r, .int .i64 i, .int .i64 0]] w (Rd2 w base Sa St rb p va vt vl (swapL r i a) (swapL r i t) lead (if i = r then fac else fac * (p - 1) % p)) := by
  by_cases c : i = r
  · subst c
    rw [if_pos rfl, swapL_self hr, swapL_self (by rw [ht]; exact hr)]
    exact apply_idle w base Sa St rb p va vt vl a t lead fac 0 _ _ 0 (Or.inl rfl) h (by simp [idleB])
  · rw [if_neg c]
    refine (apply_go w base Sa St rb p va vt vl a t _ _ lead fac 0 r i 0 (Or.inl rfl) h (by simp [idleB]; omega) h1 h2 hf0 hf1 (by simp [detB]; omega) (by simp [detB]; omega) (fun w hS ho => applyTo_exch w Sa va p 0 r i a ho hS hr hi (fun e => c e.symm)) (fun w hS ho => applyTo_exch w St vt p 0 r i t ho hS (by rw [ht]; exact hr) (by rw [ht]; exact hi) (fun e => c e.symm))).mono fun e w' hh => ?_
    have := hh.to2 h
    simpa [detB] using this
theorem scaleAt_one {p : Int} {rows : List (List Int)} {r : Nat} (h : ∀ x, x ∈ rows.getD r [] → 0 ≤ x ∧ x < p) : scaleAt p r 1 rows = rows := by
  unfold scaleAt
  rw [scale_one h]
  apply List.ext_getElem?
  intro i
  rw [List.getElem?_set]
  by_cases c : r = i
  · subst c
    rw [if_pos rfl]
    by_cases h2 : r < rows.length
    · rw [if_pos h2, List.getD_eq_getElem?_getD, List.getElem?_eq_getElem h2]
      rfl
    · rw [if_neg h2, List.getElem?_eq_none (by omega)]
  · rw [if_neg c]
theorem set_axpy_zero {p : Int} {rows : List (List Int)} {r : Nat} {s : List Int} (h : ∀ x, x ∈ rows.getD r [] → 0 ≤ x ∧ x < p) : rows.set r (axpy p (rows.getD r []) 0 s) = rows := by
  rw [axpy_zero h]
  apply List.ext_getElem?
  intro i
  rw [List.getElem?_set]
  by_cases c : r = i
  · subst c
    rw [if_pos rfl]
    by_cases h2 : r < rows.length
    · rw [if_pos h2, List.getD_eq_getElem?_getD, List.getElem?_eq_getElem h2]
      rfl
    · rw [if_neg h2, List.getElem?_eq_none (by omega)]
  · rw [if_neg c]
theorem apply_mult (w : World) (base : Nat) (Sa St : Nat → Prop) (rb : Nat) (p : Int) (va vt vl : Value) (n c wd : Nat) (a t : List (List Int)) (lead : List Nat) (fac f : Int) (r : Nat) (h : RSt w base Sa St rb p va vt vl a t lead fac) (h1 : 2 ≤ p) (h2 : p ≤ 97) (hf0 : 0 ≤ fac) (hf1 : fac < p)
    (hg0 : 0 ≤ f) (hg1 : f < p) (hr : r < n) (ha : Mat p n c a) (ht : Mat p n wd t) (hn : n ≤ 1000000) (hc : c ≤ 1000000) (hw : wd ≤ 1000000) :
    Calls Tryd.prog 141 #[.pointer (some ⟨rb, 0, none⟩), .agg #[.int .i64 1, .int .i64 r, .int .i64 0, .int .i64 f]] w (Rd2 w base Sa St rb p va vt vl (scaleAt p r f a) (scaleAt p r f t) lead (fac * f % p)) := by
  by_cases c1 : f = 1
  · subst c1
    rw [scaleAt_one (ha.row hr).2, scaleAt_one (ht.row hr).2, Int.mul_one, Int.emod_eq_of_lt hf0 hf1]
    exact apply_idle w base Sa St rb p va vt vl a t lead fac 1 _ _ 1 (Or.inr (Or.inl rfl)) h (by simp [idleB])
  · refine (apply_go w base Sa St rb p va vt vl a t _ _ lead fac 1 r 0 f (Or.inr (Or.inl rfl)) h (by simp [idleB]; omega) h1 h2 hf0 hf1 (by simp [detB]; omega) (by simp [detB]; omega)
      (fun w hS ho => applyTo_mult w Sa va p f 0 r a ho (by rw [ha.1]; exact hr) (by rw [ha.1]; exact hn) h1 h2 hg0 hg1 ⟨by rw [(ha.row hr).1]; exact hc, (ha.row hr).2⟩)
      (fun w hS ho => applyTo_mult w St vt p f 0 r t ho (by rw [ht.1]; exact hr) (by rw [ht.1]; exact hn) h1 h2 hg0 hg1 ⟨by rw [(ht.row hr).1]; exact hw, (ht.row hr).2⟩)).mono fun e w' hh => ?_
    have := hh.to2 h
    simpa [detB] using this
theorem apply_add (w : World) (base : Nat) (Sa St : Nat → Prop) (rb : Nat) (p : Int) (va vt vl : Value) (n c wd : Nat) (a t : List (List Int)) (lead : List Nat) (fac f : Int) (r s : Nat) (h : RSt w base Sa St rb p va vt vl a t lead fac) (h1 : 2 ≤ p) (h2 : p ≤ 97) (hf0 : 0 ≤ fac) (hf1 : fac < p)
    (hg0 : 0 ≤ f) (hg1 : f < p) (hr : r < n) (hs : s < n) (hrs : s ≠ r) (ha : Mat p n c a) (ht : Mat p n wd t) (hn : n ≤ 1000000) (hc : c ≤ 1000000) (hw : wd ≤ 1000000) :
    Calls Tryd.prog 141 #[.pointer (some ⟨rb, 0, none⟩), .agg #[.int .i64 2, .int .i64 r, .int .i64 s, .int .i64 f]] w (Rd2 w base Sa St rb p va vt vl (a.set r (axpy p (a.getD r []) f (a.getD s []))) (t.set r (axpy p (t.getD r []) f (t.getD s []))) lead fac) := by
  by_cases c1 : f = 0
  · subst c1
    rw [set_axpy_zero (ha.row hr).2, set_axpy_zero (ht.row hr).2]
    exact apply_idle w base Sa St rb p va vt vl a t lead fac 2 _ _ 0 (Or.inr (Or.inr rfl)) h (by simp [idleB])
  · refine (apply_go w base Sa St rb p va vt vl a t _ _ lead fac 2 r s f (Or.inr (Or.inr rfl)) h (by simp [idleB]; omega) h1 h2 hf0 hf1 (by simp [detB]) (by simp [detB]; omega)
      (fun w hS ho => applyTo_add w Sa va p f r s a ho (by rw [ha.1]; exact hr) (by rw [ha.1]; exact hs) hrs (by rw [ha.1]; exact hn) h1 h2 hg0 hg1 ⟨by rw [(ha.row hr).1]; exact hc, (ha.row hr).2⟩ ⟨by rw [(ha.row hr).1, (ha.row hs).1], (ha.row hs).2⟩)
      (fun w hS ho => applyTo_add w St vt p f r s t ho (by rw [ht.1]; exact hr) (by rw [ht.1]; exact hs) hrs (by rw [ht.1]; exact hn) h1 h2 hg0 hg1 ⟨by rw [(ht.row hr).1]; exact hw, (ht.row hr).2⟩ ⟨by rw [(ht.row hr).1, (ht.row hs).1], (ht.row hs).2⟩)).mono fun e w' hh => ?_
    have := hh.to2 h
    simpa [detB, Int.emod_eq_of_lt hf0 hf1] using this
end Go.Proofs.YtahlicbjbbpihaaDoor
