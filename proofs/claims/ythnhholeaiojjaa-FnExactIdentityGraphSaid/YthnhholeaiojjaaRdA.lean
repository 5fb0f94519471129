/- RdOps RdApply RdCol RdStep in one text. -/
import Derived.Test.YthnhholeaiojjaaMem
import Derived.Test.YthnhholeaiojjaaMxB
import Derived.Test.YthnhholeaiojjaaMath
import Derived.Deep.RegionHeld3
import Derived.StillTailTactics
import Derived.BigRegion
import Derived.Deep.QuietTactic
import Derived.BigQuiet
import Derived.Deep.RegionLaw
import Derived.Test.YthnhholeaiojjaaFdWalks2
import Derived.OwnWalk
/-! Row operations of the program: what each does to a grid of one's own. -/
namespace Go.Proofs.Ythnhholeaiojjaa
set_option maxRecDepth 100000
open Go Go.RowKit Go.Deep

/-- Two rows' slices exchanged. -/
theorem OwG.swap {w : World} {ti ts : TypeId} {S : Nat → Prop} {v : Value} {rows : List (List Int)} (h : OwG w ti ts S v rows) {r s : Nat} (hr : r < rows.length) (hs : s < rows.length) :
    ∃ g c A1 l1 c1 A2 l2 c2, v = .slice (some ⟨g, 0, none⟩) rows.length c ∧ S g ∧ g < w.heap.size ∧ w.cell? ⟨g, r, none⟩ = some (.slice A1 l1 c1) ∧ w.cell? ⟨g, s, none⟩ = some (.slice A2 l2 c2) ∧ (∀ o, w.frozen? ⟨g, o, none⟩ = false) ∧
      OwG ((w.setCell ⟨g, r, none⟩ (.slice A2 l2 c2)).setCell ⟨g, s, none⟩ (.slice A1 l1 c1)) ti ts S v (swapL r s rows) := by
  obtain ⟨A, c, e, kc_c, h⟩ := h
  rcases h with h | ⟨g, vs, e2, h3⟩
  · subst h
    exact absurd hr (Nat.not_lt_zero _)
  · subst e2
    have hrv : r < vs.length := by rw [h3.len]; exact hr
    have hsv : s < vs.length := by rw [h3.len]; exact hs
    obtain ⟨A1, c1, hu1⟩ := (h3.row r hr).len
    obtain ⟨A2, c2, hu2⟩ := (h3.row s hs).len
    refine ⟨g, c, A1, _, c1, A2, _, c2, e, h3.inS, h3.outer.lt, by rw [← hu1]; exact h3.cell hr, by rw [← hu2]; exact h3.cell hs, h3.outer.frozen, some ⟨g, 0, none⟩, c, by rw [swapL_len]; exact e, by rw [swapL_len]; exact kc_c, Or.inr ⟨g, (vs.set r (vs.getD s .nilFunc)).set s (vs.getD r .nilFunc), rfl, ?_⟩⟩
    rw [← hu1, ← hu2]
    -- where row m of the new grid comes from
    let f : Nat → Nat := fun m => if m = r then s else if m = s then r else m
    have hf : ∀ m, m < rows.length → f m < rows.length := fun m hm => by
      show (if m = r then s else if m = s then r else m) < rows.length
      split
      · exact hs
      · split
        · exact hr
        · exact hm
    have hinj : ∀ m n, m ≠ n → f m ≠ f n := fun m n hmn => by
      show (if m = r then s else if m = s then r else m) ≠ (if n = r then s else if n = s then r else n)
      (repeat' split) <;> omega
    have R : ∀ m, (swapL r s rows).getD m [] = rows.getD (f m) [] := fun m => by
      rw [swapL_get hr hs]
      show _ = rows.getD (if m = r then s else if m = s then r else m) []
      split
      · rfl
      · split <;> rfl
    have V : ∀ m, ((vs.set r (vs.getD s .nilFunc)).set s (vs.getD r .nilFunc)).getD m .nilFunc = vs.getD (f m) .nilFunc := fun m => by
      rw [set_getD _ _ _ _ _ (by rw [List.length_set]; exact hsv), set_getD _ _ _ _ _ hrv]
      show _ = vs.getD (if m = r then s else if m = s then r else m) .nilFunc
      by_cases c1 : s = m
      · by_cases c2 : m = r
        · rw [if_pos c1, if_pos c2, ← c2, c1]
        · rw [if_pos c1, if_neg c2, if_pos c1.symm]
      · rw [if_neg c1]
        by_cases c2 : r = m
        · rw [if_pos c2, if_pos c2.symm]
        · rw [if_neg c2, if_neg (fun e => c2 e.symm), if_neg (fun e => c1 e.symm)]
    have hb : ∀ k, k ≠ g → ((w.setCell ⟨g, r, none⟩ (vs.getD s .nilFunc)).setCell ⟨g, s, none⟩ (vs.getD r .nilFunc)).heap[k]? = w.heap[k]? := fun k hk => by
      rw [blk_setCell_other _ _ _ _ (by dsimp only; exact hk), blk_setCell_other _ _ _ _ (by dsimp only; exact hk)]
    refine ⟨(h3.outer.set r _).set s _, h3.inS, by simp [swapL, h3.len], fun m hm => ?_, fun m hm hx => ?_, fun m n hm hn hmn hxm hxn => ?_⟩
    · rw [swapL_len] at hm
      rw [R, V]
      exact (h3.row _ (hf m hm)).blocks fun k _ _ hx e => hb k (by rw [e]; exact h3.off _ (hf m hm) hx)
    · rw [swapL_len] at hm
      rw [R] at hx
      rw [V]
      exact h3.off _ (hf m hm) hx
    · rw [swapL_len] at hm hn
      rw [R] at hxm hxn
      rw [V, V]
      exact h3.apart _ _ (hf m hm) (hf n hn) (hinj m n hmn) hxm hxn

def idleB (k t s f : Int) : Bool := if k = 0 then decide (t = s) else if k = 1 then decide (f = 1) else decide (f = 0)
def detB (p k f : Int) : Int := if k = 0 then p - 1 else if k = 1 then f else 1
/-- The grid was changed in place. -/
def WroteG (w : World) (S : Nat → Prop) (v : Value) (rows : List (List Int)) (e : Ending) (w' : World) : Prop := e = .returned (.tuple #[]) ∧ Touch S w w' ∧ OwG w' tI tR S v rows
end Go.Proofs.Ythnhholeaiojjaa

/-! The program's state of a reduction, and an operation applied to it. -/
namespace Go.Proofs.Ythnhholeaiojjaa
open Go Go.RowKit Go.Deep

def leads (l : List Nat) : List Value := l.map fun n => Value.int .i64 (n : Nat)
theorem leads_len (l : List Nat) : (leads l).length = l.length := by simp [leads]
section
variable {w w' : World} {base : Nat} {Sa St : Nat → Prop} {rb : Nat} {p : Int} {va vt vl : Value} {a t a2 t2 : List (List Int)} {lead : List Nat} {fac : Int}
theorem CellsAt.five {b : Nat} {ty : TypeId} {v0 v1 v2 v3 v4 : Value} (h : CellsAt w b ty [v0, v1, v2, v3, v4]) : w.cell? ⟨b, 0, none⟩ = some v0 ∧ w.cell? ⟨b, 1, none⟩ = some v1 ∧ w.cell? ⟨b, 2, none⟩ = some v2 ∧ w.cell? ⟨b, 3, none⟩ = some v3 ∧ w.cell? ⟨b, 4, none⟩ = some v4 ∧ (∀ o, w.frozen? ⟨b, o, none⟩ = false) ∧ b < w.heap.size :=
  ⟨h.cell (i := 0) (by simp), h.cell (i := 1) (by simp), h.cell (i := 2) (by simp), h.cell (i := 3) (by simp), h.cell (i := 4) (by simp), h.frozen, h.lt⟩
end
end Go.Proofs.Ythnhholeaiojjaa

/-! The program's reduction: one column. -/
namespace Go.Proofs.Ythnhholeaiojjaa
open Go Go.RowKit Go.Deep

section
variable {w w' : World} {base : Nat} {Sa St : Nat → Prop} {rb : Nat} {p : Int} {va vt vl : Value} {a t : List (List Int)} {lead : List Nat} {fac : Int}
end
theorem scaleAt_one {p : Int} {rows : List (List Int)} {r : Nat} (h : ∀ x, x ∈ rows.getD r [] → 0 ≤ x ∧ x < p) : scaleAt p r 1 rows = rows := by
  unfold scaleAt
  rw [scale_one h]
  apply List.ext_getElem?
  intro i
  rw [List.getElem?_set]
  by_cases c : r = i
  · subst c
    rw [if_pos rfl]
    by_cases h2 : r < rows.length
    · rw [if_pos h2, List.getD_eq_getElem?_getD, List.getElem?_eq_getElem h2]
      rfl
    · rw [if_neg h2, List.getElem?_eq_none (by omega)]
  · rw [if_neg c]
theorem set_axpy_zero {p : Int} {rows : List (List Int)} {r : Nat} {s : List Int} (h : ∀ x, x ∈ rows.getD r [] → 0 ≤ x ∧ x < p) : rows.set r (axpy p (rows.getD r []) 0 s) = rows := by
  rw [axpy_zero h]
  apply List.ext_getElem?
  intro i
  rw [List.getElem?_set]
  by_cases c : r = i
  · subst c
    rw [if_pos rfl]
    by_cases h2 : r < rows.length
    · rw [if_pos h2, List.getD_eq_getElem?_getD, List.getElem?_eq_getElem h2]
      rfl
    · rw [if_neg h2, List.getElem?_eq_none (by omega)]
  · rw [if_neg c]
end Go.Proofs.Ythnhholeaiojjaa

/-! The program's reduction of one column, whole. -/
namespace Go.Proofs.Ythnhholeaiojjaa
open Go Go.RowKit Go.Deep

/-- The first k rows cleaned. -/
def elimS (p : Int) (r col : Nat) (b rows : List (List Int)) (k : Nat) : List (List Int) := upd (elimRow p r col b (rows.getD r [])) k rows
theorem elimS_len (p : Int) (r col : Nat) (b rows : List (List Int)) (k : Nat) : (elimS p r col b rows k).length = rows.length := upd_len _ _ _
theorem elimS_get {p : Int} {r col : Nat} {b rows : List (List Int)} {k m : Nat} (h : k ≤ m) : (elimS p r col b rows k).getD m [] = rows.getD m [] := upd_getD _ h _ _
theorem elimS_piv {p : Int} {r col : Nat} {b rows : List (List Int)} {k : Nat} (hr : r < rows.length) : (elimS p r col b rows k).getD r [] = rows.getD r [] := by
  by_cases h : k ≤ r
  · exact elimS_get h
  · unfold elimS
    rw [upd_done _ (by omega) _ hr]
    unfold elimRow
    rw [if_pos rfl]
theorem elimS_end {p : Int} {r col : Nat} {b rows : List (List Int)} {k : Nat} (h : rows.length ≤ k) : elimS p r col b rows k = elim p r col b rows := upd_all _ h
theorem elimS_skip {p : Int} {r col : Nat} {b rows : List (List Int)} (hr : r < rows.length) : elimS p r col b rows (r + 1) = elimS p r col b rows r := by
  unfold elimS
  rw [← upd_step _ hr []]
  have e : elimRow p r col b (rows.getD r []) r (rows.getD r []) = rows.getD r [] := by unfold elimRow; rw [if_pos rfl]
  rw [e]
  apply List.ext_getElem?
  intro i
  rw [List.getElem?_set, upd_len]
  by_cases c : r = i
  · subst c
    rw [if_pos rfl, if_pos hr, upd_same? _ (Nat.le_refl r), List.getD_eq_getElem?_getD, List.getElem?_eq_getElem hr]
    rfl
  · rw [if_neg c]
theorem elimS_next {p : Int} {r col : Nat} {b rows : List (List Int)} {k : Nat} (hk : k < rows.length) (hr : r < rows.length) (hkr : k ≠ r) :
    (elimS p r col b rows k).set k (axpy p ((elimS p r col b rows k).getD k []) ((p - at2 b k col) % p) ((elimS p r col b rows k).getD r [])) = elimS p r col b rows (k + 1) := by
  rw [elimS_get (Nat.le_refl k), elimS_piv hr]
  unfold elimS
  rw [← upd_step _ hk []]
  congr 1
  unfold elimRow
  rw [if_neg hkr]
theorem elimS_mat {p : Int} (hp : 2 ≤ p) {n c : Nat} {rows : List (List Int)} (h : Mat p n c rows) (r col : Nat) (b : List (List Int)) (k : Nat) : Mat p n c (elimS p r col b rows k) := by
  refine Mat.intro (by rw [elimS_len, h.1]) fun i hi => ?_
  by_cases hk : k ≤ i
  · rw [elimS_get hk]
    exact ⟨(h.row hi).1, fun j hj => h.el hi hj⟩
  · unfold elimS
    rw [upd_done _ (by omega) _ (by rw [h.1]; exact hi)]
    unfold elimRow
    split
    · exact ⟨(h.row hi).1, fun j hj => h.el hi hj⟩
    · refine ⟨by rw [axpy_len, (h.row hi).1], fun j hj => ?_⟩
      exact axpy_bd hp _ (getD_mem' (by rw [axpy_len, (h.row hi).1]; exact hj) 0)
theorem leads_snoc (l : List Nat) (c : Nat) : leads (l ++ [c]) = leads l ++ [Value.int .i64 (c : Nat)] := by simp [leads]
end Go.Proofs.Ythnhholeaiojjaa
