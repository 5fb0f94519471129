/- From one world to a later one; what reads as a row goes on doing so. For regions that draw the order of calls and makes. -/
import Derived.Test.YtdcgoeapgboclaaRowCat
namespace Go.Proofs.Ytdcgoeapgboclaa
set_option maxRecDepth 100000
open Go Go.RowKit Go.Deep

/-- From one world to a later one: what was there is as it was. -/
def Stp (w w' : World) : Prop := Below w.heap.size w w'
theorem Stp.refl (w : World) : Stp w w := Below.refl _ _
theorem Stp.size {a b : World} (h : Stp a b) : a.heap.size ≤ b.heap.size := Below.size h
theorem Stp.trans {a b c : World} (h1 : Stp a b) (h2 : Stp b c) : Stp a c := Below.trans h1 (Below.mono h2 h1.size)
theorem Stp.alloc {a b : World} (h : Stp a b) (o : Obj) : Stp a (b.alloc o) := Below.alloc h h.size o
theorem Stp.drew {a b : World} (h : Stp a b) : Stp a b.drew := Below.drew h
/-- One step of a walk. -/
structure Stk (w w' : World) : Prop where
  stp : Stp w w'
theorem stk {w w' : World} (h : Below w.heap.size w w') : Hid (Stk w w') := Lib.hid ⟨h⟩
theorem Stk.out {w w' : World} (h : Hid (Stk w w')) : Stp w w' := h.out.stp
theorem RdS.stp {w w' : World} {v : Value} {xs : List Int} (h : RdS w (fun q => q < w.heap.size) v xs) (s : Stp w w') : RdS w' (fun q => q < w'.heap.size) v xs :=
  (h.below s (Nat.le_refl _)).mono fun _ hk => Nat.lt_of_lt_of_le hk s.size
theorem RdS.stpB {w w' : World} {B : Nat} {v : Value} {xs : List Int} (h : RdS w (fun q => q < B) v xs) (hB : B ≤ w.heap.size) (s : Stp w w') : RdS w' (fun q => q < w'.heap.size) v xs :=
  (h.mono fun _ hk => Nat.lt_of_lt_of_le hk hB).stp s
/-- A row of zeros, just made. -/
theorem made_rd (w : World) (n : Nat) : RdS (w.alloc (.cells (madeCells #[.int .i64 0] n) 3)) (fun q => q < (w.alloc (.cells (madeCells #[.int .i64 0] n) 3)).heap.size) (.slice (some ⟨w.heap.size, 0, none⟩) n n) (List.replicate n 0) :=
  (owR_at (S := fun _ => True) trivial (made_ints w n) (n := n) (c := n) (by simp)).readB
theorem made_stp {w w' : World} {n b : Nat} (s : Stp (w.alloc (.cells (madeCells #[.int .i64 0] n) 3)) w') (hb : b = w.heap.size) : RdS w' (fun q => q < w'.heap.size) (.slice (some ⟨b, 0, none⟩) n n) (List.replicate n 0) := by
  subst hb
  exact (made_rd w n).stp s
theorem rdG_list {w : World} {B b n : Nat} {us : List Value} {rows : List (List Int)} {t : TypeId} (hc : CellsAt w b t us) (hb : b < B) (hu : us.length = n) (hr : rows.length = n) (h : ∀ i, i < n → RdS w (fun q => q < B) (us.getD i .nilFunc) (rows.getD i [])) : RdG w B (.slice (some ⟨b, 0, none⟩) n n) rows := by
  subst hr
  refine ⟨_, rows.length, rfl, Nat.le_refl _, fun r hr => ⟨b, 0, us.getD r .nilFunc, rfl, hb, ?_, h r hr⟩⟩
  have h1 := hc.cell (i := r) (by omega)
  rw [Nat.zero_add, h1, List.getD_eq_getElem?_getD, List.getElem?_eq_getElem (by omega)]
  rfl
/-- Slices built in a box of their own: three, four. -/
theorem rdG_three {w w' : World} {u0 u1 u2 : Value} {x0 x1 x2 : List Int} {t : TypeId} (hw : w' = w.alloc (.cells #[u0, u1, u2] t)) (h0 : RdS w (fun q => q < w.heap.size) u0 x0) (h1 : RdS w (fun q => q < w.heap.size) u1 x1) (h2 : RdS w (fun q => q < w.heap.size) u2 x2) : RdG w' w'.heap.size (.slice (some ⟨w.heap.size, 0, none⟩) 3 3) [x0, x1, x2] := by
  subst hw
  have s : Stp w (w.alloc (.cells #[u0, u1, u2] t)) := (Stp.refl w).alloc _
  refine rdG_list (cellsAt_new w #[u0, u1, u2] t) (by simp) rfl rfl fun i hi => ?_
  match i, hi with
  | 0, _ => exact h0.stp s
  | 1, _ => exact h1.stp s
  | 2, _ => exact h2.stp s
theorem rdG_four {w w' : World} {u0 u1 u2 u3 : Value} {x0 x1 x2 x3 : List Int} {t : TypeId} (hw : w' = w.alloc (.cells #[u0, u1, u2, u3] t)) (h0 : RdS w (fun q => q < w.heap.size) u0 x0) (h1 : RdS w (fun q => q < w.heap.size) u1 x1) (h2 : RdS w (fun q => q < w.heap.size) u2 x2) (h3 : RdS w (fun q => q < w.heap.size) u3 x3) : RdG w' w'.heap.size (.slice (some ⟨w.heap.size, 0, none⟩) 4 4) [x0, x1, x2, x3] := by
  subst hw
  have s : Stp w (w.alloc (.cells #[u0, u1, u2, u3] t)) := (Stp.refl w).alloc _
  refine rdG_list (cellsAt_new w #[u0, u1, u2, u3] t) (by simp) rfl rfl fun i hi => ?_
  match i, hi with
  | 0, _ => exact h0.stp s
  | 1, _ => exact h1.stp s
  | 2, _ => exact h2.stp s
  | 3, _ => exact h3.stp s
theorem concat_three {w : World} {b : Nat} {u0 u1 u2 : Value} (x0 x1 x2 : List Int) {t : TypeId} (h0 : RdS w (fun q => q < w.heap.size) u0 x0) (h1 : RdS w (fun q => q < w.heap.size) u1 x1) (h2 : RdS w (fun q => q < w.heap.size) u2 x2) (hn : x0.length + (x1.length + x2.length) ≤ 1000000) (hb : b = w.heap.size) :
    Calls Try.prog 49 #[.slice (some ⟨b, 0, none⟩) 3 3] (w.alloc (.cells #[u0, u1, u2] t)) fun e w' => ∃ v, e = .returned v ∧ Stp (w.alloc (.cells #[u0, u1, u2] t)) w' ∧ OwR w' tI (fun q => w.heap.size ≤ q) v [x0, x1, x2].flatten := by
  subst hb
  exact (concatR_any _ _ _ [x0, x1, x2] (rdG_three rfl h0 h1 h2) (Nat.le_refl _) (by simp) (by simp [tot]; omega)).mono fun e w' ⟨v, h1, h2, h3⟩ => ⟨v, h1, h2, OwR.mono h3 fun q hq _ => by simp at hq; omega⟩
theorem concat_four {w : World} {b : Nat} {u0 u1 u2 u3 : Value} (x0 x1 x2 x3 : List Int) {t : TypeId} (h0 : RdS w (fun q => q < w.heap.size) u0 x0) (h1 : RdS w (fun q => q < w.heap.size) u1 x1) (h2 : RdS w (fun q => q < w.heap.size) u2 x2) (h3 : RdS w (fun q => q < w.heap.size) u3 x3) (hn : x0.length + (x1.length + (x2.length + x3.length)) ≤ 1000000) (hb : b = w.heap.size) :
    Calls Try.prog 49 #[.slice (some ⟨b, 0, none⟩) 4 4] (w.alloc (.cells #[u0, u1, u2, u3] t)) fun e w' => ∃ v, e = .returned v ∧ Stp (w.alloc (.cells #[u0, u1, u2, u3] t)) w' ∧ OwR w' tI (fun q => w.heap.size ≤ q) v [x0, x1, x2, x3].flatten := by
  subst hb
  exact (concatR_any _ _ _ [x0, x1, x2, x3] (rdG_four rfl h0 h1 h2 h3) (Nat.le_refl _) (by simp) (by simp [tot]; omega)).mono fun e w' ⟨v, h1, h2, h3⟩ => ⟨v, h1, h2, OwR.mono h3 fun q hq _ => by simp at hq; omega⟩
end Go.Proofs.Ytdcgoeapgboclaa
