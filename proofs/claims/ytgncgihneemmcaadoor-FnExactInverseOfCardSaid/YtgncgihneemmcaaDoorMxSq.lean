/- Square matrices: both sides' tests. -/
import Derived.Test.YtgncgihneemmcaaDoorMxGood
import Derived.Test.YtgncgihneemmcaaDoorLeaf
import Derived.Test.YtgncgihneemmcaaDoorMxMake
namespace Go.Proofs.YtgncgihneemmcaaDoor
set_option maxRecDepth 100000
open Go Go.RowKit Go.Deep

def isSq (p c : Int) (rows : List (List Int)) : Bool := isMat p c rows && decide (c = (rows.length : Int))
theorem isSq_iff (p c : Int) (rows : List (List Int)) : isSq p c rows = true ↔ fld p = true ∧ ∃ k : Nat, c = k ∧ k ≤ 24 ∧ Mat p k k rows := by
  unfold isSq
  rw [Bool.and_eq_true, isMat_iff, decide_eq_true_eq]
  constructor
  · rintro ⟨⟨h1, h2, k, rfl, h3, h4⟩, h5⟩
    have : rows.length = k := by omega
    exact ⟨h1, k, rfl, h3, by rw [← this] at h4 ⊢; exact h4⟩
  · rintro ⟨h1, k, rfl, h3, h4⟩
    have := h4.1
    exact ⟨⟨h1, by omega, k, rfl, h3, by rw [this]; exact h4⟩, by omega⟩
set_option maxHeartbeats 800000 in
theorem isSquareMatrix_any (w : World) (B : Nat) (v : Value) (p c : Int) (rows : List (List Int)) (ht : Tab w) (hv : LfG w B v rows) (hB : B ≤ w.heap.size) :
    Calls Tryd.prog 65 #[.int .i64 p, .agg #[.int .i64 c, v]] w (SaysB w (isSq p c rows)) := by
  obtain ⟨A, cp, rfl⟩ := hv.len
  cases hm : isMat p c rows with
  | false =>
    have HM := Lib.hid hm
    have HE := Lib.hid (show isSq p c rows = false by unfold isSq; rw [hm]; rfl)
    have HC := Lib.hid (implIsMatrix_any (w.alloc (.cells #[.int .i64 c, .slice A rows.length cp] tM)) B _ p c rows (ht.below (by repeat' (first | exact Below.refl _ _ | apply Below.drew | apply Below.setCell | apply Below.alloc | (simp; done) | omega | (simp; omega)))) (hv.below (B' := w.heap.size) (by repeat' (first | exact Below.refl _ _ | apply Below.drew | apply Below.setCell | apply Below.alloc | (simp; done) | omega | (simp; omega))) hB).1 (by simp; omega) hv.2.1 hv.2.2)
    clear hm hv ht
    go_enter Tryd.func65, Tryd.ntmps65
    go_wp2_with fail
    refine HC.out.mono ?_
    rintro e w1 ⟨rfl, b⟩
    rw [HM.out]
    have HB1 := Lib.hid (Below.trans (show Below w.heap.size w (w.alloc (.cells #[.int .i64 c, .slice A rows.length cp] tM)) from by repeat' (first | exact Below.refl _ _ | apply Below.drew | apply Below.setCell | apply Below.alloc | (simp; done) | omega | (simp; omega))) (b.mono (by simp)))
    clear b HC
    go_wp2
    go_ret
    rw [HE.out]
    exact ⟨rfl, HB1.out⟩
  
  | true =>
    have HM := Lib.hid hm
    by_cases hd : c = (rows.length : Int)
    rotate_left
    · have HE := Lib.hid (show isSq p c rows = false by unfold isSq; rw [hm]; simp; omega)
      have hq : ((c : Int) == (rows.length : Int)) = false := by simp; omega
      have HC := Lib.hid (implIsMatrix_any (w.alloc (.cells #[.int .i64 c, .slice A rows.length cp] tM)) B _ p c rows (ht.below (by repeat' (first | exact Below.refl _ _ | apply Below.drew | apply Below.setCell | apply Below.alloc | (simp; done) | omega | (simp; omega)))) (hv.below (B' := w.heap.size) (by repeat' (first | exact Below.refl _ _ | apply Below.drew | apply Below.setCell | apply Below.alloc | (simp; done) | omega | (simp; omega))) hB).1 (by simp; omega) hv.2.1 hv.2.2)
      clear hm hv hd ht
      go_enter Tryd.func65, Tryd.ntmps65
      go_wp2_with fail
      refine HC.out.mono ?_
      rintro e w1 ⟨rfl, b⟩
      rw [HM.out]
      have HB1 := Lib.hid (Below.trans (show Below w.heap.size w (w.alloc (.cells #[.int .i64 c, .slice A rows.length cp] tM)) from by repeat' (first | exact Below.refl _ _ | apply Below.drew | apply Below.setCell | apply Below.alloc | (simp; done) | omega | (simp; omega))) (b.mono (by simp)))
      obtain ⟨hx0, hx1, hxf0, hxf1, hxs⟩ := ((cellsAt_new w #[.int .i64 c, .slice A rows.length cp] tM).below b (by simp)).two
      clear b HC
      go_wp2
      go_ret
      rw [HE.out]
      exact ⟨rfl, HB1.out⟩
    · have HE := Lib.hid (show isSq p c rows = true by unfold isSq; rw [hm]; simp; omega)
      have hq : ((c : Int) == (rows.length : Int)) = true := by simp; omega
      have HC := Lib.hid (implIsMatrix_any (w.alloc (.cells #[.int .i64 c, .slice A rows.length cp] tM)) B _ p c rows (ht.below (by repeat' (first | exact Below.refl _ _ | apply Below.drew | apply Below.setCell | apply Below.alloc | (simp; done) | omega | (simp; omega)))) (hv.below (B' := w.heap.size) (by repeat' (first | exact Below.refl _ _ | apply Below.drew | apply Below.setCell | apply Below.alloc | (simp; done) | omega | (simp; omega))) hB).1 (by simp; omega) hv.2.1 hv.2.2)
      clear hm hv hd ht
      go_enter Tryd.func65, Tryd.ntmps65
      go_wp2_with fail
      refine HC.out.mono ?_
      rintro e w1 ⟨rfl, b⟩
      rw [HM.out]
      have HB1 := Lib.hid (Below.trans (show Below w.heap.size w (w.alloc (.cells #[.int .i64 c, .slice A rows.length cp] tM)) from by repeat' (first | exact Below.refl _ _ | apply Below.drew | apply Below.setCell | apply Below.alloc | (simp; done) | omega | (simp; omega))) (b.mono (by simp)))
      obtain ⟨hx0, hx1, hxf0, hxf1, hxs⟩ := ((cellsAt_new w #[.int .i64 c, .slice A rows.length cp] tM).below b (by simp)).two
      clear b HC
      go_wp2
      go_ret
      rw [HE.out]
      exact ⟨rfl, HB1.out⟩
set_option maxHeartbeats 800000 in
theorem mxSquare_any (w : World) (B : Nat) (v : Value) (p c : Int) (rows : List (List Int)) (hv : LfG w B v rows) (hB : B ≤ w.heap.size) :
    Calls Tryd.prog 64 #[.int .i64 p, .agg #[.int .i64 c, v]] w (SaysB w (isSq p c rows)) := by
  obtain ⟨A, cp, rfl⟩ := hv.len
  cases hm : isMat p c rows with
  | false =>
    have HM := Lib.hid hm
    have HE := Lib.hid (show isSq p c rows = false by unfold isSq; rw [hm]; rfl)
    have HC := Lib.hid (mxGood_any (w.alloc (.cells #[.int .i64 c, .slice A rows.length cp] tM)) B _ p c rows (hv.below (B' := w.heap.size) (by repeat' (first | exact Below.refl _ _ | apply Below.drew | apply Below.setCell | apply Below.alloc | (simp; done) | omega | (simp; omega))) hB).1 (by simp; omega) hv.2.1 hv.2.2)
    clear hm hv
    go_enter Tryd.func64, Tryd.ntmps64
    go_wp2_with fail
    refine HC.out.mono ?_
    rintro e w1 ⟨rfl, b⟩
    rw [HM.out]
    have HB1 := Lib.hid (Below.trans (show Below w.heap.size w (w.alloc (.cells #[.int .i64 c, .slice A rows.length cp] tM)) from by repeat' (first | exact Below.refl _ _ | apply Below.drew | apply Below.setCell | apply Below.alloc | (simp; done) | omega | (simp; omega))) (b.mono (by simp)))
    clear b HC
    go_wp2
    go_ret
    rw [HE.out]
    exact ⟨rfl, HB1.out⟩
  
  | true =>
    have HM := Lib.hid hm
    by_cases hd : c = (rows.length : Int)
    rotate_left
    · have HE := Lib.hid (show isSq p c rows = false by unfold isSq; rw [hm]; simp; omega)
      have hq : (((rows.length : Int) : Int) == c) = false := by simp; omega
      have HC := Lib.hid (mxGood_any (w.alloc (.cells #[.int .i64 c, .slice A rows.length cp] tM)) B _ p c rows (hv.below (B' := w.heap.size) (by repeat' (first | exact Below.refl _ _ | apply Below.drew | apply Below.setCell | apply Below.alloc | (simp; done) | omega | (simp; omega))) hB).1 (by simp; omega) hv.2.1 hv.2.2)
      clear hm hv hd
      go_enter Tryd.func64, Tryd.ntmps64
      go_wp2_with fail
      refine HC.out.mono ?_
      rintro e w1 ⟨rfl, b⟩
      rw [HM.out]
      have HB1 := Lib.hid (Below.trans (show Below w.heap.size w (w.alloc (.cells #[.int .i64 c, .slice A rows.length cp] tM)) from by repeat' (first | exact Below.refl _ _ | apply Below.drew | apply Below.setCell | apply Below.alloc | (simp; done) | omega | (simp; omega))) (b.mono (by simp)))
      obtain ⟨hx0, hx1, hxf0, hxf1, hxs⟩ := ((cellsAt_new w #[.int .i64 c, .slice A rows.length cp] tM).below b (by simp)).two
      clear b HC
      go_wp2
      go_ret
      rw [HE.out]
      exact ⟨rfl, HB1.out⟩
    · have HE := Lib.hid (show isSq p c rows = true by unfold isSq; rw [hm]; simp; omega)
      have hq : (((rows.length : Int) : Int) == c) = true := by simp; omega
      have HC := Lib.hid (mxGood_any (w.alloc (.cells #[.int .i64 c, .slice A rows.length cp] tM)) B _ p c rows (hv.below (B' := w.heap.size) (by repeat' (first | exact Below.refl _ _ | apply Below.drew | apply Below.setCell | apply Below.alloc | (simp; done) | omega | (simp; omega))) hB).1 (by simp; omega) hv.2.1 hv.2.2)
      clear hm hv hd
      go_enter Tryd.func64, Tryd.ntmps64
      go_wp2_with fail
      refine HC.out.mono ?_
      rintro e w1 ⟨rfl, b⟩
      rw [HM.out]
      have HB1 := Lib.hid (Below.trans (show Below w.heap.size w (w.alloc (.cells #[.int .i64 c, .slice A rows.length cp] tM)) from by repeat' (first | exact Below.refl _ _ | apply Below.drew | apply Below.setCell | apply Below.alloc | (simp; done) | omega | (simp; omega))) (b.mono (by simp)))
      obtain ⟨hx0, hx1, hxf0, hxf1, hxs⟩ := ((cellsAt_new w #[.int .i64 c, .slice A rows.length cp] tM).below b (by simp)).two
      clear b HC
      go_wp2
      go_ret
      rw [HE.out]
      exact ⟨rfl, HB1.out⟩
end Go.Proofs.YtgncgihneemmcaaDoor
