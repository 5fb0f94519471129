/- RdOps RdApply RdCol RdStep in one text. -/
import Derived.Test.YtdjgkcnhmfkjoaaDoorMem
import Derived.Test.YtdjgkcnhmfkjoaaDoorMxB
import Derived.Test.YtdjgkcnhmfkjoaaDoorMath
import Derived.Deep.RegionHeld3
import Derived.StillTailTactics
import Derived.BigRegion
import Derived.Deep.QuietTactic
import Derived.BigQuiet
import Derived.Deep.RegionLaw
import Derived.Test.YtdjgkcnhmfkjoaaDoorFdWalks2
import Derived.OwnWalk
/-! Row operations of the program: what each does to a grid of one's own. -/
namespace Go.Proofs.YtdjgkcnhmfkjoaaDoor
set_option maxRecDepth 100000
open Go Go.RowKit Go.Deep

abbrev tO : TypeId := 84
/-- Two rows' slices exchanged. -/
theorem OwG.swap {w : World} {ti ts : TypeId} {S : Nat → Prop} {v : Value} {rows : List (List Int)} (h : OwG w ti ts S v rows) {r s : Nat} (hr : r < rows.length) (hs : s < rows.length) :
    ∃ g c A1 l1 c1 A2 l2 c2, v = .slice (some ⟨g, 0, none⟩) rows.length c ∧ S g ∧ g < w.heap.size ∧ w.cell? ⟨g, r, none⟩ = some (.slice A1 l1 c1) ∧ w.cell? ⟨g, s, none⟩ = some (.slice A2 l2 c2) ∧ (∀ o, w.frozen? ⟨g, o, none⟩ = false) ∧
      OwG ((w.setCell ⟨g, r, none⟩ (.slice A2 l2 c2)).setCell ⟨g, s, none⟩ (.slice A1 l1 c1)) ti ts S v (swapL r s rows) := by
  obtain ⟨A, c, e, kc_c, h⟩ := h
  rcases h with h | ⟨g, vs, e2, h3⟩
  · subst h
    exact absurd hr (Nat.not_lt_zero _)
  · subst e2
    have hrv : r < vs.length := by rw [h3.len]; exact hr
    have hsv : s < vs.length := by rw [h3.len]; exact hs
    obtain ⟨A1, c1, hu1⟩ := (h3.row r hr).len
    obtain ⟨A2, c2, hu2⟩ := (h3.row s hs).len
    refine ⟨g, c, A1, _, c1, A2, _, c2, e, h3.inS, h3.outer.lt, by rw [← hu1]; exact h3.cell hr, by rw [← hu2]; exact h3.cell hs, h3.outer.frozen, some ⟨g, 0, none⟩, c, by rw [swapL_len]; exact e, by rw [swapL_len]; exact kc_c, Or.inr ⟨g, (vs.set r (vs.getD s .nilFunc)).set s (vs.getD r .nilFunc), rfl, ?_⟩⟩
    rw [← hu1, ← hu2]
    -- where row m of the new grid comes from
    let f : Nat → Nat := fun m => if m = r then s else if m = s then r else m
    have hf : ∀ m, m < rows.length → f m < rows.length := fun m hm => by
      show (if m = r then s else if m = s then r else m) < rows.length
      split
      · exact hs
      · split
        · exact hr
        · exact hm
    have hinj : ∀ m n, m ≠ n → f m ≠ f n := fun m n hmn => by
      show (if m = r then s else if m = s then r else m) ≠ (if n = r then s else if n = s then r else n)
      (repeat' split) <;> omega
    have R : ∀ m, (swapL r s rows).getD m [] = rows.getD (f m) [] := fun m => by
      rw [swapL_get hr hs]
      show _ = rows.getD (if m = r then s else if m = s then r else m) []
      split
      · rfl
      · split <;> rfl
    have V : ∀ m, ((vs.set r (vs.getD s .nilFunc)).set s (vs.getD r .nilFunc)).getD m .nilFunc = vs.getD (f m) .nilFunc := fun m => by
      rw [set_getD _ _ _ _ _ (by rw [List.length_set]; exact hsv), set_getD _ _ _ _ _ hrv]
      show _ = vs.getD (if m = r then s else if m = s then r else m) .nilFunc
      by_cases c1 : s = m
      · by_cases c2 : m = r
        · rw [if_pos c1, if_pos c2, ← c2, c1]
        · rw [if_pos c1, if_neg c2, if_pos c1.symm]
      · rw [if_neg c1]
        by_cases c2 : r = m
        · rw [if_pos c2, if_pos c2.symm]
        · rw [if_neg c2, if_neg (fun e => c2 e.symm), if_neg (fun e => c1 e.symm)]
    have hb : ∀ k, k ≠ g → ((w.setCell ⟨g, r, none⟩ (vs.getD s .nilFunc)).setCell ⟨g, s, none⟩ (vs.getD r .nilFunc)).heap[k]? = w.heap[k]? := fun k hk => by
      rw [blk_setCell_other _ _ _ _ (by dsimp only; exact hk), blk_setCell_other _ _ _ _ (by dsimp only; exact hk)]
    refine ⟨(h3.outer.set r _).set s _, h3.inS, by simp [swapL, h3.len], fun m hm => ?_, fun m hm hx => ?_, fun m n hm hn hmn hxm hxn => ?_⟩
    · rw [swapL_len] at hm
      rw [R, V]
      exact (h3.row _ (hf m hm)).blocks fun k _ _ hx e => hb k (by rw [e]; exact h3.off _ (hf m hm) hx)
    · rw [swapL_len] at hm
      rw [R] at hx
      rw [V]
      exact h3.off _ (hf m hm) hx
    · rw [swapL_len] at hm hn
      rw [R] at hxm hxn
      rw [V, V]
      exact h3.apart _ _ (hf m hm) (hf n hn) (hinj m n hmn) hxm hxn

def idleB (k t s f : Int) : Bool := if k = 0 then decide (t = s) else if k = 1 then decide (f = 1) else decide (f = 0)
set_option maxHeartbeats 1600000 in
theorem isIdle_any (w : World) (k t s f : Int) (hk : k = 0 ∨ k = 1 ∨ k = 2) :
    Calls Tryd.prog 76 #[.agg #[.int .i64 k, .int .i64 t, .int .i64 s, .int .i64 f]] w fun e w' => e = .returned (.bool (idleB k t s f)) ∧ Below w.heap.size w w' := by
  rcases hk with rfl | rfl | rfl
  · by_cases h : t = s
    · have H := Lib.hid (show idleB 0 t s f = true by simp [idleB, h])
      subst h
      go_enter Tryd.func76, Tryd.ntmps76
      go_wp2
      go_ret
      refine ⟨?_, by repeat' (first | exact Below.refl _ _ | apply Below.drew | apply Below.setCell | apply Below.alloc | (simp; done) | omega | (simp; omega))⟩
      first | (rw [H.out]; simp; done) | (rw [H.out]; simp; omega) | rw [H.out]
    · have H := Lib.hid (show idleB 0 t s f = false by simp [idleB, h])
      have hq : (t == s) = false := by simp [h]
      have hq2 : (s == t) = false := by simp; omega
      have hq3 : ¬ s = t := by omega
      go_enter Tryd.func76, Tryd.ntmps76
      go_wp2
      go_ret
      refine ⟨?_, by repeat' (first | exact Below.refl _ _ | apply Below.drew | apply Below.setCell | apply Below.alloc | (simp; done) | omega | (simp; omega))⟩
      first | (rw [H.out]; simp; done) | (rw [H.out]; simp; omega) | rw [H.out]
  · by_cases h : f = 1
    · have H := Lib.hid (show idleB 1 t s f = true by simp [idleB, h])
      subst h
      go_enter Tryd.func76, Tryd.ntmps76
      go_wp2
      go_ret
      refine ⟨?_, by repeat' (first | exact Below.refl _ _ | apply Below.drew | apply Below.setCell | apply Below.alloc | (simp; done) | omega | (simp; omega))⟩
      first | (rw [H.out]; simp; done) | (rw [H.out]; simp; omega) | rw [H.out]
    · have H := Lib.hid (show idleB 1 t s f = false by simp [idleB, h])
      have hq : (f == 1) = false := by simp [h]
      have hq2 : (1 == f) = false := by simp; omega
      have hq3 : ¬ 1 = f := by omega
      go_enter Tryd.func76, Tryd.ntmps76
      go_wp2
      go_ret
      refine ⟨?_, by repeat' (first | exact Below.refl _ _ | apply Below.drew | apply Below.setCell | apply Below.alloc | (simp; done) | omega | (simp; omega))⟩
      first | (rw [H.out]; simp; done) | (rw [H.out]; simp; omega) | rw [H.out]
  · by_cases h : f = 0
    · have H := Lib.hid (show idleB 2 t s f = true by simp [idleB, h])
      subst h
      go_enter Tryd.func76, Tryd.ntmps76
      go_wp2
      go_ret
      refine ⟨?_, by repeat' (first | exact Below.refl _ _ | apply Below.drew | apply Below.setCell | apply Below.alloc | (simp; done) | omega | (simp; omega))⟩
      first | (rw [H.out]; simp; done) | (rw [H.out]; simp; omega) | rw [H.out]
    · have H := Lib.hid (show idleB 2 t s f = false by simp [idleB, h])
      have hq : (f == 0) = false := by simp [h]
      have hq2 : (0 == f) = false := by simp; omega
      have hq3 : ¬ 0 = f := by omega
      go_enter Tryd.func76, Tryd.ntmps76
      go_wp2
      go_ret
      refine ⟨?_, by repeat' (first | exact Below.refl _ _ | apply Below.drew | apply Below.setCell | apply Below.alloc | (simp; done) | omega | (simp; omega))⟩
      first | (rw [H.out]; simp; done) | (rw [H.out]; simp; omega) | rw [H.out]
def detB (p k f : Int) : Int := if k = 0 then p - 1 else if k = 1 then f else 1
set_option maxHeartbeats 800000 in
theorem determinant_any (w : World) (p k t s f : Int) (hk : k = 0 ∨ k = 1 ∨ k = 2) (h1 : 2 ≤ p) (h2 : p ≤ 97) :
    Calls Tryd.prog 78 #[.agg #[.int .i64 k, .int .i64 t, .int .i64 s, .int .i64 f], .int .i64 p] w fun e w' => e = .returned (.int .i64 (detB p k f)) ∧ Below w.heap.size w w' := by
  rcases hk with rfl | rfl | rfl
  · go_enter Tryd.func78, Tryd.ntmps78
    go_wp2
    go_ret
    exact ⟨by simp [detB], by repeat' (first | exact Below.refl _ _ | apply Below.drew | apply Below.setCell | apply Below.alloc | (simp; done) | omega | (simp; omega))⟩
  · go_enter Tryd.func78, Tryd.ntmps78
    go_wp2
    go_ret
    exact ⟨by simp [detB], by repeat' (first | exact Below.refl _ _ | apply Below.drew | apply Below.setCell | apply Below.alloc | (simp; done) | omega | (simp; omega))⟩
  · go_enter Tryd.func78, Tryd.ntmps78
    go_wp2
    go_ret
    exact ⟨by simp [detB], by repeat' (first | exact Below.refl _ _ | apply Below.drew | apply Below.setCell | apply Below.alloc | (simp; done) | omega | (simp; omega))⟩
/-- The grid was changed in place. -/
def WroteG (w : World) (S : Nat → Prop) (v : Value) (rows : List (List Int)) (e : Ending) (w' : World) : Prop := e = .returned (.tuple #[]) ∧ Touch S w w' ∧ OwG w' tI tR S v rows
set_option maxHeartbeats 1600000 in
set_option maxRecDepth 100000 in
theorem applyTo_exch (w : World) (S : Nat → Prop) (v : Value) (p f : Int) (r i : Nat) (rows : List (List Int)) (hv : OwG w tI tR S v rows) (hS : ∀ k, S k → k < w.heap.size) (hr : r < rows.length) (hi : i < rows.length) (hri : r ≠ i) :
    Calls Tryd.prog 77 #[.agg #[.int .i64 0, .int .i64 r, .int .i64 i, .int .i64 f], .int .i64 p, v] w (WroteG w S v (swapL r i rows)) := by
  obtain ⟨g, c, A1, l1, c1, A2, l2, c2, rfl, hg, hgl, hc1, hc2, hfz, ho⟩ := (hv.blocks (w' := w.alloc (.cells #[.int .i64 0, .int .i64 r, .int .i64 i, .int .i64 f] tO)) (fun k _ hl => blk_alloc_lt _ _ _ hl)).swap hr hi
  have HB := (cellsAt_new w #[.int .i64 0, .int .i64 r, .int .i64 i, .int .i64 f] tO)
  have hb0 := HB.cell (i := 0) (by simp)
  have hb1 := HB.cell (i := 1) (by simp)
  have hb2 := HB.cell (i := 2) (by simp)
  have hgw := hS g hg
  have HT := Lib.hid (show Touch S w (w.alloc (.cells #[.int .i64 0, .int .i64 r, .int .i64 i, .int .i64 f] tO)) from (Touch.refl _ _).alloc _)
  have HO := Lib.hid ho
  have HG := Lib.hid hg
  have hr1 : (r : Int) < (rows.length : Int) := by omega
  have hi1 : (i : Int) < (rows.length : Int) := by omega
  have hne : ¬ (r : Int) = (i : Int) := by omega
  clear hv ho HB hS hg
  go_enter Tryd.func77, Tryd.ntmps77
  go_wp2
  generalize w.alloc (.cells #[.int .i64 0, .int .i64 r, .int .i64 i, .int .i64 f] tO) = W at hgl hc1 hc2 hfz HT HO hb0 hb1 hb2 ⊢
  have hwb : w.heap.size ≠ g := by omega
  have hz1 : W.drew.frozen? ⟨g, r, none⟩ = false := hfz r
  have hz2 : W.drew.frozen? ⟨g, i, none⟩ = false := hfz i
  go_region
  all_goals go_wp2
  all_goals go_end0
  all_goals exact ⟨rfl, ((HT.out.setCell (Or.inl HG.out) _).setCell (Or.inl HG.out) _).drew, OwG.drew HO.out⟩
set_option maxHeartbeats 1600000 in
set_option maxRecDepth 100000 in
theorem applyTo_mult (w : World) (S : Nat → Prop) (v : Value) (p f x : Int) (r : Nat) (rows : List (List Int)) (hv : OwG w tI tR S v rows) (hr : r < rows.length) (_hn : rows.length ≤ 1000000) (h1 : 2 ≤ p) (h2 : p ≤ 97) (hf0 : 0 ≤ f) (hf1 : f < p)
    (hrow : (rows.getD r []).length ≤ 1000000 ∧ ∀ y, y ∈ rows.getD r [] → 0 ≤ y ∧ y < p) :
    Calls Tryd.prog 77 #[.agg #[.int .i64 1, .int .i64 r, .int .i64 x, .int .i64 f], .int .i64 p, v] w (WroteG w S v (scaleAt p r f rows)) := by
  obtain ⟨g, c, u, rfl, hg, hgl, hc, hfz, hro, hrb, hre, _⟩ := (hv.mono (T := fun k => S k ∧ k < w.heap.size) (fun k a b => ⟨a, b⟩)).row hr
  obtain ⟨Au, cu, rfl⟩ := hro.len
  have HRO := Lib.hid hro
  have HRE := Lib.hid hre
  have HRB := Lib.hid hrb
  have HROW := Lib.hid hrow
  have hr1 : (r : Int) < (rows.length : Int) := by omega
  clear hv hro hre hrb hrow
  generalize hxe : rows.getD r [] = xs at HRO HRE HRB HROW hc
  have HXE := Lib.hid hxe
  clear hxe
  have hlen : xs.length ≤ 1000000 := HROW.out.1
  go_enter Tryd.func77, Tryd.ntmps77
  go_wp2
  go_loopw [39, 7] (fun i _ wr => ∃ k : Nat, k ≤ xs.length ∧ i = .int .i64 k ∧ Hid (Touch (rg (.slice Au xs.length cu) xs) w wr) ∧ Hid (CellsAt wr w.heap.size tO [.int .i64 1, .int .i64 r, .int .i64 x, .int .i64 f]) ∧ Hid (OwR wr tI (rg (.slice Au xs.length cu) xs) (.slice Au xs.length cu) (upd (fun _ y => f * y % p) k xs))) (fun i _ _ => xs.length - (intOf i).toNat)
  case atStart => exact ⟨0, Nat.zero_le _, rfl, Lib.hid ((Touch.refl _ _).alloc _), Lib.hid (cellsAt_new _ _ _), Lib.hid (by rw [upd_zero]; exact HRO.out.blocks (fun q _ hl _ _ => blk_alloc_lt _ _ _ hl))⟩
  case round =>
    obtain ⟨k, hk, rfl, HT, HX, HO⟩ := hrel
    by_cases hlt : k < xs.length
    · obtain ⟨b1, c1, e1, hb1, hs1, hc1, hf1', hset⟩ := HO.out.at (j := k) (by rw [upd_len]; exact hlt)
      rw [upd_len] at e1
      obtain ⟨rfl, rfl⟩ : Au = some ⟨b1, 0, none⟩ ∧ cu = c1 := by simpa using e1
      have HSET := Lib.hid hset
      have HT1 := Lib.hid hb1
      have HXV := Lib.hid (upd_getD (fun _ y => f * y % p) (Nat.le_refl k) xs 0)
      rw [HXV.out] at hc1
      have hy := HROW.out.2 _ (getD_mem' hlt 0)
      have HG := Lib.hid (show f * (xs.getD k 0) % p = (fun (_ : Nat) y => f * y % p) k (xs.getD k 0) from rfl)
      have hbx : b1 ≠ w.heap.size := by have := (HRB.out hb1.1).2.1; rw [← hb1.2] at this; omega
      clear hset hb1 e1
      generalize xs.getD k 0 = y at hc1 hy HG HXV
      obtain ⟨hy0, hy1⟩ := hy
      have hm0 : 0 ≤ f * y := Int.mul_nonneg hf0 hy0
      have hm1 : f * y ≤ 97 * 97 := Int.mul_le_mul (by omega) (by omega) hy0 (by omega)
      have hbox := HX.out.cell (i := 3) (by simp)
      have hku : (k : Int) < (xs.length : Int) := by omega
      go_wp2
      have hfz2 : wr.drew.frozen? ⟨b1, k, none⟩ = false := hf1'
      go_region
      all_goals go_wp2
      all_goals go_roundw
      case rel => exact ⟨k + 1, by omega, by go_num, Lib.hid ((HT.out.setCell (Or.inl HT1.out) _).drew), Lib.hid ((HX.out.setOther (by dsimp only; omega) _).drew), Lib.hid (by
        have h := HSET.out (f * y % p)
        rw [← upd_put _ hlt 0, HXV.out]
        exact OwR.blocks (w' := (wr.setCell ⟨b1, k, none⟩ (.int .i64 (f * y % p))).drew) h (fun _ _ _ _ _ => rfl))⟩
      case measure => simp [intOf]; omega
    · go_wp2
      go_end0
      have h := HO.out
      rw [upd_all _ (by omega)] at h
      have hl : (scale p f xs).length = xs.length := scale_len _ _ _
      refine ⟨rfl, HT.out.mono (fun q hq hq2 => by have := (HRB.out hq2.1).1; rw [← hq2.2] at this; exact this.1), ?_⟩
      have h3 := HRE.out wr (scale p f xs) hl (OwR.mono h (fun q hq _ => ⟨fun e0 => hq.1 (by rw [← List.length_eq_zero_iff, hl, List.length_eq_zero_iff] at e0; exact e0), hq.2⟩)) (fun q hq _ hn => HT.out.block q hq hn)
      have e : scaleAt p r f rows = rows.set r (scale p f xs) := by unfold scaleAt; rw [HXE.out]
      rw [e]
      exact h3.mono (fun q hq _ => hq.1)
set_option maxHeartbeats 1600000 in
set_option maxRecDepth 100000 in
theorem applyTo_add (w : World) (S : Nat → Prop) (v : Value) (p f : Int) (r s : Nat) (rows : List (List Int)) (hv : OwG w tI tR S v rows) (hr : r < rows.length) (hs : s < rows.length) (hrs : s ≠ r) (_hn : rows.length ≤ 1000000) (h1 : 2 ≤ p) (h2 : p ≤ 97) (hf0 : 0 ≤ f) (hf1 : f < p)
    (hrow : (rows.getD r []).length ≤ 1000000 ∧ ∀ y, y ∈ rows.getD r [] → 0 ≤ y ∧ y < p) (hrow2 : (rows.getD s []).length = (rows.getD r []).length ∧ ∀ y, y ∈ rows.getD s [] → 0 ≤ y ∧ y < p) :
    Calls Tryd.prog 77 #[.agg #[.int .i64 2, .int .i64 r, .int .i64 s, .int .i64 f], .int .i64 p, v] w (WroteG w S v (rows.set r (axpy p (rows.getD r []) f (rows.getD s [])))) := by
  obtain ⟨g, c, u, rfl, hg, hgl, hc, hfz, hro, hrb, hre, hoth⟩ := (hv.mono (T := fun k => S k ∧ k < w.heap.size) (fun k a b => ⟨a, b⟩)).row hr
  obtain ⟨u2, hc2, hrd2⟩ := hoth s hs hrs
  obtain ⟨Au, cu, rfl⟩ := hro.len
  obtain ⟨A2, c2, rfl, kc_c2, hrd2'⟩ := hrd2
  have HRD := Lib.hid (show RdS w (fun b => (S b ∧ b < w.heap.size) ∧ ¬ rg (.slice Au (rows.getD r []).length cu) (rows.getD r []) b) (.slice A2 (rows.getD s []).length c2) (rows.getD s []) from ⟨A2, c2, rfl, kc_c2, hrd2'⟩)
  have HRO := Lib.hid hro
  have HRE := Lib.hid hre
  have HRB := Lib.hid hrb
  have HROW := Lib.hid hrow
  have HROW2 := Lib.hid hrow2
  have hr1 : (r : Int) < (rows.length : Int) := by omega
  have hs1 : (s : Int) < (rows.length : Int) := by omega
  have hcw : ∀ o, (w.alloc o).cell? ⟨g, r, none⟩ = some (.slice Au (rows.getD r []).length cu) := fun o => (World.cell?_of_block (w := w) (blk_alloc_lt _ _ _ hgl)).trans hc
  have hcw2 : ∀ o, (w.alloc o).cell? ⟨g, s, none⟩ = some (.slice A2 (rows.getD s []).length c2) := fun o => (World.cell?_of_block (w := w) (blk_alloc_lt _ _ _ hgl)).trans hc2
  clear hv hro hre hrb hrow hrow2 hoth hrd2' hc hc2 hg
  generalize hxe : rows.getD r [] = xs at HRO HRE HRB HROW HROW2 HRD hcw ⊢
  generalize hye : rows.getD s [] = ys at HROW2 HRD hcw2 ⊢
  clear hxe hye
  have HBX := (cellsAt_new w #[.int .i64 2, .int .i64 r, .int .i64 s, .int .i64 f] tO)
  have hb0 := HBX.cell (i := 0) (by simp)
  have hb1 := HBX.cell (i := 1) (by simp)
  have hb2 := HBX.cell (i := 2) (by simp)
  have hb3 := HBX.cell (i := 3) (by simp)
  have hcw' := hcw (.cells #[.int .i64 2, .int .i64 r, .int .i64 s, .int .i64 f] tO)
  have hcw2' := hcw2 (.cells #[.int .i64 2, .int .i64 r, .int .i64 s, .int .i64 f] tO)
  have HTW := Lib.hid (show Touch (rg (.slice Au xs.length cu) xs) w (w.alloc (.cells #[.int .i64 2, .int .i64 r, .int .i64 s, .int .i64 f] tO)) from (Touch.refl _ _).alloc _)
  have HROW' := Lib.hid (OwR.blocks (w' := w.alloc (.cells #[.int .i64 2, .int .i64 r, .int .i64 s, .int .i64 f] tO)) HRO.out (fun q _ hl _ _ => blk_alloc_lt _ _ _ hl))
  have HRDW := Lib.hid (RdS.blocks (w' := w.alloc (.cells #[.int .i64 2, .int .i64 r, .int .i64 s, .int .i64 f] tO)) HRD.out (fun q hq => blk_alloc_lt _ _ _ hq.1.2))
  clear HBX hcw hcw2
  go_enter Tryd.func77, Tryd.ntmps77
  go_wp2
  generalize w.alloc (.cells #[.int .i64 2, .int .i64 r, .int .i64 s, .int .i64 f] tO) = W at hb0 hb1 hb2 hb3 hcw' hcw2' HTW HROW' HRDW ⊢
  go_still_tail 13, (by kernel_rfl)
  change wpList _ _ _ _ _ W.drew
  go_wp2_with fail
  refine (addToRow_any W.drew (rg (.slice Au xs.length cu) xs) _ _ p f xs ys h1 h2 (OwR.blocks (w := W) HROW'.out (fun q _ hl _ _ => rfl)) (RdS.mono (RdS.blocks (w := W) HRDW.out (fun q hq => rfl)) (fun q hq => hq.2)) HROW2.out.1 HROW.out.1 HROW.out.2 HROW2.out.2 hf0 hf1).mono ?_
  rintro e w4 ⟨rfl, ht4, ho4⟩
  have HT4 := Lib.hid (show Touch (rg (.slice Au xs.length cu) xs) w w4 from Touch.trans HTW.out.drew ht4)
  have HO4 := Lib.hid ho4
  clear ht4 ho4
  go_wp2
  go_end0
  refine ⟨rfl, HT4.out.mono (fun q hq hq2 => by have := (HRB.out hq2.1).1; rw [← hq2.2] at this; exact this.1), ?_⟩
  have hl : (axpy p xs f ys).length = xs.length := axpy_len _ _ _ _
  exact (HRE.out w4 (axpy p xs f ys) hl (OwR.mono HO4.out (fun q hq _ => ⟨fun e0 => hq.1 (by rw [← List.length_eq_zero_iff, hl, List.length_eq_zero_iff] at e0; exact e0), hq.2⟩)) (fun q hq _ hn => HT4.out.block q hq hn)).mono (fun q hq _ => hq.1)
end Go.Proofs.YtdjgkcnhmfkjoaaDoor

/-! The program's state of a reduction, and an operation applied to it. -/
namespace Go.Proofs.YtdjgkcnhmfkjoaaDoor
open Go Go.RowKit Go.Deep

abbrev tRd : TypeId := 64
def leads (l : List Nat) : List Value := l.map fun n => Value.int .i64 (n : Nat)
theorem leads_len (l : List Nat) : (leads l).length = l.length := by simp [leads]
/-- The state: the box rb of the struct, both grids, the leading columns. -/
structure RSt (w : World) (base : Nat) (Sa St : Nat → Prop) (rb : Nat) (p : Int) (va vt vl : Value) (a t : List (List Int)) (lead : List Nat) (fac : Int) : Prop where
  box : CellsAt w rb tRd [.int .i64 p, va, vt, vl, .int .i64 fac]
  a : OwG w tI tR Sa va a
  t : OwG w tI tR St vt t
  l : w.ownsRow 0 tI 1 vl lead.length (leads lead)
  ld : ∀ k, vl.ownBlock = some k → base ≤ k ∧ k ≠ rb ∧ ¬ Sa k ∧ ¬ St k
  hi : base ≤ rb
  sa : ∀ k, Sa k → base ≤ k ∧ k ≠ rb ∧ ¬ St k ∧ k < w.heap.size
  st : ∀ k, St k → k ≠ rb ∧ k < w.heap.size
section
variable {w w' : World} {base : Nat} {Sa St : Nat → Prop} {rb : Nat} {p : Int} {va vt vl : Value} {a t a2 t2 : List (List Int)} {lead : List Nat} {fac : Int}
theorem CellsAt.five {b : Nat} {ty : TypeId} {v0 v1 v2 v3 v4 : Value} (h : CellsAt w b ty [v0, v1, v2, v3, v4]) : w.cell? ⟨b, 0, none⟩ = some v0 ∧ w.cell? ⟨b, 1, none⟩ = some v1 ∧ w.cell? ⟨b, 2, none⟩ = some v2 ∧ w.cell? ⟨b, 3, none⟩ = some v3 ∧ w.cell? ⟨b, 4, none⟩ = some v4 ∧ (∀ o, w.frozen? ⟨b, o, none⟩ = false) ∧ b < w.heap.size :=
  ⟨h.cell (i := 0) (by simp), h.cell (i := 1) (by simp), h.cell (i := 2) (by simp), h.cell (i := 3) (by simp), h.cell (i := 4) (by simp), h.frozen, h.lt⟩
theorem RSt.frame (h : RSt w base Sa St rb p va vt vl a t lead fac) (hb : Below w.heap.size w w') : RSt w' base Sa St rb p va vt vl a t lead fac :=
  ⟨h.box.below hb h.box.lt, OwG.below h.a hb (fun _ _ hl => hl), OwG.below h.t hb (fun _ _ hl => hl), ownsRow_of_block h.l (fun g _ hl => hb.block g hl), h.ld, h.hi, fun k hk => ⟨(h.sa k hk).1, (h.sa k hk).2.1, (h.sa k hk).2.2.1, Nat.lt_of_lt_of_le (h.sa k hk).2.2.2 hb.size⟩, fun k hk => ⟨(h.st k hk).1, Nat.lt_of_lt_of_le (h.st k hk).2 hb.size⟩⟩
theorem RSt.wroteA (h : RSt w base Sa St rb p va vt vl a t lead fac) (ht : Touch Sa w w') (ho : OwG w' tI tR Sa va a2) : RSt w' base Sa St rb p va vt vl a2 t lead fac :=
  ⟨h.box.touch ht (fun hk => (h.sa _ hk).2.1 rfl), ho, h.t.blocks (fun k hk hl => ht.block k hl (fun h2 => (h.sa k h2).2.2.1 hk)), ownsRow_of_block h.l (fun g hg hl => ht.block g hl (h.ld g hg).2.2.1), h.ld, h.hi, fun k hk => ⟨(h.sa k hk).1, (h.sa k hk).2.1, (h.sa k hk).2.2.1, Nat.lt_of_lt_of_le (h.sa k hk).2.2.2 ht.size⟩, fun k hk => ⟨(h.st k hk).1, Nat.lt_of_lt_of_le (h.st k hk).2 ht.size⟩⟩
theorem RSt.wroteT (h : RSt w base Sa St rb p va vt vl a t lead fac) (ht : Touch St w w') (ho : OwG w' tI tR St vt t2) : RSt w' base Sa St rb p va vt vl a t2 lead fac :=
  ⟨h.box.touch ht (fun hk => (h.st _ hk).1 rfl), h.a.blocks (fun k hk hl => ht.block k hl (fun h2 => (h.sa k hk).2.2.1 h2)), ho, ownsRow_of_block h.l (fun g hg hl => ht.block g hl (h.ld g hg).2.2.2), h.ld, h.hi, fun k hk => ⟨(h.sa k hk).1, (h.sa k hk).2.1, (h.sa k hk).2.2.1, Nat.lt_of_lt_of_le (h.sa k hk).2.2.2 ht.size⟩, fun k hk => ⟨(h.st k hk).1, Nat.lt_of_lt_of_le (h.st k hk).2 ht.size⟩⟩
theorem RSt.setFac (h : RSt w base Sa St rb p va vt vl a t lead fac) (f : Int) : RSt (w.setCell ⟨rb, 4, none⟩ (.int .i64 f)) base Sa St rb p va vt vl a t lead f := by
  have hb : ∀ k, k ≠ rb → (w.setCell ⟨rb, 4, none⟩ (.int .i64 f)).heap[k]? = w.heap[k]? := fun k hk => blk_setCell_other _ _ _ _ (by dsimp only; exact hk)
  exact ⟨h.box.set 4 _, h.a.blocks (fun k hk _ => hb k (h.sa k hk).2.1), h.t.blocks (fun k hk _ => hb k (h.st k hk).1), ownsRow_of_block h.l (fun g hg _ => hb g (h.ld g hg).2.1), h.ld, h.hi, fun k hk => by have := h.sa k hk; rw [nblk_setCell]; exact this, fun k hk => by have := h.st k hk; rw [nblk_setCell]; exact this⟩
theorem RSt.drew (h : RSt w base Sa St rb p va vt vl a t lead fac) : RSt w.drew base Sa St rb p va vt vl a t lead fac := ⟨h.box, OwG.drew h.a, OwG.drew h.t, ownsRow_of_block h.l (fun _ _ _ => rfl), h.ld, h.hi, h.sa, h.st⟩
end
/-- The state has changed: a and t written in place, the factor another one. -/
def Rd (w : World) (base : Nat) (Sa St : Nat → Prop) (rb : Nat) (p : Int) (va vt vl : Value) (a t : List (List Int)) (lead : List Nat) (fac : Int) (e : Ending) (w' : World) : Prop :=
  e = .returned (.tuple #[]) ∧ Touch (fun k => Sa k ∨ St k ∨ k = rb) w w' ∧ RSt w' base Sa St rb p va vt vl a t lead fac
set_option maxHeartbeats 3200000 in
set_option maxRecDepth 100000 in
theorem apply_go (w : World) (base : Nat) (Sa St : Nat → Prop) (rb : Nat) (p : Int) (va vt vl : Value) (a t a2 t2 : List (List Int)) (lead : List Nat) (fac : Int) (k tg sr f : Int) (hk : k = 0 ∨ k = 1 ∨ k = 2) (h : RSt w base Sa St rb p va vt vl a t lead fac) (hidle : idleB k tg sr f = false)
    (h1 : 2 ≤ p) (h2 : p ≤ 97) (hf0 : 0 ≤ fac) (hf1 : fac < p) (hd0 : 0 ≤ detB p k f) (hd1 : detB p k f < p)
    (ha : ∀ w, (∀ k, Sa k → k < w.heap.size) → OwG w tI tR Sa va a → Calls Tryd.prog 77 #[.agg #[.int .i64 k, .int .i64 tg, .int .i64 sr, .int .i64 f], .int .i64 p, va] w (WroteG w Sa va a2))
    (ht : ∀ w, (∀ k, St k → k < w.heap.size) → OwG w tI tR St vt t → Calls Tryd.prog 77 #[.agg #[.int .i64 k, .int .i64 tg, .int .i64 sr, .int .i64 f], .int .i64 p, vt] w (WroteG w St vt t2)) :
    Calls Tryd.prog 74 #[.pointer (some ⟨rb, 0, none⟩), .agg #[.int .i64 k, .int .i64 tg, .int .i64 sr, .int .i64 f]] w (Rd w base Sa St rb p va vt vl a2 t2 lead (fac * detB p k f % p)) := by
  have HID := Lib.hid hidle
  have HH := Lib.hid h
  have HA := Lib.hid ha
  have HT := Lib.hid ht
  clear hidle h ha ht
  go_enter Tryd.func74, Tryd.ntmps74
  go_wp2_with fail
  refine (isIdle_any _ k tg sr f hk).mono ?_
  rintro e w1 ⟨rfl, b1⟩
  rw [HID.out]
  have HX := Lib.hid ((cellsAt_new w #[.int .i64 k, .int .i64 tg, .int .i64 sr, .int .i64 f] tO).below b1 (by simp))
  have HB1 := Lib.hid (Below.trans (((Below.refl w.heap.size w).alloc (Nat.le_refl _) (.cells #[.int .i64 k, .int .i64 tg, .int .i64 sr, .int .i64 f] tO))) (b1.mono (by simp)))
  have HS1 := Lib.hid (HH.out.frame HB1.out)
  have hrw := HH.out.box.lt
  clear b1
  obtain ⟨hr0, hr1, hr2, hr3, hr4, hrf, hrs⟩ := HS1.out.box.five
  have hx0 := HX.out.cell (i := 0) (by simp)
  have hx1 := HX.out.cell (i := 1) (by simp)
  have hx2 := HX.out.cell (i := 2) (by simp)
  have hx3 := HX.out.cell (i := 3) (by simp)
  go_wp2
  go_still_tail 9, (by kernel_rfl)
  change wpList _ _ _ _ _ w1.drew
  go_wp2_with fail
  refine (HA.out w1.drew (fun q hq => (HS1.out.sa q hq).2.2.2) (OwG.drew HS1.out.a)).mono ?_
  rintro e w2 ⟨rfl, t2', o2⟩
  have HS2 := Lib.hid (HS1.out.drew.wroteA t2' o2)
  have HX2 := Lib.hid ((CellsAt.drew HX.out).touch t2' (fun hq => by have := (HS1.out.sa _ hq); have := HH.out.sa _ hq; omega))
  have HT2 := Lib.hid (Touch.trans (S := fun k => Sa k ∨ St k ∨ k = rb) (a := w) (Touch.of_below HB1.out (fun q h1 h2 => absurd h2 (by omega))).drew (t2'.mono (fun q _ hq => Or.inl hq)))
  clear t2' o2 hr0 hr1 hr2 hr3 hr4 hrf hrs hx0 hx1 hx2 hx3
  obtain ⟨hr0, hr1, hr2, hr3, hr4, hrf, hrs⟩ := HS2.out.box.five
  have hx0 := HX2.out.cell (i := 0) (by simp)
  have hx1 := HX2.out.cell (i := 1) (by simp)
  have hx2 := HX2.out.cell (i := 2) (by simp)
  have hx3 := HX2.out.cell (i := 3) (by simp)
  go_wp2
  go_still_tail 9, (by kernel_rfl)
  change wpList _ _ _ _ _ w2.drew
  go_wp2_with fail
  refine (HT.out w2.drew (fun q hq => (HS2.out.st q hq).2) (OwG.drew HS2.out.t)).mono ?_
  rintro e w3 ⟨rfl, t3', o3⟩
  have HS3 := Lib.hid (HS2.out.drew.wroteT t3' o3)
  have HX3 := Lib.hid ((CellsAt.drew HX2.out).touch t3' (fun hq => by have := HH.out.st _ hq; omega))
  have HT3 := Lib.hid (HT2.out.drew.trans (t3'.mono (fun q _ hq => Or.inr (Or.inl hq))))
  clear t3' o3 hr0 hr1 hr2 hr3 hr4 hrf hrs hx0 hx1 hx2 hx3
  obtain ⟨hr0, hr1, hr2, hr3, hr4, hrf, hrs⟩ := HS3.out.box.five
  have hx0 := HX3.out.cell (i := 0) (by simp)
  have hx1 := HX3.out.cell (i := 1) (by simp)
  have hx2 := HX3.out.cell (i := 2) (by simp)
  have hx3 := HX3.out.cell (i := 3) (by simp)
  have hm0 : 0 ≤ fac * detB p k f := Int.mul_nonneg hf0 hd0
  have hm1 : fac * detB p k f ≤ 97 * 97 := Int.mul_le_mul (by omega) (by omega) hd0 (by omega)
  have hp0 : ¬ p = 0 := by omega
  have hwr : IntKind.i64.wrap (fac * detB p k f) = fac * detB p k f := Go.IntWalk.i64_in _ ⟨by omega, by omega⟩
  have htm : (fac * detB p k f).tmod p = fac * detB p k f % p := Int.tmod_eq_emod_of_nonneg hm0
  go_wp2
  go_region_law
    (first
      | (go_simp; go_at_call 78; refine (determinant_any _ p k tg sr f hk h1 h2).mono ?_; rintro e w4 ⟨rfl, b4⟩; have HS4 := Lib.hid (HS3.out.drew.frame b4); have hq0 := HS4.out.box.five.1; have hq4 := HS4.out.box.five.2.2.2.2.1; have hqf := HS4.out.box.five.2.2.2.2.2.1; have HT4 := Lib.hid (HT3.out.drew.trans (Touch.of_below (S := fun k => Sa k ∨ St k ∨ k = rb) b4 (fun q h1 h2 => absurd h2 (by omega))))))
  all_goals go_end0
  all_goals exact ⟨rfl, HT4.out.setCell (Or.inl (Or.inr (Or.inr rfl))) _, HS4.out.setFac _⟩
end Go.Proofs.YtdjgkcnhmfkjoaaDoor

/-! The program's reduction: one column. -/
namespace Go.Proofs.YtdjgkcnhmfkjoaaDoor
open Go Go.RowKit Go.Deep

/-- The state has changed; what was there below base, and not in St, is as it was. -/
def Rd2 (w : World) (base : Nat) (Sa St : Nat → Prop) (rb : Nat) (p : Int) (va vt vl : Value) (a t : List (List Int)) (lead : List Nat) (fac : Int) (e : Ending) (w' : World) : Prop :=
  e = .returned (.tuple #[]) ∧ Touch (fun k => base ≤ k ∨ St k) w w' ∧ RSt w' base Sa St rb p va vt vl a t lead fac
section
variable {w w' : World} {base : Nat} {Sa St : Nat → Prop} {rb : Nat} {p : Int} {va vt vl : Value} {a t : List (List Int)} {lead : List Nat} {fac : Int}
theorem Rd.to2 {e : Ending} {a0 t0 : List (List Int)} {fac0 : Int} (h0 : RSt w base Sa St rb p va vt vl a0 t0 lead fac0) (h : Rd w base Sa St rb p va vt vl a t lead fac e w') : Rd2 w base Sa St rb p va vt vl a t lead fac e w' :=
  ⟨h.1, h.2.1.mono (fun k _ hk => by
    rcases hk with hk | hk | hk
    · exact Or.inl (h0.sa k hk).1
    · exact Or.inr hk
    · rw [hk]; exact Or.inl h0.hi), h.2.2⟩
end
set_option maxHeartbeats 800000 in
theorem apply_idle (w : World) (base : Nat) (Sa St : Nat → Prop) (rb : Nat) (p : Int) (va vt vl : Value) (a t : List (List Int)) (lead : List Nat) (fac : Int) (k tg sr f : Int) (hk : k = 0 ∨ k = 1 ∨ k = 2) (h : RSt w base Sa St rb p va vt vl a t lead fac) (hidle : idleB k tg sr f = true) :
    Calls Tryd.prog 74 #[.pointer (some ⟨rb, 0, none⟩), .agg #[.int .i64 k, .int .i64 tg, .int .i64 sr, .int .i64 f]] w (Rd2 w base Sa St rb p va vt vl a t lead fac) := by
  have HID := Lib.hid hidle
  have HH := Lib.hid h
  clear hidle h
  go_enter Tryd.func74, Tryd.ntmps74
  go_wp2_with fail
  refine (isIdle_any _ k tg sr f hk).mono ?_
  rintro e w1 ⟨rfl, b1⟩
  rw [HID.out]
  have HB1 := Lib.hid (Below.trans (((Below.refl w.heap.size w).alloc (Nat.le_refl _) (.cells #[.int .i64 k, .int .i64 tg, .int .i64 sr, .int .i64 f] tO))) (b1.mono (by simp)))
  clear b1
  go_wp2
  go_end0
  exact ⟨rfl, Touch.of_below HB1.out (fun q h1 h2 => absurd h2 (by omega)), HH.out.frame HB1.out⟩
theorem apply_exch (w : World) (base : Nat) (Sa St : Nat → Prop) (rb : Nat) (p : Int) (va vt vl : Value) (a t : List (List Int)) (lead : List Nat) (fac : Int) (r i : Nat) (h : RSt w base Sa St rb p va vt vl a t lead fac) (h1 : 2 ≤ p) (h2 : p ≤ 97) (hf0 : 0 ≤ fac) (hf1 : fac < p)
    (hr : r < a.length) (hi : i < a.length) (ht : t.length = a.length) :
    Calls Tryd.prog 74 #[.pointer (some ⟨rb, 0, none⟩), .agg #[.int .i64 0, .int .i64 r, .int .i64 i, .int .i64 0]] w (Rd2 w base Sa St rb p va vt vl (swapL r i a) (swapL r i t) lead (if i = r then fac else fac * (p - 1) % p)) := by
  by_cases c : i = r
  · subst c
    rw [if_pos rfl, swapL_self hr, swapL_self (by rw [ht]; exact hr)]
    exact apply_idle w base Sa St rb p va vt vl a t lead fac 0 _ _ 0 (Or.inl rfl) h (by simp [idleB])
  · rw [if_neg c]
    refine (apply_go w base Sa St rb p va vt vl a t _ _ lead fac 0 r i 0 (Or.inl rfl) h (by simp [idleB]; omega) h1 h2 hf0 hf1 (by simp [detB]; omega) (by simp [detB]; omega) (fun w hS ho => applyTo_exch w Sa va p 0 r i a ho hS hr hi (fun e => c e.symm)) (fun w hS ho => applyTo_exch w St vt p 0 r i t ho hS (by rw [ht]; exact hr) (by rw [ht]; exact hi) (fun e => c e.symm))).mono fun e w' hh => ?_
    have := hh.to2 h
    simpa [detB] using this
theorem scaleAt_one {p : Int} {rows : List (List Int)} {r : Nat} (h : ∀ x, x ∈ rows.getD r [] → 0 ≤ x ∧ x < p) : scaleAt p r 1 rows = rows := by
  unfold scaleAt
  rw [scale_one h]
  apply List.ext_getElem?
  intro i
  rw [List.getElem?_set]
  by_cases c : r = i
  · subst c
    rw [if_pos rfl]
    by_cases h2 : r < rows.length
    · rw [if_pos h2, List.getD_eq_getElem?_getD, List.getElem?_eq_getElem h2]
      rfl
    · rw [if_neg h2, List.getElem?_eq_none (by omega)]
  · rw [if_neg c]
theorem set_axpy_zero {p : Int} {rows : List (List Int)} {r : Nat} {s : List Int} (h : ∀ x, x ∈ rows.getD r [] → 0 ≤ x ∧ x < p) : rows.set r (axpy p (rows.getD r []) 0 s) = rows := by
  rw [axpy_zero h]
  apply List.ext_getElem?
  intro i
  rw [List.getElem?_set]
  by_cases c : r = i
  · subst c
    rw [if_pos rfl]
    by_cases h2 : r < rows.length
    · rw [if_pos h2, List.getD_eq_getElem?_getD, List.getElem?_eq_getElem h2]
      rfl
    · rw [if_neg h2, List.getElem?_eq_none (by omega)]
  · rw [if_neg c]
theorem apply_mult (w : World) (base : Nat) (Sa St : Nat → Prop) (rb : Nat) (p : Int) (va vt vl : Value) (n c wd : Nat) (a t : List (List Int)) (lead : List Nat) (fac f : Int) (r : Nat) (h : RSt w base Sa St rb p va vt vl a t lead fac) (h1 : 2 ≤ p) (h2 : p ≤ 97) (hf0 : 0 ≤ fac) (hf1 : fac < p)
    (hg0 : 0 ≤ f) (hg1 : f < p) (hr : r < n) (ha : Mat p n c a) (ht : Mat p n wd t) (hn : n ≤ 1000000) (hc : c ≤ 1000000) (hw : wd ≤ 1000000) :
    Calls Tryd.prog 74 #[.pointer (some ⟨rb, 0, none⟩), .agg #[.int .i64 1, .int .i64 r, .int .i64 0, .int .i64 f]] w (Rd2 w base Sa St rb p va vt vl (scaleAt p r f a) (scaleAt p r f t) lead (fac * f % p)) := by
  by_cases c1 : f = 1
  · subst c1
    rw [scaleAt_one (ha.row hr).2, scaleAt_one (ht.row hr).2, Int.mul_one, Int.emod_eq_of_lt hf0 hf1]
    exact apply_idle w base Sa St rb p va vt vl a t lead fac 1 _ _ 1 (Or.inr (Or.inl rfl)) h (by simp [idleB])
  · refine (apply_go w base Sa St rb p va vt vl a t _ _ lead fac 1 r 0 f (Or.inr (Or.inl rfl)) h (by simp [idleB]; omega) h1 h2 hf0 hf1 (by simp [detB]; omega) (by simp [detB]; omega)
      (fun w hS ho => applyTo_mult w Sa va p f 0 r a ho (by rw [ha.1]; exact hr) (by rw [ha.1]; exact hn) h1 h2 hg0 hg1 ⟨by rw [(ha.row hr).1]; exact hc, (ha.row hr).2⟩)
      (fun w hS ho => applyTo_mult w St vt p f 0 r t ho (by rw [ht.1]; exact hr) (by rw [ht.1]; exact hn) h1 h2 hg0 hg1 ⟨by rw [(ht.row hr).1]; exact hw, (ht.row hr).2⟩)).mono fun e w' hh => ?_
    have := hh.to2 h
    simpa [detB] using this
theorem apply_add (w : World) (base : Nat) (Sa St : Nat → Prop) (rb : Nat) (p : Int) (va vt vl : Value) (n c wd : Nat) (a t : List (List Int)) (lead : List Nat) (fac f : Int) (r s : Nat) (h : RSt w base Sa St rb p va vt vl a t lead fac) (h1 : 2 ≤ p) (h2 : p ≤ 97) (hf0 : 0 ≤ fac) (hf1 : fac < p)
    (hg0 : 0 ≤ f) (hg1 : f < p) (hr : r < n) (hs : s < n) (hrs : s ≠ r) (ha : Mat p n c a) (ht : Mat p n wd t) (hn : n ≤ 1000000) (hc : c ≤ 1000000) (hw : wd ≤ 1000000) :
    Calls Tryd.prog 74 #[.pointer (some ⟨rb, 0, none⟩), .agg #[.int .i64 2, .int .i64 r, .int .i64 s, .int .i64 f]] w (Rd2 w base Sa St rb p va vt vl (a.set r (axpy p (a.getD r []) f (a.getD s []))) (t.set r (axpy p (t.getD r []) f (t.getD s []))) lead fac) := by
  by_cases c1 : f = 0
  · subst c1
    rw [set_axpy_zero (ha.row hr).2, set_axpy_zero (ht.row hr).2]
    exact apply_idle w base Sa St rb p va vt vl a t lead fac 2 _ _ 0 (Or.inr (Or.inr rfl)) h (by simp [idleB])
  · refine (apply_go w base Sa St rb p va vt vl a t _ _ lead fac 2 r s f (Or.inr (Or.inr rfl)) h (by simp [idleB]; omega) h1 h2 hf0 hf1 (by simp [detB]) (by simp [detB]; omega)
      (fun w hS ho => applyTo_add w Sa va p f r s a ho (by rw [ha.1]; exact hr) (by rw [ha.1]; exact hs) hrs (by rw [ha.1]; exact hn) h1 h2 hg0 hg1 ⟨by rw [(ha.row hr).1]; exact hc, (ha.row hr).2⟩ ⟨by rw [(ha.row hr).1, (ha.row hs).1], (ha.row hs).2⟩)
      (fun w hS ho => applyTo_add w St vt p f r s t ho (by rw [ht.1]; exact hr) (by rw [ht.1]; exact hs) hrs (by rw [ht.1]; exact hn) h1 h2 hg0 hg1 ⟨by rw [(ht.row hr).1]; exact hw, (ht.row hr).2⟩ ⟨by rw [(ht.row hr).1, (ht.row hs).1], (ht.row hs).2⟩)).mono fun e w' hh => ?_
    have := hh.to2 h
    simpa [detB, Int.emod_eq_of_lt hf0 hf1] using this
end Go.Proofs.YtdjgkcnhmfkjoaaDoor

/-! The program's reduction of one column, whole. -/
namespace Go.Proofs.YtdjgkcnhmfkjoaaDoor
open Go Go.RowKit Go.Deep

/-- The first k rows cleaned. -/
def elimS (p : Int) (r col : Nat) (b rows : List (List Int)) (k : Nat) : List (List Int) := upd (elimRow p r col b (rows.getD r [])) k rows
theorem elimS_len (p : Int) (r col : Nat) (b rows : List (List Int)) (k : Nat) : (elimS p r col b rows k).length = rows.length := upd_len _ _ _
theorem elimS_get {p : Int} {r col : Nat} {b rows : List (List Int)} {k m : Nat} (h : k ≤ m) : (elimS p r col b rows k).getD m [] = rows.getD m [] := upd_getD _ h _ _
theorem elimS_piv {p : Int} {r col : Nat} {b rows : List (List Int)} {k : Nat} (hr : r < rows.length) : (elimS p r col b rows k).getD r [] = rows.getD r [] := by
  by_cases h : k ≤ r
  · exact elimS_get h
  · unfold elimS
    rw [upd_done _ (by omega) _ hr]
    unfold elimRow
    rw [if_pos rfl]
theorem elimS_end {p : Int} {r col : Nat} {b rows : List (List Int)} {k : Nat} (h : rows.length ≤ k) : elimS p r col b rows k = elim p r col b rows := upd_all _ h
theorem elimS_skip {p : Int} {r col : Nat} {b rows : List (List Int)} (hr : r < rows.length) : elimS p r col b rows (r + 1) = elimS p r col b rows r := by
  unfold elimS
  rw [← upd_step _ hr []]
  have e : elimRow p r col b (rows.getD r []) r (rows.getD r []) = rows.getD r [] := by unfold elimRow; rw [if_pos rfl]
  rw [e]
  apply List.ext_getElem?
  intro i
  rw [List.getElem?_set, upd_len]
  by_cases c : r = i
  · subst c
    rw [if_pos rfl, if_pos hr, upd_same? _ (Nat.le_refl r), List.getD_eq_getElem?_getD, List.getElem?_eq_getElem hr]
    rfl
  · rw [if_neg c]
theorem elimS_next {p : Int} {r col : Nat} {b rows : List (List Int)} {k : Nat} (hk : k < rows.length) (hr : r < rows.length) (hkr : k ≠ r) :
    (elimS p r col b rows k).set k (axpy p ((elimS p r col b rows k).getD k []) ((p - at2 b k col) % p) ((elimS p r col b rows k).getD r [])) = elimS p r col b rows (k + 1) := by
  rw [elimS_get (Nat.le_refl k), elimS_piv hr]
  unfold elimS
  rw [← upd_step _ hk []]
  congr 1
  unfold elimRow
  rw [if_neg hkr]
theorem elimS_mat {p : Int} (hp : 2 ≤ p) {n c : Nat} {rows : List (List Int)} (h : Mat p n c rows) (r col : Nat) (b : List (List Int)) (k : Nat) : Mat p n c (elimS p r col b rows k) := by
  refine Mat.intro (by rw [elimS_len, h.1]) fun i hi => ?_
  by_cases hk : k ≤ i
  · rw [elimS_get hk]
    exact ⟨(h.row hi).1, fun j hj => h.el hi hj⟩
  · unfold elimS
    rw [upd_done _ (by omega) _ (by rw [h.1]; exact hi)]
    unfold elimRow
    split
    · exact ⟨(h.row hi).1, fun j hj => h.el hi hj⟩
    · refine ⟨by rw [axpy_len, (h.row hi).1], fun j hj => ?_⟩
      exact axpy_bd hp _ (getD_mem' (by rw [axpy_len, (h.row hi).1]; exact hj) 0)
theorem leads_snoc (l : List Nat) (c : Nat) : leads (l ++ [c]) = leads l ++ [Value.int .i64 (c : Nat)] := by simp [leads]
/-- One leading column more. -/
theorem RSt.push {w w1 : World} {base : Nat} {Sa St : Nat → Prop} {rb : Nat} {p : Int} {va vt vl : Value} {a t : List (List Int)} {lead : List Nat} {fac : Int} {col : Nat} {ob : Obj} (h : RSt w base Sa St rb p va vt vl a t lead fac) (hbw : base ≤ w.heap.size) {g cap : Nat}
    (hown : w1.ownsRow 0 tI 1 (.slice (some ⟨g, 0, none⟩) (lead.length + 1) cap) (lead.length + 1) (leads lead ++ [Value.int .i64 (col : Nat)])) (hgrow : (w.alloc ob).grownBy w1 vl.ownBlock) (hat : vl.ownBlock = some g ∨ g = w.heap.size + 1) :
    RSt (w1.setCell ⟨rb, 3, none⟩ (.slice (some ⟨g, 0, none⟩) (lead.length + 1) cap)) base Sa St rb p va vt (.slice (some ⟨g, 0, none⟩) (lead.length + 1) cap) a t (lead ++ [col]) fac ∧
    Touch (fun k => base ≤ k ∨ St k) w (w1.setCell ⟨rb, 3, none⟩ (.slice (some ⟨g, 0, none⟩) (lead.length + 1) cap)) := by
  have hsz : w.heap.size + 1 ≤ w1.heap.size := by have := hgrow.size; simpa using this
  have hk1 : ∀ k, k < w.heap.size → vl.ownBlock ≠ some k → w1.heap[k]? = w.heap[k]? := fun k hk hn => (hgrow.block k (by rw [nblk_alloc]; omega) (fun e => hn e.symm)).trans (blk_alloc_lt _ _ _ hk)
  have hrl := h.box.lt
  have hb : ∀ k, k < w.heap.size → k ≠ rb → vl.ownBlock ≠ some k → (w1.setCell ⟨rb, 3, none⟩ (.slice (some ⟨g, 0, none⟩) (lead.length + 1) cap)).heap[k]? = w.heap[k]? := fun k hk hkr hn => (blk_setCell_other _ _ _ _ (by dsimp only; exact hkr)).trans (hk1 k hk hn)
  have hgr : g ≠ rb := by
    rcases hat with h1 | h1
    · exact (h.ld g h1).2.1
    · omega
  refine ⟨⟨?_, h.a.blocks (fun k hk hl => hb k hl (h.sa k hk).2.1 (fun e => (h.ld k e).2.2.1 hk)), h.t.blocks (fun k hk hl => hb k hl (h.st k hk).1 (fun e => (h.ld k e).2.2.2 hk)), ?_, fun k hk => ?_, h.hi, fun k hk => ⟨(h.sa k hk).1, (h.sa k hk).2.1, (h.sa k hk).2.2.1, by rw [nblk_setCell]; have := (h.sa k hk).2.2.2; omega⟩, fun k hk => ⟨(h.st k hk).1, by rw [nblk_setCell]; have := (h.st k hk).2; omega⟩⟩, ?_⟩
  · exact (h.box.of_block (hk1 rb hrl (fun e => (h.ld rb e).2.1 rfl))).set 3 _
  · rw [leads_snoc, List.length_append, List.length_singleton]
    exact ownsRow_of_block hown fun q hq _ => blk_setCell_other _ _ _ _ (by dsimp only; simp only [Value.ownBlock, Option.some.injEq] at hq; omega)
  · simp only [Value.ownBlock, Option.some.injEq] at hk
    subst hk
    rcases hat with h1 | h1
    · exact h.ld g h1
    · exact ⟨by omega, hgr, fun hk => by have := (h.sa g hk).2.2.2; omega, fun hk => by have := (h.st g hk).2; omega⟩
  · refine ⟨hgrow.os, hgrow.tape, hgrow.output, by rw [nblk_setCell]; omega, fun k hk hn => hb k hk (fun e => hn (Or.inl (by rw [e]; exact h.hi))) (fun e => hn (Or.inl (h.ld k e).1))⟩
set_option maxHeartbeats 6400000 in
set_option maxRecDepth 100000 in
theorem reduceColumn_any (w : World) (base : Nat) (Sa St : Nat → Prop) (rb : Nat) (p : Int) (va vt vl : Value) (n c wd col : Nat) (s : Red) (h : RSt w base Sa St rb p va vt vl s.a s.t s.lead s.fac) (hI : RInv p n c wd col s) (hf : fld p = true) (hcol : col < c) (hbw : base ≤ w.heap.size)
    (hn : n ≤ 1000000) (hc : c ≤ 1000000) (hw : wd ≤ 1000000) :
    Calls Tryd.prog 71 #[.pointer (some ⟨rb, 0, none⟩), .int .i64 col] w fun e w' => e = .returned (.tuple #[]) ∧ Touch (fun k => base ≤ k ∨ St k) w w' ∧ ∃ vl', RSt w' base Sa St rb p va vt vl' (stepCol p col s).a (stepCol p col s).t (stepCol p col s).lead (stepCol p col s).fac := by
  obtain ⟨i0, hi0, hz0, hz1, hz2⟩ := info_parts infoI
  obtain ⟨h1, h2⟩ := fld_bd hf
  have HI := Lib.hid hI
  have HS := Lib.hid h
  have HF := Lib.hid hf
  have hlen := hI.a.1
  have hlent := hI.t.1
  have hrk := hI.rank
  obtain ⟨Aa, ca, rfl⟩ := OwG.len h.a
  have hll : ∃ Al cl, vl = .slice Al s.lead.length cl := by
    rcases h.l.2 with ⟨e, h0⟩ | ⟨g, cap, cur, e, _⟩
    · exact ⟨none, 0, by rw [e, h0]⟩
    · exact ⟨_, cap, e⟩
  obtain ⟨Al, cl, rfl⟩ := hll
  have HLN := Lib.hid hlen
  have HLT := Lib.hid hlent
  rw [hlen] at h HS ⊢
  clear hI hf hlen hlent
  obtain ⟨hr0, hr1, hr2, hr3, hr4, hrf, hrs⟩ := h.box.five
  clear h
  have hln : s.lead.length ≤ 1000000 := by omega
  go_enter Tryd.func71, Tryd.ntmps71
  go_wp2
  go_loop [5] (fun i => ∃ k : Nat, s.lead.length ≤ k ∧ k ≤ n ∧ i = .int .i64 k ∧ Hid (∀ j, s.lead.length ≤ j → j < k → at2 s.a j col = 0)) (fun i => n - (intOf i).toNat)
  case atStart => exact ⟨s.lead.length, Nat.le_refl _, hrk, rfl, Lib.hid (fun j a b => absurd b (by omega))⟩
  case round =>
    obtain ⟨k, hk1, hk2, rfl, HZ⟩ := hrel
    by_cases hlt : k < n
    · have hltI : (k : Int) < (n : Int) := by omega
      obtain ⟨g, c1, b, c2, e, hg, hgl, hcg, hbS, hbl, -, hcb, hfb, -⟩ := HS.out.a.at (r := k) (j := col) (by rw [HLN.out]; exact hlt) (by rw [(HI.out.a.row hlt).1]; exact hcol)
      rw [HLN.out] at e
      obtain ⟨rfl, -, rfl⟩ := sliceEq e
      rw [(HI.out.a.row hlt).1] at hcg
      have HAT := Lib.hid (show (s.a.getD k []).getD col 0 = at2 s.a k col from rfl)
      rw [HAT.out] at hcb
      have hcolI : (col : Int) < (c : Int) := by omega
      clear e hg hgl hbS hbl hfb
      by_cases hz : at2 s.a k col = 0
      · have HZ2 := Lib.hid hz
        rw [hz] at hcb
        clear hz
        go_wp2
        go_round
        case rel => exact ⟨k + 1, by omega, by omega, by go_num, Lib.hid (fun j a b => by
          by_cases cj : j = k
          · rw [cj]; exact HZ2.out
          · exact HZ.out j a (by omega))⟩
        case measure => simp [intOf]; omega
      · have hnz : (at2 s.a k col == 0) = false := by simp [hz]
        have HPV := Lib.hid (show piv s.a col s.lead.length = k from piv_eq hk1 (by rw [HLN.out]; exact hk2) HZ.out (fun _ => hz))
        have HST := Lib.hid (show stepCol p col s = clean p col (mult p col (exch p k s)) by unfold stepCol; rw [HPV.out, if_pos (by rw [HLN.out]; exact hlt)])
        have HNZ := Lib.hid hz
        have hne : ¬ (k : Int) = (n : Int) := by omega
        have hneb : ((k : Int) == (n : Int)) = false := by simp; omega
        clear hz
        have hrn : s.lead.length < n := by omega
        go_wp2_with fail
        refine (apply_exch w base Sa St rb p (.slice (some ⟨g, 0, none⟩) n ca) vt (.slice Al s.lead.length cl) s.a s.t s.lead s.fac s.lead.length k HS.out h1 h2 (by have := HI.out.fac0; omega) HI.out.fac0.2 (by rw [HLN.out]; exact hrn) (by rw [HLN.out]; exact hlt) (by rw [HLN.out, HLT.out])).mono ?_
        rintro e w2 ⟨rfl, t2, hs2⟩
        have HT2 := Lib.hid t2
        have HI1 := Lib.hid (HI.out.exch h1 hk1 hlt)
        have HX1 := Lib.hid (HI.out.exch_at hk1 hlt)
        have HS1 := Lib.hid (show RSt w2 base Sa St rb p (.slice (some ⟨g, 0, none⟩) n ca) vt (.slice Al s.lead.length cl) (exch p k s).a (exch p k s).t s.lead (exch p k s).fac from hs2)
        have HL1 := Lib.hid (show (exch p k s).lead = s.lead from rfl)
        clear t2 hs2 hr0 hr1 hr2 hr3 hr4 hrf hrs hcg hcb hltI hcolI
        generalize exch p k s = s1 at HI1 HX1 HS1 HL1 HST
        -- the row multiplied
        have hlen1 := HI1.out.a.1
        obtain ⟨g', c1', b', c2', e, -, -, hcg, -, -, -, hcb, -, -⟩ := HS1.out.a.at (r := s.lead.length) (j := col) (by rw [HI1.out.a.1]; exact hrn) (by rw [(HI1.out.a.row hrn).1]; exact hcol)
        rw [hlen1] at e
        obtain ⟨e1, -, -⟩ := sliceEq e
        obtain rfl : g = g' := by injection e1 with e1; injection e1
        rw [(HI1.out.a.row hrn).1] at hcg
        have hat : (s1.a.getD s.lead.length []).getD col 0 = at2 s1.a s.lead.length col := rfl
        rw [hat] at hcb
        have hxb := HI1.out.a.el hrn hcol
        rw [hat] at hxb
        have hnz1 : at2 s1.a s.lead.length col ≠ 0 := by rw [HX1.out]; exact HNZ.out
        obtain ⟨HI2, HI2u⟩ := HI1.out.mult HF.out (show s1.lead.length < n by rw [HL1.out]; exact hrn) hcol (by rw [HL1.out]; exact hnz1)
        replace HI2 := Lib.hid HI2
        have HM2 := Lib.hid (show mult p col s1 = { a := scaleAt p s.lead.length (inv p (at2 s1.a s.lead.length col)) s1.a, t := scaleAt p s.lead.length (inv p (at2 s1.a s.lead.length col)) s1.t, lead := s.lead, det := s1.det * at2 s1.a s.lead.length col % p, fac := s1.fac * inv p (at2 s1.a s.lead.length col) % p } by unfold mult; rw [HL1.out])
        have hIb := inv_bd h1 (at2 s1.a s.lead.length col)
        clear hlen1 e e1 hat hnz1 HI2u
        generalize hxe : at2 s1.a s.lead.length col = x at hcb hxb HM2 hIb
        obtain ⟨hx0, hx1⟩ := hxb
        clear hxe
        obtain ⟨hr0, hr1, hr2, hr3, hr4, hrf, hrs⟩ := HS1.out.box.five
        have hrI : (s.lead.length : Int) < (n : Int) := by omega
        have hcolI : (col : Int) < (c : Int) := by omega
        go_wp2
        go_still_tail 18, (by kernel_rfl)
        still_call ((inverseIn_any p x _ h1 h2 hx0 hx1).mono fun _ _ h => ⟨h.1, h.2.symm⟩)
        repeat still_step
        refine wpStill_nil ?_
        change wpList _ _ _ _ _ w2.drew
        go_wp2_with fail
        refine (apply_mult w2.drew base Sa St rb p (.slice (some ⟨g, 0, none⟩) n ca) vt (.slice Al s.lead.length cl) n c wd s1.a s1.t s.lead s1.fac (inv p x) s.lead.length HS1.out.drew h1 h2 (by have := HI1.out.fac0; omega) HI1.out.fac0.2 hIb.1 hIb.2 hrn HI1.out.a HI1.out.t hn hc hw).mono ?_
        rintro e w3 ⟨rfl, t3, hs3⟩
        have HT3 := Lib.hid (HT2.out.drew.trans t3)
        have HS2 := Lib.hid (show RSt w3 base Sa St rb p (.slice (some ⟨g, 0, none⟩) n ca) vt (.slice Al s.lead.length cl) (mult p col s1).a (mult p col s1).t s.lead (mult p col s1).fac by rw [HM2.out]; exact hs3)
        have HL2 := Lib.hid (show (mult p col s1).lead = s.lead by rw [HM2.out])
        clear t3 hs3 hr0 hr1 hr2 hr3 hr4 hrf hrs hcg hcb hx0 hx1 HM2 hIb
        generalize mult p col s1 = s2 at HI2 HS2 HL2 HST
        obtain ⟨hr0, hr1, hr2, hr3, hr4, hrf, hrs⟩ := HS2.out.box.five
        go_wp2
        clear hr0 hr1 hr2 hr3 hr4 hrf hrs
        go_loopw [72, 6, 7] (fun i _ _ wr => ∃ k' : Nat, k' ≤ n ∧ i = .int .i64 k' ∧ Hid (Touch (fun k => base ≤ k ∨ St k) w wr) ∧ Hid (RSt wr base Sa St rb p (.slice (some ⟨g, 0, none⟩) n ca) vt (.slice Al s.lead.length cl) (elimS p s.lead.length col s2.a s2.a k') (elimS p s.lead.length col s2.a s2.t k') s.lead s2.fac)) (fun i _ _ _ => n - (intOf i).toNat)
        case atStart => exact ⟨0, Nat.zero_le _, rfl, HT3, Lib.hid (by unfold elimS; rw [upd_zero, upd_zero]; exact HS2.out)⟩
        case round =>
          obtain ⟨k', hk', rfl, HT4, HS4⟩ := hrel
          obtain ⟨hr0, hr1, hr2, hr3, hr4, hrf, hrs⟩ := HS4.out.box.five
          by_cases hlt' : k' < n
          · have HMA := Lib.hid (elimS_mat h1 HI2.out.a s.lead.length col s2.a k')
            have HMT := Lib.hid (elimS_mat h1 HI2.out.t s.lead.length col s2.a k')
            obtain ⟨g', c1', b', c2', e, -, -, hcg, -, -, -, hcb, -, -⟩ := HS4.out.a.at (r := k') (j := col) (by rw [HMA.out.1]; exact hlt') (by rw [(HMA.out.row hlt').1]; exact hcol)
            rw [HMA.out.1] at e
            obtain ⟨e1, -, -⟩ := sliceEq e
            obtain rfl : g = g' := by injection e1 with e1; injection e1
            rw [(HMA.out.row hlt').1] at hcg
            have hat : ((elimS p s.lead.length col s2.a s2.a k').getD k' []).getD col 0 = at2 s2.a k' col := by rw [elimS_get (Nat.le_refl k')]; rfl
            rw [hat] at hcb
            have hxb := HI2.out.a.el hlt' hcol
            have hat2 : (s2.a.getD k' []).getD col 0 = at2 s2.a k' col := rfl
            rw [hat2] at hxb
            clear e e1 hat hat2
            have hkI : (k' : Int) < (n : Int) := by omega
            by_cases hkr : k' = s.lead.length
            · have hq : ((k' : Int) != (s.lead.length : Int)) = false := by simp [hkr]
              have HKR := Lib.hid hkr
              clear hkr
              go_wp2
              go_roundw
              case rel => exact ⟨k' + 1, by omega, by go_num, HT4, Lib.hid (by
                have h := HS4.out
                rw [HKR.out] at h ⊢
                rw [elimS_skip (by rw [HI2.out.a.1]; exact hrn), elimS_skip (by rw [HI2.out.t.1]; exact hrn)]
                exact h)⟩
              case measure => simp [intOf]; omega
            · have hq : ((k' : Int) != (s.lead.length : Int)) = true := by simp; omega
              have HKR := Lib.hid hkr
              have HNA := Lib.hid (elimS_next (p := p) (col := col) (b := s2.a) (rows := s2.a) (by rw [HI2.out.a.1]; exact hlt') (by rw [HI2.out.a.1]; exact hrn) hkr)
              have HNT := Lib.hid (elimS_next (p := p) (col := col) (b := s2.a) (rows := s2.t) (by rw [HI2.out.t.1]; exact hlt') (by rw [HI2.out.t.1]; exact hrn) hkr)
              clear hkr
              generalize hxe : at2 s2.a k' col = x at hcb hxb HNA HNT
              obtain ⟨hx0, hx1⟩ := hxb
              clear hxe
              have hp0 : ¬ p = 0 := by omega
              have hwr : IntKind.i64.wrap (p - x) = p - x := Go.IntWalk.i64_in _ ⟨by omega, by omega⟩
              have htm : (p - x).tmod p = (p - x) % p := Int.tmod_eq_emod_of_nonneg (by omega)
              have HFB := Lib.hid (emod_bd h1 (p - x))
              have HNEG := Lib.hid (show -x % p = (p - x) % p by rw [show p - x = -x + p by omega, Int.add_emod_right])
              go_wp2
              go_still_tail 18, (by kernel_rfl)
              change wpList _ _ _ _ _ wr.drew
              go_wp2_with fail
              rw [HNEG.out]
              refine (apply_add wr.drew base Sa St rb p (.slice (some ⟨g, 0, none⟩) n ca) vt (.slice Al s.lead.length cl) n c wd (elimS p s.lead.length col s2.a s2.a k') (elimS p s.lead.length col s2.a s2.t k') s.lead s2.fac ((p - x) % p) k' s.lead.length HS4.out.drew h1 h2 (by have := HI2.out.fac0; omega) HI2.out.fac0.2 HFB.out.1 HFB.out.2 hlt' hrn (fun e => HKR.out e.symm) HMA.out HMT.out hn hc hw).mono ?_
              rintro e w5 ⟨rfl, t5, hs5⟩
              have HT5 := Lib.hid (HT4.out.drew.trans t5)
              have HS5 := Lib.hid hs5
              clear t5 hs5
              go_wp2
              go_roundw
              case rel => exact ⟨k' + 1, by omega, by go_num, HT5, Lib.hid (by
                have h := HS5.out
                rw [HNA.out, HNT.out] at h
                exact h)⟩
              case measure => simp [intOf]; omega
          · have HEA := Lib.hid (elimS_end (p := p) (r := s.lead.length) (col := col) (b := s2.a) (rows := s2.a) (k := k') (by rw [HI2.out.a.1]; omega))
            have HET := Lib.hid (elimS_end (p := p) (r := s.lead.length) (col := col) (b := s2.a) (rows := s2.t) (k := k') (by rw [HI2.out.t.1]; omega))
            have hrw := HS4.out.box.lt
            have hgn : ¬ (k' : Int) < (n : Int) := by omega
            have hll2 : Value.slice Al s.lead.length cl = Value.slice Al s.lead.length cl := rfl
            go_wp2_with (at_builtin; refine wpList_append_lies _ rfl _ _ 40 rfl 0 3 i0 (.int .i64 0) 1 8 Tryd.underlying40 hi0 hz0 hz1 hz2 rfl (by omega) (.slice Al s.lead.length cl) s.lead.length (leads s.lead) rfl (HS4.out.l.alloc _) ⟨wr.heap.size, 0, none⟩ 1 1 [.int .i64 (col : Nat)] rfl rfl (World.news_of_block (cs := #[.int .i64 (col : Nat)]) (t := 3) (fr := (0, 0)) (heap_alloc_new wr _)) (by simp [Value.oneCell']) (by omega) (by unfold maxLen; omega) (by omega) (Nat.zero_le _) (wr.heap.size + 1) (by simp) ?_; intro gg cap w6 hown hgrow hat hlt6; have hc6 : w6.cell? ⟨rb, 3, none⟩ = some (.slice Al s.lead.length cl) := (World.cell?_of_block (w := wr) ((hgrow.block rb (by rw [nblk_alloc]; omega) (fun e => (HS4.out.ld rb e.symm).2.1 rfl)).trans (blk_alloc_lt _ _ _ hrw))).trans hr3; have hf6 : w6.frozen? ⟨rb, 3, none⟩ = false := (World.frozen?_of_block (w := wr) ((hgrow.block rb (by rw [nblk_alloc]; omega) (fun e => (HS4.out.ld rb e.symm).2.1 rfl)).trans (blk_alloc_lt _ _ _ hrw))).trans (hrf 3))
            obtain ⟨hp1, hp2⟩ := HS4.out.push (col := col) (Nat.le_trans hbw HT4.out.size) hown hgrow hat
            have HP1 := Lib.hid hp1
            have HP2 := Lib.hid (HT4.out.trans hp2)
            clear hown hgrow hat hp1 hp2
            go_end0
            refine ⟨rfl, HP2.out, .slice (some ⟨gg, 0, none⟩) (s.lead.length + 1) cap, ?_⟩
            have h := HP1.out
            rw [HEA.out, HET.out] at h
            rw [HST.out]
            unfold clean
            rw [HL2.out]
            exact h
    · obtain rfl : k = n := by omega
      have HPV := Lib.hid (show piv s.a col s.lead.length = k from piv_eq hk1 (by rw [HLN.out]; exact hk2) HZ.out (fun h => absurd h (by rw [HLN.out]; exact hlt)))
      have HST := Lib.hid (show stepCol p col s = s by unfold stepCol; rw [HPV.out, if_neg (by rw [HLN.out]; exact hlt)])
      go_wp2
      refine bodyPost_ret (results_none rfl _ _ _) rfl ?_
      refine ⟨rfl, Touch.refl _ _, .slice Al s.lead.length cl, ?_⟩
      rw [HST.out]
      exact HS.out
end Go.Proofs.YtdjgkcnhmfkjoaaDoor
