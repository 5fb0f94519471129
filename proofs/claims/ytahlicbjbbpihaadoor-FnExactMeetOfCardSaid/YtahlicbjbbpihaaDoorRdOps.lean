/- Row operations of the program: what each does to a grid of one's own. -/
import Derived.Test.YtahlicbjbbpihaaDoorMxK
import Derived.Test.YtahlicbjbbpihaaDoorMxFuncs
import Derived.Test.YtahlicbjbbpihaaDoorRed
import Derived.Deep.RegionHeld3
import Derived.StillTailTactics
import Derived.BigRegion
import Derived.Deep.QuietTactic
import Derived.BigQuiet
namespace Go.Proofs.YtahlicbjbbpihaaDoor
set_option maxRecDepth 100000
open Go Go.RowKit Go.Deep

abbrev tO : TypeId := 125
/-- Two rows' slices exchanged. -/
theorem OwG.swap {w : World} {ti ts : TypeId} {S : Nat → Prop} {v : Value} {rows : List (List Int)} (h : OwG w ti ts S v rows) {r s : Nat} (hr : r < rows.length) (hs : s < rows.length) :
    ∃ g c A1 l1 c1 A2 l2 c2, v = .slice (some ⟨g, 0, none⟩) rows.length c ∧ S g ∧ g < w.heap.size ∧ w.cell? ⟨g, r, none⟩ = some (.slice A1 l1 c1) ∧ w.cell? ⟨g, s, none⟩ = some (.slice A2 l2 c2) ∧ (∀ o, w.frozen? ⟨g, o, none⟩ = false) ∧
      OwG ((w.setCell ⟨g, r, none⟩ (.slice A2 l2 c2)).setCell ⟨g, s, none⟩ (.slice A1 l1 c1)) ti ts S v (swapL r s rows) := by
  obtain ⟨A, c, e, h⟩ := h
  rcases h with h | ⟨g, vs, e2, h3⟩
  · subst h
    exact absurd hr (Nat.not_lt_zero _)
  · subst e2
    have hrv : r < vs.length := by rw [h3.len]; exact hr
    have hsv : s < vs.length := by rw [h3.len]; exact hs
    obtain ⟨A1, c1, hu1⟩ := (h3.row r hr).len
    obtain ⟨A2, c2, hu2⟩ := (h3.row s hs).len
    refine ⟨g, c, A1, _, c1, A2, _, c2, e, h3.inS, h3.outer.lt, by rw [← hu1]; exact h3.cell hr, by rw [← hu2]; exact h3.cell hs, h3.outer.frozen, some ⟨g, 0, none⟩, c, by rw [swapL_len]; exact e, Or.inr ⟨g, (vs.set r (vs.getD s .nilFunc)).set s (vs.getD r .nilFunc), rfl, ?_⟩⟩
    rw [← hu1, ← hu2]
    -- where row m of the new grid comes from
    let f : Nat → Nat := fun m => if m = r then s else if m = s then r else m
    have hf : ∀ m, m < rows.length → f m < rows.length := fun m hm => by
      show (if m = r then s else if m = s then r else m) < rows.length
      split
      · exact hs
      · split
        · exact hr
        · exact hm
    have hinj : ∀ m n, m ≠ n → f m ≠ f n := fun m n hmn => by
      show (if m = r then s else if m = s then r else m) ≠ (if n = r then s else if n = s then r else n)
      (repeat' split) <;> omega
    have R : ∀ m, (swapL r s rows).getD m [] = rows.getD (f m) [] := fun m => by
      rw [swapL_get hr hs]
      show _ = rows.getD (if m = r then s else if m = s then r else m) []
      split
      · rfl
      · split <;> rfl
    have V : ∀ m, ((vs.set r (vs.getD s .nilFunc)).set s (vs.getD r .nilFunc)).getD m .nilFunc = vs.getD (f m) .nilFunc := fun m => by
      rw [set_getD _ _ _ _ _ (by rw [List.length_set]; exact hsv), set_getD _ _ _ _ _ hrv]
      show _ = vs.getD (if m = r then s else if m = s then r else m) .nilFunc
      by_cases c1 : s = m
      · by_cases c2 : m = r
        · rw [if_pos c1, if_pos c2, ← c2, c1]
        · rw [if_pos c1, if_neg c2, if_pos c1.symm]
      · rw [if_neg c1]
        by_cases c2 : r = m
        · rw [if_pos c2, if_pos c2.symm]
        · rw [if_neg c2, if_neg (fun e => c2 e.symm), if_neg (fun e => c1 e.symm)]
    have hb : ∀ k, k ≠ g → ((w.setCell ⟨g, r, none⟩ (vs.getD s .nilFunc)).setCell ⟨g, s, none⟩ (vs.getD r .nilFunc)).heap[k]? = w.heap[k]? := fun k hk => by
      rw [blk_setCell_other _ _ _ _ (by dsimp only; exact hk), blk_setCell_other _ _ _ _ (by dsimp only; exact hk)]
    refine ⟨(h3.outer.set r _).set s _, h3.inS, by simp [swapL, h3.len], fun m hm => ?_, fun m hm hx => ?_, fun m n hm hn hmn hxm hxn => ?_⟩
    · rw [swapL_len] at hm
      rw [R, V]
      exact (h3.row _ (hf m hm)).blocks fun k _ _ hx e => hb k (by rw [e]; exact h3.off _ (hf m hm) hx)
    · rw [swapL_len] at hm
      rw [R] at hx
      rw [V]
      exact h3.off _ (hf m hm) hx
    · rw [swapL_len] at hm hn
      rw [R] at hxm hxn
      rw [V, V]
      exact h3.apart _ _ (hf m hm) (hf n hn) (hinj m n hmn) hxm hxn

def idleB (k t s f : Int) : Bool := if k = 0 then decide (t = s) else if k = 1 then decide (f = 1) else decide (f = 0)
set_option maxHeartbeats 1600000 in
theorem isIdle_any (w : World) (k t s f : Int) (hk : k = 0 ∨ k = 1 ∨ k = 2) :
    Calls Tryd.prog 142 #[.agg #[.int .i64 k, .int .i64 t, .int .i64 s, .int .i64 f]] w fun e w' => e = .returned (.bool (idleB k t s f)) ∧ Below w.heap.size w w' := by
  rcases hk with rfl | rfl | rfl
  · by_cases h : t = s
    · have H := Lib.hid (show idleB 0 t s f = true by simp [idleB, h])
      subst h
      go_enter Tryd.func142, Tryd.ntmps142
      go_wp2
      go_ret
      refine ⟨?_, by repeat' (first | exact Below.refl _ _ | apply Below.drew | apply Below.setCell | apply Below.alloc | (simp; done) | omega | (simp; omega))⟩
      first | (rw [H.out]; simp; done) | (rw [H.out]; simp; omega) | rw [H.out]
    · have H := Lib.hid (show idleB 0 t s f = false by simp [idleB, h])
      have hq : (t == s) = false := by simp [h]
      have hq2 : (s == t) = false := by simp; omega
      have hq3 : ¬ s = t := by omega
      go_enter Tryd.func142, Tryd.ntmps142
      go_wp2
      go_ret
      refine ⟨?_, by repeat' (first | exact Below.refl _ _ | apply Below.drew | apply Below.setCell | apply Below.alloc | (simp; done) | omega | (simp; omega))⟩
      first | (rw [H.out]; simp; done) | (rw [H.out]; simp; omega) | rw [H.out]
  · by_cases h : f = 1
    · have H := Lib.hid (show idleB 1 t s f = true by simp [idleB, h])
      subst h
      go_enter Tryd.func142, Tryd.ntmps142
      go_wp2
      go_ret
      refine ⟨?_, by repeat' (first | exact Below.refl _ _ | apply Below.drew | apply Below.setCell | apply Below.alloc | (simp; done) | omega | (simp; omega))⟩
      first | (rw [H.out]; simp; done) | (rw [H.out]; simp; omega) | rw [H.out]
    · have H := Lib.hid (show idleB 1 t s f = false by simp [idleB, h])
      have hq : (f == 1) = false := by simp [h]
      have hq2 : (1 == f) = false := by simp; omega
      have hq3 : ¬ 1 = f := by omega
      go_enter Tryd.func142, Tryd.ntmps142
      go_wp2
      go_ret
      refine ⟨?_, by repeat' (first | exact Below.refl _ _ | apply Below.drew | apply Below.setCell | apply Below.alloc | (simp; done) | omega | (simp; omega))⟩
      first | (rw [H.out]; simp; done) | (rw [H.out]; simp; omega) | rw [H.out]
  · by_cases h : f = 0
    · have H := Lib.hid (show idleB 2 t s f = true by simp [idleB, h])
      subst h
      go_enter Tryd.func142, Tryd.ntmps142
      go_wp2
      go_ret
      refine ⟨?_, by repeat' (first | exact Below.refl _ _ | apply Below.drew | apply Below.setCell | apply Below.alloc | (simp; done) | omega | (simp; omega))⟩
      first | (rw [H.out]; simp; done) | (rw [H.out]; simp; omega) | rw [H.out]
    · have H := Lib.hid (show idleB 2 t s f = false by simp [idleB, h])
      have hq : (f == 0) = false := by simp [h]
      have hq2 : (0 == f) = false := by simp; omega
      have hq3 : ¬ 0 = f := by omega
      go_enter Tryd.func142, Tryd.ntmps142
      go_wp2
      go_ret
      refine ⟨?_, by repeat' (first | exact Below.refl _ _ | apply Below.drew | apply Below.setCell | apply Below.alloc | (simp; done) | omega | (simp; omega))⟩
      first | (rw [H.out]; simp; done) | (rw [H.out]; simp; omega) | rw [H.out]
def detB (p k f : Int) : Int := if k = 0 then p - 1 else if k = 1 then f else 1
set_option maxHeartbeats 800000 in
theorem determinant_any (w : World) (p k t s f : Int) (hk : k = 0 ∨ k = 1 ∨ k = 2) (h1 : 2 ≤ p) (h2 : p ≤ 97) :
    Calls Tryd.prog 144 #[.agg #[.int .i64 k, .int .i64 t, .int .i64 s, .int .i64 f], .int .i64 p] w fun e w' => e = .returned (.int .i64 (detB p k f)) ∧ Below w.heap.size w w' := by
  rcases hk with rfl | rfl | rfl
  · go_enter Tryd.func144, Tryd.ntmps144
    go_wp2
    go_ret
    exact ⟨by simp [detB], by repeat' (first | exact Below.refl _ _ | apply Below.drew | apply Below.setCell | apply Below.alloc | (simp; done) | omega | (simp; omega))⟩
  · go_enter Tryd.func144, Tryd.ntmps144
    go_wp2
    go_ret
    exact ⟨by simp [detB], by repeat' (first | exact Below.refl _ _ | apply Below.drew | apply Below.setCell | apply Below.alloc | (simp; done) | omega | (simp; omega))⟩
  · go_enter Tryd.func144, Tryd.ntmps144
    go_wp2
    go_ret
    exact ⟨by simp [detB], by repeat' (first | exact Below.refl _ _ | apply Below.drew | apply Below.setCell | apply Below.alloc | (simp; done) | omega | (simp; omega))⟩
/-- The grid was changed in place. -/
def WroteG (w : World) (S : Nat → Prop) (v : Value) (rows : List (List Int)) (e : Ending) (w' : World) : Prop := e = .returned (.tuple #[]) ∧ Touch S w w' ∧ OwG w' tI tR S v rows
set_option maxHeartbeats 1600000 in
set_option maxRecDepth 100000 in
theorem applyTo_exch (w : World) (S : Nat → Prop) (v : Value) (p f : Int) (r i : Nat) (rows : List (List Int)) (hv : OwG w tI tR S v rows) (hS : ∀ k, S k → k < w.heap.size) (hr : r < rows.length) (hi : i < rows.length) (hri : r ≠ i) :
    Calls Tryd.prog 143 #[.agg #[.int .i64 0, .int .i64 r, .int .i64 i, .int .i64 f], .int .i64 p, v] w (WroteG w S v (swapL r i rows)) := by
  obtain ⟨g, c, A1, l1, c1, A2, l2, c2, rfl, hg, hgl, hc1, hc2, hfz, ho⟩ := (hv.blocks (w' := w.alloc (.cells #[.int .i64 0, .int .i64 r, .int .i64 i, .int .i64 f] tO)) (fun k _ hl => blk_alloc_lt _ _ _ hl)).swap hr hi
  have HB := (cellsAt_new w #[.int .i64 0, .int .i64 r, .int .i64 i, .int .i64 f] tO)
  have hb0 := HB.cell (i := 0) (by simp)
  have hb1 := HB.cell (i := 1) (by simp)
  have hb2 := HB.cell (i := 2) (by simp)
  have hgw := hS g hg
  have HT := Lib.hid (show Touch S w (w.alloc (.cells #[.int .i64 0, .int .i64 r, .int .i64 i, .int .i64 f] tO)) from (Touch.refl _ _).alloc _)
  have HO := Lib.hid ho
  have HG := Lib.hid hg
  have hr1 : (r : Int) < (rows.length : Int) := by omega
  have hi1 : (i : Int) < (rows.length : Int) := by omega
  have hne : ¬ (r : Int) = (i : Int) := by omega
  clear hv ho HB hS hg
  go_enter Tryd.func143, Tryd.ntmps143
  go_wp2
  generalize w.alloc (.cells #[.int .i64 0, .int .i64 r, .int .i64 i, .int .i64 f] tO) = W at hgl hc1 hc2 hfz HT HO hb0 hb1 hb2 ⊢
  have hwb : w.heap.size ≠ g := by omega
  have hz1 : W.drew.frozen? ⟨g, r, none⟩ = false := hfz r
  have hz2 : W.drew.frozen? ⟨g, i, none⟩ = false := hfz i
  go_region
  all_goals go_wp2
  all_goals go_end0
  all_goals exact ⟨rfl, ((HT.out.setCell (Or.inl HG.out) _).setCell (Or.inl HG.out) _).drew, OwG.drew HO.out⟩
set_option maxHeartbeats 1600000 in
set_option maxRecDepth 100000 in
theorem applyTo_mult (w : World) (S : Nat → Prop) (v : Value) (p f x : Int) (r : Nat) (rows : List (List Int)) (hv : OwG w tI tR S v rows) (hr : r < rows.length) (_hn : rows.length ≤ 1000000) (h1 : 2 ≤ p) (h2 : p ≤ 97) (hf0 : 0 ≤ f) (hf1 : f < p)
    (hrow : (rows.getD r []).length ≤ 1000000 ∧ ∀ y, y ∈ rows.getD r [] → 0 ≤ y ∧ y < p) :
    Calls Tryd.prog 143 #[.agg #[.int .i64 1, .int .i64 r, .int .i64 x, .int .i64 f], .int .i64 p, v] w (WroteG w S v (scaleAt p r f rows)) := by
  obtain ⟨g, c, u, rfl, hg, hgl, hc, hfz, hro, hrb, hre, _⟩ := (hv.mono (T := fun k => S k ∧ k < w.heap.size) (fun k a b => ⟨a, b⟩)).row hr
  obtain ⟨Au, cu, rfl⟩ := hro.len
  have HRO := Lib.hid hro
  have HRE := Lib.hid hre
  have HRB := Lib.hid hrb
  have HROW := Lib.hid hrow
  have hr1 : (r : Int) < (rows.length : Int) := by omega
  clear hv hro hre hrb hrow
  generalize hxe : rows.getD r [] = xs at HRO HRE HRB HROW hc
  have HXE := Lib.hid hxe
  clear hxe
  have hlen : xs.length ≤ 1000000 := HROW.out.1
  go_enter Tryd.func143, Tryd.ntmps143
  go_wp2
  go_loopw [39, 7] (fun i _ wr => ∃ k : Nat, k ≤ xs.length ∧ i = .int .i64 k ∧ Hid (Touch (rg (.slice Au xs.length cu) xs) w wr) ∧ Hid (CellsAt wr w.heap.size tO [.int .i64 1, .int .i64 r, .int .i64 x, .int .i64 f]) ∧ Hid (OwR wr tI (rg (.slice Au xs.length cu) xs) (.slice Au xs.length cu) (upd (fun _ y => f * y % p) k xs))) (fun i _ _ => xs.length - (intOf i).toNat)
  case atStart => exact ⟨0, Nat.zero_le _, rfl, Lib.hid ((Touch.refl _ _).alloc _), Lib.hid (cellsAt_new _ _ _), Lib.hid (by rw [upd_zero]; exact HRO.out.blocks (fun q _ hl _ _ => blk_alloc_lt _ _ _ hl))⟩
  case round =>
    obtain ⟨k, hk, rfl, HT, HX, HO⟩ := hrel
    by_cases hlt : k < xs.length
    · obtain ⟨b1, c1, e1, hb1, hs1, hc1, hf1', hset⟩ := HO.out.at (j := k) (by rw [upd_len]; exact hlt)
      rw [upd_len] at e1
      obtain ⟨rfl, rfl⟩ : Au = some ⟨b1, 0, none⟩ ∧ cu = c1 := by simpa using e1
      have HSET := Lib.hid hset
      have HT1 := Lib.hid hb1
      have HXV := Lib.hid (upd_getD (fun _ y => f * y % p) (Nat.le_refl k) xs 0)
      rw [HXV.out] at hc1
      have hy := HROW.out.2 _ (getD_mem' hlt 0)
      have HG := Lib.hid (show f * (xs.getD k 0) % p = (fun (_ : Nat) y => f * y % p) k (xs.getD k 0) from rfl)
      have hbx : b1 ≠ w.heap.size := by have := (HRB.out hb1.1).2.1; rw [← hb1.2] at this; omega
      clear hset hb1 e1
      generalize xs.getD k 0 = y at hc1 hy HG HXV
      obtain ⟨hy0, hy1⟩ := hy
      have hm0 : 0 ≤ f * y := Int.mul_nonneg hf0 hy0
      have hm1 : f * y ≤ 97 * 97 := Int.mul_le_mul (by omega) (by omega) hy0 (by omega)
      have hbox := HX.out.cell (i := 3) (by simp)
      have hku : (k : Int) < (xs.length : Int) := by omega
      go_wp2
      have hfz2 : wr.drew.frozen? ⟨b1, k, none⟩ = false := hf1'
      go_region
      all_goals go_wp2
      all_goals go_roundw
      case rel => exact ⟨k + 1, by omega, by go_num, Lib.hid ((HT.out.setCell (Or.inl HT1.out) _).drew), Lib.hid ((HX.out.setOther (by dsimp only; omega) _).drew), Lib.hid (by
        have h := HSET.out (f * y % p)
        rw [← upd_put _ hlt 0, HXV.out]
        exact OwR.blocks (w' := (wr.setCell ⟨b1, k, none⟩ (.int .i64 (f * y % p))).drew) h (fun _ _ _ _ _ => rfl))⟩
      case measure => simp [intOf]; omega
    · go_wp2
      go_end0
      have h := HO.out
      rw [upd_all _ (by omega)] at h
      have hl : (scale p f xs).length = xs.length := scale_len _ _ _
      refine ⟨rfl, HT.out.mono (fun q hq hq2 => by have := (HRB.out hq2.1).1; rw [← hq2.2] at this; exact this.1), ?_⟩
      have h3 := HRE.out wr (scale p f xs) hl (OwR.mono h (fun q hq _ => ⟨fun e0 => hq.1 (by rw [← List.length_eq_zero_iff, hl, List.length_eq_zero_iff] at e0; exact e0), hq.2⟩)) (fun q hq _ hn => HT.out.block q hq hn)
      have e : scaleAt p r f rows = rows.set r (scale p f xs) := by unfold scaleAt; rw [HXE.out]
      rw [e]
      exact h3.mono (fun q hq _ => hq.1)
set_option maxHeartbeats 1600000 in
set_option maxRecDepth 100000 in
theorem applyTo_add (w : World) (S : Nat → Prop) (v : Value) (p f : Int) (r s : Nat) (rows : List (List Int)) (hv : OwG w tI tR S v rows) (hr : r < rows.length) (hs : s < rows.length) (hrs : s ≠ r) (_hn : rows.length ≤ 1000000) (h1 : 2 ≤ p) (h2 : p ≤ 97) (hf0 : 0 ≤ f) (hf1 : f < p)
    (hrow : (rows.getD r []).length ≤ 1000000 ∧ ∀ y, y ∈ rows.getD r [] → 0 ≤ y ∧ y < p) (hrow2 : (rows.getD s []).length = (rows.getD r []).length ∧ ∀ y, y ∈ rows.getD s [] → 0 ≤ y ∧ y < p) :
    Calls Tryd.prog 143 #[.agg #[.int .i64 2, .int .i64 r, .int .i64 s, .int .i64 f], .int .i64 p, v] w (WroteG w S v (rows.set r (axpy p (rows.getD r []) f (rows.getD s [])))) := by
  obtain ⟨g, c, u, rfl, hg, hgl, hc, hfz, hro, hrb, hre, hoth⟩ := (hv.mono (T := fun k => S k ∧ k < w.heap.size) (fun k a b => ⟨a, b⟩)).row hr
  obtain ⟨u2, hc2, hrd2⟩ := hoth s hs hrs
  obtain ⟨Au, cu, rfl⟩ := hro.len
  obtain ⟨A2, c2, rfl, hrd2'⟩ := hrd2
  have HRD := Lib.hid (show RdS w (fun b => (S b ∧ b < w.heap.size) ∧ ¬ rg (.slice Au (rows.getD r []).length cu) (rows.getD r []) b) (.slice A2 (rows.getD s []).length c2) (rows.getD s []) from ⟨A2, c2, rfl, hrd2'⟩)
  have HRO := Lib.hid hro
  have HRE := Lib.hid hre
  have HRB := Lib.hid hrb
  have HROW := Lib.hid hrow
  have HROW2 := Lib.hid hrow2
  have hr1 : (r : Int) < (rows.length : Int) := by omega
  have hs1 : (s : Int) < (rows.length : Int) := by omega
  have hcw : ∀ o, (w.alloc o).cell? ⟨g, r, none⟩ = some (.slice Au (rows.getD r []).length cu) := fun o => (World.cell?_of_block (w := w) (blk_alloc_lt _ _ _ hgl)).trans hc
  have hcw2 : ∀ o, (w.alloc o).cell? ⟨g, s, none⟩ = some (.slice A2 (rows.getD s []).length c2) := fun o => (World.cell?_of_block (w := w) (blk_alloc_lt _ _ _ hgl)).trans hc2
  clear hv hro hre hrb hrow hrow2 hoth hrd2' hc hc2 hg
  generalize hxe : rows.getD r [] = xs at HRO HRE HRB HROW HROW2 HRD hcw ⊢
  generalize hye : rows.getD s [] = ys at HROW2 HRD hcw2 ⊢
  clear hxe hye
  have HBX := (cellsAt_new w #[.int .i64 2, .int .i64 r, .int .i64 s, .int .i64 f] tO)
  have hb0 := HBX.cell (i := 0) (by simp)
  have hb1 := HBX.cell (i := 1) (by simp)
  have hb2 := HBX.cell (i := 2) (by simp)
  have hb3 := HBX.cell (i := 3) (by simp)
  have hcw' := hcw (.cells #[.int .i64 2, .int .i64 r, .int .i64 s, .int .i64 f] tO)
  have hcw2' := hcw2 (.cells #[.int .i64 2, .int .i64 r, .int .i64 s, .int .i64 f] tO)
  have HTW := Lib.hid (show Touch (rg (.slice Au xs.length cu) xs) w (w.alloc (.cells #[.int .i64 2, .int .i64 r, .int .i64 s, .int .i64 f] tO)) from (Touch.refl _ _).alloc _)
  have HROW' := Lib.hid (OwR.blocks (w' := w.alloc (.cells #[.int .i64 2, .int .i64 r, .int .i64 s, .int .i64 f] tO)) HRO.out (fun q _ hl _ _ => blk_alloc_lt _ _ _ hl))
  have HRDW := Lib.hid (RdS.blocks (w' := w.alloc (.cells #[.int .i64 2, .int .i64 r, .int .i64 s, .int .i64 f] tO)) HRD.out (fun q hq => blk_alloc_lt _ _ _ hq.1.2))
  clear HBX hcw hcw2
  go_enter Tryd.func143, Tryd.ntmps143
  go_wp2
  generalize w.alloc (.cells #[.int .i64 2, .int .i64 r, .int .i64 s, .int .i64 f] tO) = W at hb0 hb1 hb2 hb3 hcw' hcw2' HTW HROW' HRDW ⊢
  go_still_tail 13, (by kernel_rfl)
  change wpList _ _ _ _ _ W.drew
  go_wp2_with fail
  refine (addToRow_any W.drew (rg (.slice Au xs.length cu) xs) _ _ p f xs ys h1 h2 (OwR.blocks (w := W) HROW'.out (fun q _ hl _ _ => rfl)) (RdS.mono (RdS.blocks (w := W) HRDW.out (fun q hq => rfl)) (fun q hq => hq.2)) HROW2.out.1 HROW.out.1 HROW.out.2 HROW2.out.2 hf0 hf1).mono ?_
  rintro e w4 ⟨rfl, ht4, ho4⟩
  have HT4 := Lib.hid (show Touch (rg (.slice Au xs.length cu) xs) w w4 from Touch.trans HTW.out.drew ht4)
  have HO4 := Lib.hid ho4
  clear ht4 ho4
  go_wp2
  go_end0
  refine ⟨rfl, HT4.out.mono (fun q hq hq2 => by have := (HRB.out hq2.1).1; rw [← hq2.2] at this; exact this.1), ?_⟩
  have hl : (axpy p xs f ys).length = xs.length := axpy_len _ _ _ _
  exact (HRE.out w4 (axpy p xs f ys) hl (OwR.mono HO4.out (fun q hq _ => ⟨fun e0 => hq.1 (by rw [← List.length_eq_zero_iff, hl, List.length_eq_zero_iff] at e0; exact e0), hq.2⟩)) (fun q hq _ hn => HT4.out.block q hq hn)).mono (fun q hq _ => hq.1)
end Go.Proofs.YtahlicbjbbpihaaDoor
