/- What the laws' helpers do with lists of edges: they mark them, and say whether they bear the marks still. -/
import Derived.Test.YthnhholeaiojjaaDoorLeafF
namespace Go.Proofs.YthnhholeaiojjaaDoor
set_option maxRecDepth 100000
open Go Go.RowKit Go.Deep

/-- Where the marks of edge i begin. -/
def offE (x : List Ed) (i : Nat) : Nat := i * 2 + sumE (x.take i)
def mkEd (k : Int) (e : Ed) : Ed := ⟨k, k + 1, marks (k + 2) e.i.length, marks (k + 2 + (e.i.length : Nat)) e.o.length⟩
def mkE (k : Int) (x : List Ed) : List Ed := (List.range x.length).map fun i => mkEd (k + (offE x i : Nat)) (x.getD i ed0)
theorem mkE_len (k : Int) (x : List Ed) : (mkE k x).length = x.length := by simp [mkE]
theorem mkE_at (k : Int) (x : List Ed) {i : Nat} (h : i < x.length) : (mkE k x).getD i ed0 = mkEd (k + (offE x i : Nat)) (x.getD i ed0) := by
  rw [List.getD_eq_getElem?_getD]
  simp [mkE, h]
theorem offE_zero (x : List Ed) : offE x 0 = 0 := by simp [offE, sumE]
theorem offE_all (x : List Ed) : offE x x.length = cntE x := by unfold offE cntE; rw [List.take_length]
theorem offE_succ {x : List Ed} {i : Nat} (h : i < x.length) : offE x (i + 1) = offE x i + 2 + (x.getD i ed0).i.length + (x.getD i ed0).o.length := by
  unfold offE
  rw [sumE_step h]
  omega
theorem offE_le (x : List Ed) {i : Nat} (h : i ≤ x.length) : offE x i ≤ cntE x := by
  have := sumE_take x i
  unfold offE cntE
  omega
theorem mkE_step (k : Int) (x : List Ed) {i : Nat} (h : i < x.length) : ((mkE k x).take i ++ x.drop i).set i (mkEd (k + (offE x i : Nat)) (x.getD i ed0)) = (mkE k x).take (i + 1) ++ x.drop (i + 1) := by
  refine List.ext_getElem? fun j => ?_
  have hl : (mkE k x).length = x.length := mkE_len k x
  have hi : (mkE k x)[i]? = some (mkEd (k + (offE x i : Nat)) (x.getD i ed0)) := by simp [mkE, h]
  rw [List.getElem?_set]
  by_cases h1 : i = j
  · subst h1
    rw [if_pos rfl, if_pos (by simp [hl]; omega), List.getElem?_append_left (by simp [hl]; omega), List.getElem?_take_of_lt (by omega), hi]
  · rw [if_neg h1]
    by_cases h2 : j < i
    · rw [List.getElem?_append_left (by simp [hl]; omega), List.getElem?_append_left (by simp [hl]; omega), List.getElem?_take_of_lt h2, List.getElem?_take_of_lt (by omega)]
    · rw [List.getElem?_append_right (by simp [hl]; omega), List.getElem?_append_right (by simp [hl]; omega), List.getElem?_drop, List.getElem?_drop]
      congr 1
      simp [hl]
      omega
theorem mid_at (k : Int) (x : List Ed) {i : Nat} (h : i < x.length) : ((mkE k x).take i ++ x.drop i).getD i ed0 = x.getD i ed0 := by
  rw [List.getD_eq_getElem?_getD, List.getD_eq_getElem?_getD, List.getElem?_append_right (by simp [mkE_len]; omega)]
  simp [mkE_len]
  rw [Nat.min_eq_left (by omega)]
  simp
theorem cntE_mk (k : Int) (x : List Ed) : cntE (mkE k x) = cntE x := by
  unfold cntE
  rw [mkE_len]
  congr 1
  unfold sumE
  congr 1
  apply List.ext_getElem?
  intro j
  by_cases h : j < x.length
  · simp [mkE, h, wid, mkEd, marks_len]
  · rw [List.getElem?_eq_none (by simp [mkE_len]; omega), List.getElem?_eq_none (by simp; omega)]
theorem EdAt.writeI {w w' : World} {S : Nat → Prop} {g : Nat} {es : List Ed} {vs : Nat → Value} {i : Nat} {a b : Int} {ri ro ys : List Int} (h : EdAt w S g (es.set i ⟨a, b, ri, ro⟩) vs) (hi : i < es.length) (hl : ys.length = ri.length)
    (hT : OwR w' tI S (vs (i * 2)) ys) (hb : ∀ k, k < w.heap.size → ¬ (ri ≠ [] ∧ k = blkOf (vs (i * 2))) → w'.heap[k]? = w.heap[k]?) : EdAt w' S g (es.set i ⟨a, b, ys, ro⟩) vs := by
  have e1 : erow (es.set i ⟨a, b, ri, ro⟩) (i * 2) = ri := by rw [erow_set hi, if_pos rfl]
  have e2 : erow (es.set i ⟨a, b, ys, ro⟩) (i * 2) = ys := by rw [erow_set hi, if_pos rfl]
  refine h.write (r := i * 2) (by rw [List.length_set]; omega) (by simp) (ecells_same vs (by simp) (fun k => ?_)) (fun q hq => ?_) (by rw [e1, e2, hl]) (by rw [e2]; exact hT) (by rw [e1]; exact hb)
  · rw [getD_setE hi, getD_setE hi]
    by_cases c : i = k
    · rw [if_pos c, if_pos c]
      exact ⟨rfl, rfl⟩
    · rw [if_neg c, if_neg c]
      exact ⟨rfl, rfl⟩
  · rw [erow_set hi, erow_set hi, if_neg hq, if_neg hq]
theorem EdAt.writeO {w w' : World} {S : Nat → Prop} {g : Nat} {es : List Ed} {vs : Nat → Value} {i : Nat} {a b : Int} {ri ro ys : List Int} (h : EdAt w S g (es.set i ⟨a, b, ri, ro⟩) vs) (hi : i < es.length) (hl : ys.length = ro.length)
    (hT : OwR w' tI S (vs (i * 2 + 1)) ys) (hb : ∀ k, k < w.heap.size → ¬ (ro ≠ [] ∧ k = blkOf (vs (i * 2 + 1))) → w'.heap[k]? = w.heap[k]?) : EdAt w' S g (es.set i ⟨a, b, ri, ys⟩) vs := by
  have e1 : erow (es.set i ⟨a, b, ri, ro⟩) (i * 2 + 1) = ro := by rw [erow_set hi, if_neg (by omega), if_pos rfl]
  have e2 : erow (es.set i ⟨a, b, ri, ys⟩) (i * 2 + 1) = ys := by rw [erow_set hi, if_neg (by omega), if_pos rfl]
  refine h.write (r := i * 2 + 1) (by rw [List.length_set]; omega) (by simp) (ecells_same vs (by simp) (fun k => ?_)) (fun q hq => ?_) (by rw [e1, e2, hl]) (by rw [e2]; exact hT) (by rw [e1]; exact hb)
  · rw [getD_setE hi, getD_setE hi]
    by_cases c : i = k
    · rw [if_pos c, if_pos c]
      exact ⟨rfl, rfl⟩
    · rw [if_neg c, if_neg c]
      exact ⟨rfl, rfl⟩
  · rw [erow_set hi, erow_set hi, if_neg hq, if_neg hq]
def MarkedE (w : World) (S : Nat → Prop) (v : Value) (k : Int) (x : List Ed) (e : Ending) (w' : World) : Prop := e = .returned (.int .i64 (k + (cntE x : Nat))) ∧ Touch S w w' ∧ OwnE w' S v (mkE k x)
end Go.Proofs.YthnhholeaiojjaaDoor
