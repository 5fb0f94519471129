/- What the laws' helpers do with lists of edges: they mark them, and say whether they bear the marks still. -/
import Derived.Test.YtdcgoeapgboclaaLeafF
namespace Go.Proofs.Ytdcgoeapgboclaa
set_option maxRecDepth 100000
open Go Go.RowKit Go.Deep

/-- Where the marks of edge i begin. -/
def offE (x : List Ed) (i : Nat) : Nat := i * 2 + sumE (x.take i)
def mkEd (k : Int) (e : Ed) : Ed := ⟨k, k + 1, marks (k + 2) e.i.length, marks (k + 2 + (e.i.length : Nat)) e.o.length⟩
def mkE (k : Int) (x : List Ed) : List Ed := (List.range x.length).map fun i => mkEd (k + (offE x i : Nat)) (x.getD i ed0)
theorem mkE_len (k : Int) (x : List Ed) : (mkE k x).length = x.length := by simp [mkE]
theorem mkE_at (k : Int) (x : List Ed) {i : Nat} (h : i < x.length) : (mkE k x).getD i ed0 = mkEd (k + (offE x i : Nat)) (x.getD i ed0) := by
  rw [List.getD_eq_getElem?_getD]
  simp [mkE, h]
theorem offE_zero (x : List Ed) : offE x 0 = 0 := by simp [offE, sumE]
theorem offE_all (x : List Ed) : offE x x.length = cntE x := by unfold offE cntE; rw [List.take_length]
theorem offE_succ {x : List Ed} {i : Nat} (h : i < x.length) : offE x (i + 1) = offE x i + 2 + (x.getD i ed0).i.length + (x.getD i ed0).o.length := by
  unfold offE
  rw [sumE_step h]
  omega
theorem offE_le (x : List Ed) {i : Nat} (h : i ≤ x.length) : offE x i ≤ cntE x := by
  have := sumE_take x i
  unfold offE cntE
  omega
theorem mkE_step (k : Int) (x : List Ed) {i : Nat} (h : i < x.length) : ((mkE k x).take i ++ x.drop i).set i (mkEd (k + (offE x i : Nat)) (x.getD i ed0)) = (mkE k x).take (i + 1) ++ x.drop (i + 1) := by
  refine List.ext_getElem? fun j => ?_
  have hl : (mkE k x).length = x.length := mkE_len k x
  have hi : (mkE k x)[i]? = some (mkEd (k + (offE x i : Nat)) (x.getD i ed0)) := by simp [mkE, h]
  rw [List.getElem?_set]
  by_cases h1 : i = j
  · subst h1
    rw [if_pos rfl, if_pos (by simp [hl]; omega), List.getElem?_append_left (by simp [hl]; omega), List.getElem?_take_of_lt (by omega), hi]
  · rw [if_neg h1]
    by_cases h2 : j < i
    · rw [List.getElem?_append_left (by simp [hl]; omega), List.getElem?_append_left (by simp [hl]; omega), List.getElem?_take_of_lt h2, List.getElem?_take_of_lt (by omega)]
    · rw [List.getElem?_append_right (by simp [hl]; omega), List.getElem?_append_right (by simp [hl]; omega), List.getElem?_drop, List.getElem?_drop]
      congr 1
      simp [hl]
      omega
theorem mid_at (k : Int) (x : List Ed) {i : Nat} (h : i < x.length) : ((mkE k x).take i ++ x.drop i).getD i ed0 = x.getD i ed0 := by
  rw [List.getD_eq_getElem?_getD, List.getD_eq_getElem?_getD, List.getElem?_append_right (by simp [mkE_len]; omega)]
  simp [mkE_len]
  rw [Nat.min_eq_left (by omega)]
  simp
theorem cntE_mk (k : Int) (x : List Ed) : cntE (mkE k x) = cntE x := by
  unfold cntE
  rw [mkE_len]
  congr 1
  unfold sumE
  congr 1
  apply List.ext_getElem?
  intro j
  by_cases h : j < x.length
  · simp [mkE, h, wid, mkEd, marks_len]
  · rw [List.getElem?_eq_none (by simp [mkE_len]; omega), List.getElem?_eq_none (by simp; omega)]
theorem EdAt.writeI {w w' : World} {S : Nat → Prop} {g : Nat} {es : List Ed} {vs : Nat → Value} {i : Nat} {a b : Int} {ri ro ys : List Int} (h : EdAt w S g (es.set i ⟨a, b, ri, ro⟩) vs) (hi : i < es.length) (hl : ys.length = ri.length)
    (hT : OwR w' tI S (vs (i * 2)) ys) (hb : ∀ k, k < w.heap.size → ¬ (ri ≠ [] ∧ k = blkOf (vs (i * 2))) → w'.heap[k]? = w.heap[k]?) : EdAt w' S g (es.set i ⟨a, b, ys, ro⟩) vs := by
  have e1 : erow (es.set i ⟨a, b, ri, ro⟩) (i * 2) = ri := by rw [erow_set hi, if_pos rfl]
  have e2 : erow (es.set i ⟨a, b, ys, ro⟩) (i * 2) = ys := by rw [erow_set hi, if_pos rfl]
  refine h.write (r := i * 2) (by rw [List.length_set]; omega) (by simp) (ecells_same vs (by simp) (fun k => ?_)) (fun q hq => ?_) (by rw [e1, e2, hl]) (by rw [e2]; exact hT) (by rw [e1]; exact hb)
  · rw [getD_setE hi, getD_setE hi]
    by_cases c : i = k
    · rw [if_pos c, if_pos c]
      exact ⟨rfl, rfl⟩
    · rw [if_neg c, if_neg c]
      exact ⟨rfl, rfl⟩
  · rw [erow_set hi, erow_set hi, if_neg hq, if_neg hq]
theorem EdAt.writeO {w w' : World} {S : Nat → Prop} {g : Nat} {es : List Ed} {vs : Nat → Value} {i : Nat} {a b : Int} {ri ro ys : List Int} (h : EdAt w S g (es.set i ⟨a, b, ri, ro⟩) vs) (hi : i < es.length) (hl : ys.length = ro.length)
    (hT : OwR w' tI S (vs (i * 2 + 1)) ys) (hb : ∀ k, k < w.heap.size → ¬ (ro ≠ [] ∧ k = blkOf (vs (i * 2 + 1))) → w'.heap[k]? = w.heap[k]?) : EdAt w' S g (es.set i ⟨a, b, ri, ys⟩) vs := by
  have e1 : erow (es.set i ⟨a, b, ri, ro⟩) (i * 2 + 1) = ro := by rw [erow_set hi, if_neg (by omega), if_pos rfl]
  have e2 : erow (es.set i ⟨a, b, ri, ys⟩) (i * 2 + 1) = ys := by rw [erow_set hi, if_neg (by omega), if_pos rfl]
  refine h.write (r := i * 2 + 1) (by rw [List.length_set]; omega) (by simp) (ecells_same vs (by simp) (fun k => ?_)) (fun q hq => ?_) (by rw [e1, e2, hl]) (by rw [e2]; exact hT) (by rw [e1]; exact hb)
  · rw [getD_setE hi, getD_setE hi]
    by_cases c : i = k
    · rw [if_pos c, if_pos c]
      exact ⟨rfl, rfl⟩
    · rw [if_neg c, if_neg c]
      exact ⟨rfl, rfl⟩
  · rw [erow_set hi, erow_set hi, if_neg hq, if_neg hq]
def MarkedE (w : World) (S : Nat → Prop) (v : Value) (k : Int) (x : List Ed) (e : Ending) (w' : World) : Prop := e = .returned (.int .i64 (k + (cntE x : Nat))) ∧ Touch S w w' ∧ OwnE w' S v (mkE k x)
set_option maxRecDepth 100000 in
set_option maxHeartbeats 3200000 in
theorem markedE_any (w : World) (S : Nat → Prop) (v : Value) (x : List Ed) (k : Int) (hv : OwnE w S v x) (h0 : 0 ≤ k) (hl : k + (cntE x : Nat) ≤ 9223372036854775807) :
    Calls Try.prog 37 #[v, .int .i64 k] w (MarkedE w S v k x) := by
  obtain ⟨⟨A, c, rfl, hc, hx⟩, hcn⟩ := hv
  have HCN : Hid (cntE (mkE k x) ≤ 1099511627776) := Lib.hid (by rw [cntE_mk]; exact hcn)
  rcases hx with rfl | ⟨g, vs, rfl, hg⟩
  · go_enter Try.func37, Try.ntmps37
    go_wp2
    refine wp_loop_rounds 1 ?_
    rw [rounds_succ]
    go_wp2
    go_ret
    exact ⟨by simp [cntE, sumE], Touch.refl _ _, ⟨A, c, rfl, hc, Or.inl rfl⟩, HCN.out⟩
  · have HG := Lib.hid hg
    have HL := Lib.hid hl
    have HC := Lib.hid hc
    have hlen : x.length ≤ 1099511627776 := by unfold cntE at hcn; omega
    clear hg hl hcn hc
    go_enter Try.func37, Try.ntmps37
    go_wp2
    go_loopw [1, 5] (fun tk ti wr => ∃ (i : Nat) (m : Int), i ≤ x.length ∧ ti = .int .i64 i ∧ tk = .int .i64 m ∧ Hid (m = k + (offE x i : Nat)) ∧ Hid (Touch S w wr) ∧ Hid (EdAt wr S g ((mkE k x).take i ++ x.drop i) vs)) (fun _ ti _ => x.length - (intOf ti).toNat)
    case atStart => exact ⟨0, k, Nat.zero_le _, rfl, rfl, Lib.hid (by rw [offE_zero]; simp), Lib.hid (Touch.refl _ _), Lib.hid (by simpa using HG.out)⟩
    case round =>
      obtain ⟨i, m, hi, rfl, rfl, HM, HT, HO⟩ := hrel
      by_cases hlt : i < x.length
      · have HSTEP := Lib.hid (mkE_step k x hlt)
        have hmid := mid_at k x hlt
        have hylt : i < ((mkE k x).take i ++ x.drop i).length := by rw [List.length_append, List.length_take, List.length_drop, mkE_len]; omega
        have HOS := Lib.hid (offE_succ hlt)
        have hmax : m + 2 + ((x.getD i ed0).i.length : Nat) + ((x.getD i ed0).o.length : Nat) ≤ 9223372036854775807 := by
          have h1 := HL.out
          have h2 := HM.out
          have h3 := offE_succ hlt
          have h4 := offE_le x (i := i + 1) (by omega)
          omega
        have hm0 : 0 ≤ m := by have h2 := HM.out; omega
        rw [← HM.out] at HSTEP
        have hat := HO.out.at hylt
        rw [hmid] at hat
        have HHEAD := Lib.hid (HO.out.head hylt m (m + 1))
        rw [hmid] at HHEAD
        have HYL := Lib.hid hylt
        generalize hys : (mkE k x).take i ++ x.drop i = ys at HO HSTEP hat HHEAD HYL
        generalize hed : x.getD i ed0 = ed at HSTEP hat HOS hmax HHEAD
        obtain ⟨A1, c1, A2, c2, e1, e2, hc0, hc1, hc2, hc3, -, -⟩ := hat
        have HE1 := Lib.hid e1
        have HE2 := Lib.hid e2
        have hf := HO.out.outer.frozen
        have hos := HO.out.outer.lt
        clear e1 e2 hys hed hmid hylt
        have hw1 : IntKind.i64.wrap (m + 1) = m + 1 := Go.IntWalk.i64_in _ ⟨by omega, by omega⟩
        have hw2 : IntKind.i64.wrap (m + 1 + 1) = m + 1 + 1 := Go.IntWalk.i64_in _ ⟨by omega, by omega⟩
        have hxI : (i : Int) < (x.length : Int) := by omega
        have HT1 := Lib.hid ((HT.out.setCell (p := ⟨g, i * 4, none⟩) (Or.inl HG.out.inS) (.int .i64 m)).setCell (p := ⟨g, i * 4 + 1, none⟩) (Or.inl HG.out.inS) (.int .i64 (m + 1)))
        have HR1 : Hid (OwR ((wr.setCell ⟨g, i * 4, none⟩ (.int .i64 m)).setCell ⟨g, i * 4 + 1, none⟩ (.int .i64 (m + 1))) tI S (.slice A1 ed.i.length c1) ed.i) := Lib.hid (by
          have := HHEAD.out.row (i * 2) (by rw [List.length_set]; have := HYL.out; omega)
          rw [erow_set HYL.out, if_pos rfl, HE1.out] at this
          exact this)
        go_wp2_with fail
        refine (markR_any _ S _ ed.i (m + 1 + 1) HR1.out (by omega) (by omega)).mono ?_
        rintro e w2 ⟨rfl, ⟨t2, z2⟩, o2⟩
        rw [show m + 1 + 1 = m + 2 by omega] at o2
        have HO2 := Lib.hid (HHEAD.out.writeI HYL.out (w' := w2) (ys := marks (m + 2) ed.i.length) (marks_len _ _) (by rw [HE1.out]; exact o2) (fun q hq hn => t2.block q hq (by rw [HE1.out] at hn; exact hn)))
        have HS1 := Lib.hid (fun hx : ed.i ≠ [] => HR1.out.blk hx)
        have HT2 := Lib.hid (HT1.out.trans (t2.mono (fun q _ h => by rw [h.2]; exact HS1.out h.1)))
        have HR2 : Hid (OwR w2 tI S (.slice A2 ed.o.length c2) ed.o) := Lib.hid (by
          have := HO2.out.row (i * 2 + 1) (by rw [List.length_set]; have := HYL.out; omega)
          rw [erow_set HYL.out, if_neg (by omega), if_pos rfl, HE2.out] at this
          exact this)
        have hd3 : w2.cell? ⟨g, i * 4 + 3, none⟩ = some (.slice A2 ed.o.length c2) := by
          have := HO2.out.cell (j := i * 4 + 3) (by rw [List.length_set]; have := HYL.out; omega)
          rw [ecell3, HE2.out] at this
          exact this
        have hz2 : w2.heap.size = wr.heap.size := by simpa using z2
        clear t2 z2 o2 hc0 hc1 hc2 hc3 hf
        go_wp2_with fail
        refine (markR_any _ S _ ed.o (m + 1 + 1 + (ed.i.length : Nat)) HR2.out (by omega) (by omega)).mono ?_
        rintro e w3 ⟨rfl, ⟨t3, z3⟩, o3⟩
        rw [show m + 1 + 1 = m + 2 by omega] at o3
        have HO3 := Lib.hid (HO2.out.writeO HYL.out (w' := w3) (ys := marks (m + 2 + (ed.i.length : Nat)) ed.o.length) (marks_len _ _) (by rw [HE2.out]; exact o3) (fun q hq hn => t3.block q hq (by rw [HE2.out] at hn; exact hn)))
        have HS2 := Lib.hid (fun hx : ed.o ≠ [] => HR2.out.blk hx)
        have HT3 := Lib.hid (HT2.out.trans (t3.mono (fun q _ h => by rw [h.2]; exact HS2.out h.1)))
        clear t3 z3 o3 hd3
        go_wp2
        go_roundw
        case rel => exact ⟨i + 1, _, by omega, by go_num, rfl, Lib.hid (by have := HM.out; have := HOS.out; omega), HT3, Lib.hid (by rw [← HSTEP.out]; exact HO3.out)⟩
        case measure => simp [intOf]; omega
      · have hin : i = x.length := by omega
        have hxI : ¬ (i : Int) < (x.length : Int) := by omega
        have HF := Lib.hid (show (mkE k x).take i ++ x.drop i = mkE k x by rw [hin, List.take_of_length_le (by rw [mkE_len]; omega), List.drop_length, List.append_nil])
        have HI := Lib.hid (show m = k + (cntE x : Nat) by have := HM.out; rw [hin, offE_all] at this; exact this)
        rw [HF.out] at HO
        clear hin
        go_wp2
        go_ret
        exact ⟨congrArg (fun z : Int => Ending.returned (.int .i64 z)) HI.out, HT.out, ⟨_, c, by rw [mkE_len], by rw [mkE_len]; exact HC.out, Or.inr ⟨g, vs, rfl, HO.out⟩⟩, HCN.out⟩
set_option maxRecDepth 100000 in
set_option maxHeartbeats 3200000 in
theorem heldE_any (w : World) (B : Nat) (v : Value) (x : List Ed) (k : Int) (hv : LfE w B v (mkE k x)) (h0 : 0 ≤ k) (hl : k + (cntE x : Nat) ≤ 9223372036854775807) :
    Calls Try.prog 38 #[v, .int .i64 k] w (Found w k (cntE x)) := by
  obtain ⟨A, c, rfl⟩ := hv.len
  have HV := Lib.hid hv.1.all
  have hlen0 := hv.2.1
  rw [mkE_len] at hlen0
  have HL := Lib.hid hl
  rw [mkE_len]
  rw [mkE_len] at HV
  clear hv hl
  go_enter Try.func38, Try.ntmps38
  go_wp2
  go_loopw [1, 5] (fun tk ti wr => ∃ (i : Nat) (m : Int), i ≤ x.length ∧ ti = .int .i64 i ∧ tk = .int .i64 m ∧ Hid (m = k + (offE x i : Nat)) ∧ Hid (Below w.heap.size w wr)) (fun _ ti _ => x.length - (intOf ti).toNat)
  case atStart => exact ⟨0, k, Nat.zero_le _, rfl, rfl, Lib.hid (by rw [offE_zero]; simp), Lib.hid (Below.refl _ _)⟩
  case round =>
    obtain ⟨i, m, hi, rfl, rfl, HM, HB2⟩ := hrel
    by_cases hlt : i < x.length
    · obtain ⟨b, o, A1, c1, A2, c2, rfl, hb, hc0, hc1, hc2, hc3, r1, r2⟩ := (HV.out.below HB2.out (Nat.le_refl _)).at (k := i) (by rw [mkE_len]; exact hlt)
      have HOS := Lib.hid (offE_succ hlt)
      have hmax : m + 2 + ((x.getD i ed0).i.length : Nat) + ((x.getD i ed0).o.length : Nat) ≤ 9223372036854775807 := by
        have h1 := HL.out
        have h2 := HM.out
        have h3 := offE_succ hlt
        have h4 := offE_le x (i := i + 1) (by omega)
        omega
      have hm0 : 0 ≤ m := by have h2 := HM.out; omega
      rw [mkE_at k x hlt, ← HM.out] at hc0 hc1 hc2 hc3 r1 r2
      generalize x.getD i ed0 = ed at HOS hmax hc0 hc1 hc2 hc3 r1 r2
      dsimp only [mkEd] at hc0 hc1 hc2 hc3 r1 r2
      rw [marks_len] at hc2 hc3 r1 r2
      have HR1 := Lib.hid r1
      have HR2 := Lib.hid r2
      have hxI : (i : Int) < (x.length : Int) := by omega
      have hw1 : IntKind.i64.wrap (m + 1) = m + 1 := Go.IntWalk.i64_in _ ⟨by omega, by omega⟩
      have hw2 : IntKind.i64.wrap (m + 1 + 1) = m + 1 + 1 := Go.IntWalk.i64_in _ ⟨by omega, by omega⟩
      have hbm0 : (m != m) = false := by simp
      have hbm1 : ((m + 1) != (m + 1)) = false := by simp
      clear r1 r2
      go_wp2_with fail
      refine (heldIntS_any _ _ _ (m + 1 + 1) ed.i.length (by rw [show m + 1 + 1 = m + 2 by omega]; exact HR1.out) (by omega) (by omega)).mono ?_
      rintro e w2 ⟨rfl, rfl⟩
      go_wp2_with fail
      refine (heldIntS_any _ _ _ (m + 1 + 1 + (ed.i.length : Nat)) ed.o.length (by rw [show m + 1 + 1 = m + 2 by omega]; exact HR2.out) (by omega) (by omega)).mono ?_
      rintro e w2 ⟨rfl, rfl⟩
      go_wp2
      go_roundw
      case rel => exact ⟨i + 1, _, by omega, by go_num, rfl, Lib.hid (by have := HM.out; have := HOS.out; omega), HB2⟩
      case measure => simp [intOf]; omega
    · have hin : i = x.length := by omega
      have hxI : ¬ (i : Int) < (x.length : Int) := by omega
      have HI := Lib.hid (show m = k + (cntE x : Nat) by have := HM.out; rw [hin, offE_all] at this; exact this)
      clear hin
      go_wp2
      go_ret
      exact ⟨congrArg (fun z : Int => Ending.returned (.int .i64 z)) HI.out, HB2.out⟩
end Go.Proofs.Ytdcgoeapgboclaa
