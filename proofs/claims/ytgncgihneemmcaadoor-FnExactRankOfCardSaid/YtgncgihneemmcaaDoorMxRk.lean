/- Ranks and determinants: both sides. -/
import Derived.Test.YtgncgihneemmcaaDoorMxRed
import Derived.Test.YtgncgihneemmcaaDoorRdList
import Derived.Test.YtgncgihneemmcaaDoorRdMat
import Derived.Test.YtgncgihneemmcaaDoorMxSq
import Derived.Test.YtgncgihneemmcaaDoorMxAdd
import Derived.Test.YtgncgihneemmcaaDoorRetIB
namespace Go.Proofs.YtgncgihneemmcaaDoor
set_option maxRecDepth 100000
open Go Go.RowKit Go.Deep

theorem boxes1 {w w1 : World} {a : Array Value} {ta : TypeId} {B : Nat} (h : Below B (w.alloc (.cells a ta)) w1) (hB : B = (w.alloc (.cells a ta)).heap.size) : CellsAt w1 w.heap.size ta a.toList ∧ Below w.heap.size w w1 := by
  subst hB
  exact ⟨(cellsAt_new w a ta).below h (by rw [nblk_alloc]; omega), ((Below.refl _ _).alloc (Nat.le_refl _) _).trans (h.mono (by rw [nblk_alloc]; omega))⟩
theorem rank_eq {p : Int} (hf : fld p = true) {n c : Nat} {rows : List (List Int)} (h : Mat p n c rows) (t : List (List Int)) : (red p rows t c).lead.length = (rref p rows c).length := by
  rw [rref_len hf h, (red_rr p rows t c).2]
set_option maxHeartbeats 1600000 in
theorem mxRank_any (w : World) (B : Nat) (v : Value) (p : Int) (n c : Nat) (rows : List (List Int)) (hv : RdG w B v rows) (hB : B ≤ w.heap.size) (hf : fld p = true) (hm : Mat p n c rows) (hn : n ≤ 1000000) (hc : c ≤ 1000000) :
    Calls Tryd.prog 62 #[.int .i64 p, .agg #[.int .i64 c, v]] w fun e w' => e = .returned (.int .i64 (rref p rows c).length) ∧ Below w.heap.size w w' := by
  obtain ⟨A, cp, rfl⟩ := hv.len
  have HVB := Lib.hid (show Below w.heap.size w (w.alloc (.cells #[.int .i64 c, .slice A rows.length cp] tM)) from (Below.refl _ _).alloc (Nat.le_refl _) _)
  have HV := Lib.hid (hv.below HVB.out hB)
  have HB := Lib.hid (show B ≤ (w.alloc (.cells #[.int .i64 c, .slice A rows.length cp] tM)).heap.size by rw [nblk_alloc]; omega)
  have HF := Lib.hid hf
  have HM := Lib.hid hm
  have HRK := Lib.hid (rank_eq hf hm (idRows n))
  clear hv hB hf hm
  go_enter Tryd.func62, Tryd.ntmps62
  go_wp2_with fail
  refine (mxReduce_any _ B _ p n c rows HV.out HB.out HF.out HM.out hn hc).mono ?_
  rintro e w2 ⟨v1, v2, S1, S2, rfl, b2, o1, o2, -, -⟩
  obtain ⟨A1, c1, rfl⟩ := OwG.len o1
  obtain ⟨A2, c2, rfl⟩ := OwG.len o2
  generalize red p rows (idRows n) c = s at o1 o2 HRK ⊢
  have HB2 := Lib.hid (HVB.out.trans (b2.mono (by rw [nblk_alloc]; omega)))
  have hs2 : w.heap.size ≤ w2.heap.size := HB2.out.size
  clear b2 o1 o2
  go_wp2
  go_ret
  rw [← HRK.out]
  exact ⟨rfl, by refine Below.trans HB2.out ?_; repeat' (first | exact Below.refl _ _ | apply Below.drew | apply Below.setCell | apply Below.alloc | (simp; done) | omega | (simp; omega))⟩
def rankV (p c : Int) (rows : List (List Int)) : Int := if isMat p c rows then (rref p rows c.toNat).length else 0
theorem rank_no {p c : Int} {rows : List (List Int)} (h : isMat p c rows = false) : rankV p c rows = 0 := by simp [rankV, h]
theorem rank_yes {p : Int} {c : Nat} {rows : List (List Int)} (h : isMat p c rows = true) : rankV p c rows = (rref p rows c).length := by simp [rankV, h]
set_option maxHeartbeats 1600000 in
theorem spec_RankOf (w : World) (B : Nat) (v : Value) (p c : Int) (rows : List (List Int)) (hv : LfG w B v rows) (hB : B ≤ w.heap.size) (_hs : szG rows ≤ 1048576) :
    Calls Tryd.prog 21 #[.int .i64 p, .agg #[.int .i64 c, v]] w (SRetIB w (rankV p c rows) (isMat p c rows)) := by
  obtain ⟨A, cp, rfl⟩ := hv.len
  have HVB := Lib.hid (show Below w.heap.size w (w.alloc (.cells #[.int .i64 c, .slice A rows.length cp] tM)) from (Below.refl _ _).alloc (Nat.le_refl _) _)
  have HV := Lib.hid (hv.below HVB.out hB)
  have HB := Lib.hid (show B ≤ (w.alloc (.cells #[.int .i64 c, .slice A rows.length cp] tM)).heap.size by rw [nblk_alloc]; omega)
  clear hv hB
  cases hm : isMat p c rows with
  | false =>
    have HM := Lib.hid hm
    clear hm
    go_enter Tryd.func21, Tryd.ntmps21
    go_wp2_with fail
    refine (mxGood_any _ B _ p c rows HV.out.1 HB.out HV.out.2.1 HV.out.2.2).mono ?_
    rintro e w1 ⟨rfl, b⟩
    rw [HM.out]
    have HB1 := Lib.hid (boxes1 b rfl).2
    clear b
    go_wp2
    go_ret2
    rw [rank_no HM.out]
    exact ⟨rfl, HB1.out⟩
  | true =>
    obtain ⟨hf, hn24, c', rfl, hc24, hmat⟩ := (isMat_iff _ _ _).1 hm
    have HM := Lib.hid hm
    have HF := Lib.hid hf
    have HMM := Lib.hid hmat
    clear hm hf hmat
    go_enter Tryd.func21, Tryd.ntmps21
    go_wp2_with fail
    refine (mxGood_any _ B _ p _ rows HV.out.1 HB.out HV.out.2.1 HV.out.2.2).mono ?_
    rintro e w1 ⟨rfl, b⟩
    rw [HM.out]
    have HB1 := Lib.hid (boxes1 b rfl).2
    have HX := Lib.hid (boxes1 b rfl).1
    have HV1 := Lib.hid (HV.out.1.below b (by rw [nblk_alloc]; have := HB.out; rw [nblk_alloc] at this; omega))
    have hs1 : B ≤ w1.heap.size := Nat.le_trans HB.out b.size
    clear b
    obtain ⟨hx0, hx1, hxf0, hxf1, hxs⟩ := HX.out.two
    go_wp2_with fail
    refine (mxRank_any w1 B _ p rows.length c' rows HV1.out hs1 HF.out HMM.out (by omega) (by omega)).mono ?_
    rintro e w2 ⟨rfl, b2⟩
    have HB2 := Lib.hid (HB1.out.trans (b2.mono HB1.out.size))
    clear b2
    go_wp2
    go_ret2
    rw [rank_yes HM.out]
    exact ⟨rfl, HB2.out⟩
set_option maxHeartbeats 1600000 in
theorem impl_RankOf (w : World) (B : Nat) (v : Value) (p c : Int) (rows : List (List Int)) (ht : Tab w) (hv : LfG w B v rows) (hB : B ≤ w.heap.size) (_hs : szG rows ≤ 1048576) :
    Calls Tryd.prog 22 #[.int .i64 p, .agg #[.int .i64 c, v]] w (IRetIB w (rankV p c rows) (isMat p c rows)) := by
  obtain ⟨A, cp, rfl⟩ := hv.len
  have HVB := Lib.hid (show Below w.heap.size w (w.alloc (.cells #[.int .i64 c, .slice A rows.length cp] tM)) from (Below.refl _ _).alloc (Nat.le_refl _) _)
  have HV := Lib.hid (hv.below HVB.out hB)
  have HB := Lib.hid (show B ≤ (w.alloc (.cells #[.int .i64 c, .slice A rows.length cp] tM)).heap.size by rw [nblk_alloc]; omega)
  have HT := Lib.hid (show Tab (w.alloc (.cells #[.int .i64 c, .slice A rows.length cp] tM)) from ht.below ((Below.refl _ _).alloc (Nat.le_refl _) _))
  clear hv hB ht
  cases hm : isMat p c rows with
  | false =>
    have HM := Lib.hid hm
    clear hm
    go_enter Tryd.func22, Tryd.ntmps22
    go_wp2_with fail
    refine (implIsMatrix_any _ B _ p c rows HT.out HV.out.1 HB.out HV.out.2.1 HV.out.2.2).mono ?_
    rintro e w1 ⟨rfl, b⟩
    rw [HM.out]
    have HB1 := Lib.hid (boxes1 b rfl).2
    clear b
    go_wp2
    go_ret2
    rw [rank_no HM.out]
    exact ⟨rfl, HB1.out⟩
  | true =>
    obtain ⟨hf, hn24, c', rfl, hc24, hmat⟩ := (isMat_iff _ _ _).1 hm
    have HM := Lib.hid hm
    have HF := Lib.hid hf
    have HMM := Lib.hid hmat
    clear hm hf hmat
    go_enter Tryd.func22, Tryd.ntmps22
    go_wp2_with fail
    refine (implIsMatrix_any _ B _ p _ rows HT.out HV.out.1 HB.out HV.out.2.1 HV.out.2.2).mono ?_
    rintro e w1 ⟨rfl, b⟩
    rw [HM.out]
    have HB1 := Lib.hid (boxes1 b rfl).2
    have HX := Lib.hid (boxes1 b rfl).1
    have HV1 := Lib.hid (HV.out.1.below b (by rw [nblk_alloc]; have := HB.out; rw [nblk_alloc] at this; omega))
    have hs1 : B ≤ w1.heap.size := Nat.le_trans HB.out b.size
    clear b
    obtain ⟨hx0, hx1, hxf0, hxf1, hxs⟩ := HX.out.two
    go_wp2_with fail
    refine (reducedList_any w1 B _ p rows.length c' rows HV1.out hs1 HF.out HMM.out (by omega) (by omega)).mono ?_
    rintro e w2 ⟨v2, rfl, b2, o2⟩
    obtain ⟨A2, c2, rfl⟩ := OwG.len o2
    have HB2 := Lib.hid (HB1.out.trans (b2.mono HB1.out.size))
    clear b2 o2
    go_wp2
    go_ret2
    rw [rank_yes HM.out]
    exact ⟨rfl, HB2.out⟩
end Go.Proofs.YtgncgihneemmcaaDoor
