/- What the laws on prime fields draw: ints in a small range; nothing that was there changes. -/
import Derived.Test.YtoajbnkpognoiaaDoorCur
namespace Go.Proofs.YtoajbnkpognoiaaDoor
open Go Go.RowKit

theorem results_tmp4 {fn : Func} {t u v x : Tmp} (h : fn.results = #[.tmp t, .tmp u, .tmp v, .tmp x]) (tmps : Array Value) (P : Program) (w : World) :
    (results fn tmps).run P w = .ok (.tuple #[tmps.getD t undef, tmps.getD u undef, tmps.getD v undef, tmps.getD x undef]) w := by simp [results, h]
theorem Bytes.slice {w : World} {B : Nat} {V : Value} (h : Bytes w B V) : ∃ A n c, V = .slice A n c := by
  obtain ⟨A, n, c, e, _⟩ := h
  exact ⟨A, n, c, e⟩
theorem cur_new (w : World) (V : Value) : CurOK (w.alloc (.cells #[V, .int .i64 0, .int .u64 0] 46)) w.heap.size V 0 := by
  exact ⟨0, 0, Nat.le_refl _, heap_alloc_new _ _⟩
def Ret_DrawFieldAdd (e : Ending) : Prop := ∃ p a1 a2 : Int, (-1 ≤ p ∧ p ≤ 102) ∧ (-1 ≤ a1 ∧ a1 ≤ 102) ∧ (-1 ≤ a2 ∧ a2 ≤ 102) ∧ e = .returned (.tuple #[.int .i64 p, .int .i64 a1, .int .i64 a2])
set_option maxHeartbeats 400000 in
theorem DrawFieldAdd_any (w : World) (V : Value) (hv : Bytes w w.heap.size V) : Calls Tryd.prog 25 #[V] w fun e w' => Ret_DrawFieldAdd e ∧ Below w.heap.size w w' := by
  obtain ⟨A, n, c, rfl⟩ := hv.slice
  have HC0 := Lib.hid (cur_new w (.slice A n c))
  have HV0 := Lib.hid (hv.below ((Below.refl _ _).alloc (Nat.le_refl _) (.cells #[.slice A n c, .int .i64 0, .int .u64 0] 46)) (Nat.le_refl _))
  clear hv
  go_enter Tryd.func25, Tryd.ntmps25
  go_wp2_with fail
  refine (anyPrime_any _ w.heap.size 0 _ HC0.out HV0.out (by omega)).mono ?_
  rintro e w1 ⟨⟨p, hp, rfl⟩, hc1, hv1, hf1⟩
  have HP := Lib.hid (show -1 ≤ p ∧ p ≤ 102 by omega)
  have p1 := hp.1
  have p2 := hp.2
  have HF1 := Lib.hid hf1
  clear hf1 hp
  go_wp2_with fail
  refine (anyElem_any _ w.heap.size 2 _ p hc1 hv1 (by omega) (by omega) (by omega)).mono ?_
  rintro e w2 ⟨⟨a1, h1, rfl⟩, hc2, hv2, hf2⟩
  have H1 := Lib.hid h1
  have HF2 := Lib.hid (HF1.out.trans hf2)
  clear hf2 hc1 hv1 h1
  go_wp2_with fail
  refine (anyElem_any _ w.heap.size 4 _ p hc2 hv2 (by omega) (by omega) (by omega)).mono ?_
  rintro e w3 ⟨⟨a2, h2, rfl⟩, hc3, hv3, hf3⟩
  have H2 := Lib.hid h2
  have HF3 := Lib.hid (HF2.out.trans hf3)
  clear hf3 hc2 hv2 h2
  go_wp2
  go_ret3
  exact ⟨⟨_, _, _, HP.out, H1.out, H2.out, rfl⟩, ((Below.refl _ _).alloc (Nat.le_refl _) _).trans (HF3.out.below (Nat.le_refl _) (by simp))⟩
def Ret_DrawFieldMul (e : Ending) : Prop := ∃ p a1 a2 : Int, (-1 ≤ p ∧ p ≤ 102) ∧ (-1 ≤ a1 ∧ a1 ≤ 102) ∧ (-1 ≤ a2 ∧ a2 ≤ 102) ∧ e = .returned (.tuple #[.int .i64 p, .int .i64 a1, .int .i64 a2])
theorem DrawFieldMul_any (w : World) (V : Value) (hv : Bytes w w.heap.size V) : Calls Tryd.prog 6 #[V] w fun e w' => Ret_DrawFieldMul e ∧ Below w.heap.size w w' := by
  go_enter Tryd.func6, Tryd.ntmps6
  go_wp2_with fail
  refine (DrawFieldAdd_any w V hv).mono ?_
  rintro e w' ⟨⟨p, a1, a2, h0, h1, h2, rfl⟩, hb⟩
  have H0 := Lib.hid h0
  have H1 := Lib.hid h1
  have H2 := Lib.hid h2
  have HB := Lib.hid hb
  clear hb hv h0 h1 h2
  go_wp2
  go_ret3
  exact ⟨⟨_, _, _, H0.out, H1.out, H2.out, rfl⟩, HB.out⟩
def Ret_DrawDiscreteLog (e : Ending) : Prop := ∃ p a1 a2 : Int, (-1 ≤ p ∧ p ≤ 102) ∧ (-1 ≤ a1 ∧ a1 ≤ 102) ∧ (-1 ≤ a2 ∧ a2 ≤ 102) ∧ e = .returned (.tuple #[.int .i64 p, .int .i64 a1, .int .i64 a2])
theorem DrawDiscreteLog_any (w : World) (V : Value) (hv : Bytes w w.heap.size V) : Calls Tryd.prog 13 #[V] w fun e w' => Ret_DrawDiscreteLog e ∧ Below w.heap.size w w' := by
  go_enter Tryd.func13, Tryd.ntmps13
  go_wp2_with fail
  refine (DrawFieldAdd_any w V hv).mono ?_
  rintro e w' ⟨⟨p, a1, a2, h0, h1, h2, rfl⟩, hb⟩
  have H0 := Lib.hid h0
  have H1 := Lib.hid h1
  have H2 := Lib.hid h2
  have HB := Lib.hid hb
  clear hb hv h0 h1 h2
  go_wp2
  go_ret3
  exact ⟨⟨_, _, _, H0.out, H1.out, H2.out, rfl⟩, HB.out⟩
def Ret_DrawFieldInverse (e : Ending) : Prop := ∃ p a1 : Int, (-1 ≤ p ∧ p ≤ 102) ∧ (-1 ≤ a1 ∧ a1 ≤ 102) ∧ e = .returned (.tuple #[.int .i64 p, .int .i64 a1])
set_option maxHeartbeats 400000 in
theorem DrawFieldInverse_any (w : World) (V : Value) (hv : Bytes w w.heap.size V) : Calls Tryd.prog 32 #[V] w fun e w' => Ret_DrawFieldInverse e ∧ Below w.heap.size w w' := by
  obtain ⟨A, n, c, rfl⟩ := hv.slice
  have HC0 := Lib.hid (cur_new w (.slice A n c))
  have HV0 := Lib.hid (hv.below ((Below.refl _ _).alloc (Nat.le_refl _) (.cells #[.slice A n c, .int .i64 0, .int .u64 0] 46)) (Nat.le_refl _))
  clear hv
  go_enter Tryd.func32, Tryd.ntmps32
  go_wp2_with fail
  refine (anyPrime_any _ w.heap.size 0 _ HC0.out HV0.out (by omega)).mono ?_
  rintro e w1 ⟨⟨p, hp, rfl⟩, hc1, hv1, hf1⟩
  have HP := Lib.hid (show -1 ≤ p ∧ p ≤ 102 by omega)
  have p1 := hp.1
  have p2 := hp.2
  have HF1 := Lib.hid hf1
  clear hf1 hp
  go_wp2_with fail
  refine (anyElem_any _ w.heap.size 2 _ p hc1 hv1 (by omega) (by omega) (by omega)).mono ?_
  rintro e w2 ⟨⟨a1, h1, rfl⟩, hc2, hv2, hf2⟩
  have H1 := Lib.hid h1
  have HF2 := Lib.hid (HF1.out.trans hf2)
  clear hf2 hc1 hv1 h1
  go_wp2
  go_ret2
  exact ⟨⟨_, _, HP.out, H1.out, rfl⟩, ((Below.refl _ _).alloc (Nat.le_refl _) _).trans (HF2.out.below (Nat.le_refl _) (by simp))⟩
def Ret_DrawSquareRoot (e : Ending) : Prop := ∃ p a1 : Int, (-1 ≤ p ∧ p ≤ 102) ∧ (-1 ≤ a1 ∧ a1 ≤ 102) ∧ e = .returned (.tuple #[.int .i64 p, .int .i64 a1])
theorem DrawSquareRoot_any (w : World) (V : Value) (hv : Bytes w w.heap.size V) : Calls Tryd.prog 16 #[V] w fun e w' => Ret_DrawSquareRoot e ∧ Below w.heap.size w w' := by
  go_enter Tryd.func16, Tryd.ntmps16
  go_wp2_with fail
  refine (DrawFieldInverse_any w V hv).mono ?_
  rintro e w' ⟨⟨p, a1, h0, h1, rfl⟩, hb⟩
  have H0 := Lib.hid h0
  have H1 := Lib.hid h1
  have HB := Lib.hid hb
  clear hb hv h0 h1
  go_wp2
  go_ret2
  exact ⟨⟨_, _, H0.out, H1.out, rfl⟩, HB.out⟩
def Ret_DrawQuadraticRoots (e : Ending) : Prop := ∃ p a1 a2 a3 : Int, (-1 ≤ p ∧ p ≤ 102) ∧ (-1 ≤ a1 ∧ a1 ≤ 102) ∧ (-1 ≤ a2 ∧ a2 ≤ 102) ∧ (-1 ≤ a3 ∧ a3 ≤ 102) ∧ e = .returned (.tuple #[.int .i64 p, .int .i64 a1, .int .i64 a2, .int .i64 a3])
set_option maxHeartbeats 400000 in
theorem DrawQuadraticRoots_any (w : World) (V : Value) (hv : Bytes w w.heap.size V) : Calls Tryd.prog 22 #[V] w fun e w' => Ret_DrawQuadraticRoots e ∧ Below w.heap.size w w' := by
  obtain ⟨A, n, c, rfl⟩ := hv.slice
  have HC0 := Lib.hid (cur_new w (.slice A n c))
  have HV0 := Lib.hid (hv.below ((Below.refl _ _).alloc (Nat.le_refl _) (.cells #[.slice A n c, .int .i64 0, .int .u64 0] 46)) (Nat.le_refl _))
  clear hv
  go_enter Tryd.func22, Tryd.ntmps22
  go_wp2_with fail
  refine (anyPrime_any _ w.heap.size 0 _ HC0.out HV0.out (by omega)).mono ?_
  rintro e w1 ⟨⟨p, hp, rfl⟩, hc1, hv1, hf1⟩
  have HP := Lib.hid (show -1 ≤ p ∧ p ≤ 102 by omega)
  have p1 := hp.1
  have p2 := hp.2
  have HF1 := Lib.hid hf1
  clear hf1 hp
  go_wp2_with fail
  refine (anyElem_any _ w.heap.size 2 _ p hc1 hv1 (by omega) (by omega) (by omega)).mono ?_
  rintro e w2 ⟨⟨a1, h1, rfl⟩, hc2, hv2, hf2⟩
  have H1 := Lib.hid h1
  have HF2 := Lib.hid (HF1.out.trans hf2)
  clear hf2 hc1 hv1 h1
  go_wp2_with fail
  refine (anyElem_any _ w.heap.size 4 _ p hc2 hv2 (by omega) (by omega) (by omega)).mono ?_
  rintro e w3 ⟨⟨a2, h2, rfl⟩, hc3, hv3, hf3⟩
  have H2 := Lib.hid h2
  have HF3 := Lib.hid (HF2.out.trans hf3)
  clear hf3 hc2 hv2 h2
  go_wp2_with fail
  refine (anyElem_any _ w.heap.size 6 _ p hc3 hv3 (by omega) (by omega) (by omega)).mono ?_
  rintro e w4 ⟨⟨a3, h3, rfl⟩, hc4, hv4, hf4⟩
  have H3 := Lib.hid h3
  have HF4 := Lib.hid (HF3.out.trans hf4)
  clear hf4 hc3 hv3 h3
  go_wp2
  refine bodyPost_ret (results_tmp4 rfl _ _ _) rfl ?_
  exact ⟨⟨_, _, _, _, HP.out, H1.out, H2.out, H3.out, rfl⟩, ((Below.refl _ _).alloc (Nat.le_refl _) _).trans (HF4.out.below (Nat.le_refl _) (by simp))⟩
end Go.Proofs.YtoajbnkpognoiaaDoor
