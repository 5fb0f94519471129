/- slices.Concat of two grids: the program's side. -/
import Derived.Test.YtdjgkcnhmfkjoaaDoorJoin
namespace Go.Proofs.YtdjgkcnhmfkjoaaDoor
set_option maxRecDepth 100000
open Go Go.RowKit Go.Deep

set_option maxHeartbeats 800000 in
theorem grow_any (w : World) (n : Nat) (hn : n ≤ 1000000) :
    Calls Tryd.prog 57 #[.slice none 0 0, .int .i64 n] w fun e w' => ∃ v, e = .returned v ∧ Below w.heap.size w w' ∧ w'.ownsRow w.heap.size tR 1 v 0 [] := by
  obtain ⟨i0, hi0, hz0, hz1, hz2⟩ := info_parts infoR
  rcases Nat.eq_zero_or_pos n with rfl | h0
  · go_enter Tryd.func57, Tryd.ntmps57
    go_wp2
    go_ret
    exact ⟨_, rfl, Below.refl _ _, World.ownsRow_nil _ _ _ _⟩
  · have h0I : (0 : Int) < n := by omega
    go_enter Tryd.func57, Tryd.ntmps57
    go_wp2_with (at_builtin; refine Lib.wpList_append_run _ (by rfl) (.tmp 20) (.tmp 21) _ _ (by rfl) _ _ (by rfl) (by rfl) _ _ (Lib.run_append_nil_zeros w _ _ _ tR i0 _ .i64 .i64 Tryd.underlying22 Tryd.underlying3 hi0 hz0 n h0 (by rw [hz1]; omega) (by omega) (by rw [hz2]; omega)) ?_)
    have hge := grownCap_ge w n 0 tR
    have hle := grownCap_le_maxLen w n 0 tR (by unfold maxLen; omega)
    refine bodyPost_ret (v := .slice (some ⟨w.heap.size, 0, none⟩) 0 (grownCap w n 0 tR)) (by simp [results, Tryd.results57, go_sem]) rfl ?_
    refine ⟨_, rfl, ((Below.refl _ _).alloc (Nat.le_refl _) _).drew, rfl, Or.inr ⟨w.heap.size, grownCap w n 0 tR, _, rfl, Nat.le_refl _, heap_alloc_new w _, Nat.zero_le _, hle, ?_, by simp⟩⟩
    rw [Array.size_append, size_zeroCells, size_zeroCells]
    simp
    omega
set_option maxHeartbeats 1600000 in
/-- Two grids joined: the program's library. -/
theorem concat_any (w : World) (b : Nat) (A1 A2 : Option Addr) (c1 c2 : Nat) (R S : List (List Int)) (hc0 : w.cell? ⟨b, 0, none⟩ = some (.slice A1 R.length c1)) (hc1 : w.cell? ⟨b, 1, none⟩ = some (.slice A2 S.length c2)) (hb : b < w.heap.size) (ha : RdG w w.heap.size (.slice A1 R.length c1) R) (hs : RdG w w.heap.size (.slice A2 S.length c2) S) (hn : R.length + S.length ≤ 1000000) :
    Calls Tryd.prog 40 #[.slice (some ⟨b, 0, none⟩) 2 2] w fun e w' => ∃ v, e = .returned v ∧ Below w.heap.size w w' ∧ RdG w' w'.heap.size v (R ++ S) := by
  have HC : Hid (∀ w' : World, Below w.heap.size w w' → w'.cell? ⟨b, 0, none⟩ = some (.slice A1 R.length c1) ∧ w'.cell? ⟨b, 1, none⟩ = some (.slice A2 S.length c2)) := Lib.hid (fun w' hw => ⟨(hw.cell (p := ⟨b, 0, none⟩) hb).trans hc0, (hw.cell (p := ⟨b, 1, none⟩) hb).trans hc1⟩)
  have HA := Lib.hid ha
  have HS := Lib.hid hs
  clear ha hs
  have hsum : 0 ≤ (R.length : Int) + (S.length : Int) := by omega
  obtain ⟨n, hnn⟩ : ∃ n : Nat, n = R.length + S.length := ⟨_, rfl⟩
  have hn1 : n ≤ 1000000 := by omega
  have HN := Lib.hid hnn
  clear hnn
  go_enter Tryd.func40, Tryd.ntmps40
  go_wp2
  go_loopw [11, 3, 5] (fun i z _ wr => wr = w ∧ ((i = .int .i64 0 ∧ z = .int .i64 0) ∨ (i = .int .i64 1 ∧ z = .int .i64 R.length) ∨ (i = .int .i64 2 ∧ z = .int .i64 n))) (fun i _ _ _ => 2 - (intOf i).toNat)
  case atStart => exact ⟨rfl, Or.inl ⟨rfl, rfl⟩⟩
  case round =>
    obtain ⟨h0, hrel⟩ := hrel
    obtain rfl : w = wr := h0.symm
    clear h0
    obtain ⟨rfl, rfl⟩ | ⟨rfl, rfl⟩ | ⟨rfl, rfl⟩ := hrel
    · go_wp2
      go_roundw
      case rel => exact ⟨trivial, Or.inr (Or.inl ⟨rfl, by go_num⟩)⟩
      case measure => simp [intOf]
    · go_wp2
      go_roundw
      case rel => exact ⟨trivial, Or.inr (Or.inr ⟨rfl, by have h := HN.out; congr 1; omega⟩)⟩
      case measure => simp [intOf]
    · clear hc0 hc1
      go_wp2_with fail
      refine (grow_any w n hn1).mono ?_
      rintro e w1 ⟨v1, rfl, b1, o1⟩
      have HB1 := Lib.hid b1
      have HJ1 := Lib.hid (show JoinA w1 w.heap.size v1 [] [] from ⟨o1, rfl, fun _ h => absurd h (Nat.not_lt_zero _)⟩)
      clear b1 o1
      go_wp2
      go_loopw [27, 6, 8] (fun i v _ wr => Hid (Below w.heap.size w wr) ∧ ((i = .int .i64 0 ∧ Hid (JoinA wr w.heap.size v [] [])) ∨ (i = .int .i64 1 ∧ ∃ vs, Hid (JoinA wr w.heap.size v vs R)) ∨ (i = .int .i64 2 ∧ ∃ vs, Hid (JoinA wr w.heap.size v vs (R ++ S))))) (fun i _ _ _ => 2 - (intOf i).toNat)
      case atStart => exact ⟨HB1, Or.inl ⟨rfl, HJ1⟩⟩
      case round =>
        obtain ⟨HB2, ⟨rfl, HJ⟩ | ⟨rfl, vs, HJ⟩ | ⟨rfl, vs, HJ⟩⟩ := hrel
        · obtain ⟨hc0, hc1⟩ := HC.out wr HB2.out
          go_wp2_with (at_builtin; refine wpList_join (by rfl) (.tmp 31) (.tmp 32) (by rfl) _ w.heap.size _ [] [] R A1 c1 (by rfl) HJ.out (by rfl) (HA.out.below HB2.out (Nat.le_refl _)) HB2.out.size (by simp; omega) ?_; intro v2 vs2 w2 hj2 hb2; have HJ2 := Lib.hid hj2; have HB3 := Lib.hid (HB2.out.trans hb2); clear hj2 hb2)
          go_wp2
          go_roundw
          case rel => exact ⟨HB3, Or.inr (Or.inl ⟨rfl, vs2, HJ2⟩)⟩
          case measure => simp [intOf]
        · obtain ⟨hc0, hc1⟩ := HC.out wr HB2.out
          go_wp2_with (at_builtin; refine wpList_join (by rfl) (.tmp 31) (.tmp 32) (by rfl) _ w.heap.size _ vs R S A2 c2 (by rfl) HJ.out (by rfl) (HS.out.below HB2.out (Nat.le_refl _)) HB2.out.size (by omega) ?_; intro v2 vs2 w2 hj2 hb2; have HJ2 := Lib.hid hj2; have HB3 := Lib.hid (HB2.out.trans hb2); clear hj2 hb2)
          go_wp2
          go_roundw
          case rel => exact ⟨HB3, Or.inr (Or.inr ⟨rfl, vs2, HJ2⟩)⟩
          case measure => simp [intOf]
        · go_wp2
          go_ret
          exact ⟨_, rfl, HB2.out, HJ.out.read HB2.out.size⟩
end Go.Proofs.YtdjgkcnhmfkjoaaDoor
