/- IsTerm: the model's side. -/
import Derived.Test.YtlnhkhgkmikhoaaDoorTmQ
import Derived.Test.YtlnhkhgkmikhoaaDoorItT
namespace Go.Proofs.YtlnhkhgkmikhoaaDoor
set_option maxRecDepth 100000
open Go Go.RowKit Go.Deep

set_option maxRecDepth 100000 in
set_option maxHeartbeats 6400000 in
theorem tmGood_any (w : World) (B : Nat) (p : Int) (v : Value) (x : List Nd) (hv : LfN w B v x) (hB : B ≤ w.heap.size) :
    Calls Tryd.prog 10 #[.int .i64 p, .agg #[v]] w fun e w' => e = .returned (.bool (itOk p x)) ∧ Below w.heap.size w w' := by
  have HB0 := Lib.hid (Below.alloc (Below.refl w.heap.size w) (Nat.le_refl _) (.cells #[v] tTm))
  have HSC := Lib.hid (tmScan_any (w.alloc (.cells #[v] tTm)) B v x (hv.below HB0.out hB) (by simp; omega))
  have HT0 := Lib.hid (cellsAt_new' w #[v] tTm [v] w.heap.size rfl rfl)
  have hsz0 : (w.alloc (.cells #[v] tTm)).heap.size = w.heap.size + 1 := by simp
  have HV := Lib.hid hv.1
  have HB := Lib.hid hB
  obtain ⟨A, c, rfl⟩ := hv.len
  clear hv hB
  cases hok : okS x with
  | false =>
    have H1 : Hid (itOk p x = false) := Lib.hid (by unfold itOk tyOk; rw [← ok_both, hok]; rfl)
    have HOK := Lib.hid hok
    clear hok
    go_enter Tryd.func10, Tryd.ntmps10
    go_wp2_with fail
    refine HSC.out.mono ?_
    rintro e w2 ⟨v0, v1, v2, rfl, b2, -, ⟨A0, n0, c0, rfl⟩, ⟨A1, n1, c1, rfl⟩, ⟨A2, n2, c2, rfl⟩⟩
    rw [HOK.out]
    have HB2 := Lib.hid (HB0.out.trans (b2.mono (by rw [hsz0]; omega)))
    have HT2 := Lib.hid (HT0.out.below b2 (by rw [hsz0]; omega))
    have hsz2 : w.heap.size + 1 ≤ w2.heap.size := by rw [← hsz0]; exact b2.size
    have ht0 : w2.cell? ⟨w.heap.size, 0, none⟩ = some (.slice A x.length c) := HT2.out.cell (i := 0) (by simp)
    have hlt0 : w.heap.size < w2.heap.size := by omega
    have HB3 : Hid (Below w.heap.size w (w2.alloc (.cells #[.slice A0 n0 c0, .slice A1 n1 c1, .slice A2 n2 c2] 50))) := Lib.hid (HB2.out.alloc (by omega) _)
    clear b2
    go_wp2
    refine bodyPost_ret (v := .bool false) (by simp [results, Tryd.results10, go_sem]) rfl ?_
    rw [H1.out]
    exact ⟨rfl, HB3.out⟩
  | true =>
    obtain ⟨t, ht⟩ : ∃ t, treeOf x = some t := by
      rw [ok_both] at hok
      exact Option.isSome_iff_exists.1 hok
    obtain ⟨hV, hn, hl⟩ := tree_valid ht
    have HV0 := Lib.hid (show ∀ n ∈ x, 0 ≤ n.v from by rw [← hn]; exact stack_v hV)
    have HTY : Hid (tyOk x = true) := Lib.hid (by unfold tyOk; rw [ht]; rfl)
    have HFG := Lib.hid (fun w0 => fdGood_any p w0)
    have HOK := Lib.hid hok
    clear hok ht hV hn
    cases hf : fld p with
    | false =>
      have H1 : Hid (itOk p x = false) := Lib.hid (by unfold itOk; rw [HTY.out, hf]; rfl)
      rw [hf] at HFG
      clear hf
      go_enter Tryd.func10, Tryd.ntmps10
      go_wp2_with fail
      refine HSC.out.mono ?_
      rintro e w2 ⟨v0, v1, v2, rfl, b2, -, ⟨A0, n0, c0, rfl⟩, ⟨A1, n1, c1, rfl⟩, ⟨A2, n2, c2, rfl⟩⟩
      rw [HOK.out]
      have HB2 := Lib.hid (HB0.out.trans (b2.mono (by rw [hsz0]; omega)))
      have HT2 := Lib.hid (HT0.out.below b2 (by rw [hsz0]; omega))
      have hsz2 : w.heap.size + 1 ≤ w2.heap.size := by rw [← hsz0]; exact b2.size
      have ht0 : w2.cell? ⟨w.heap.size, 0, none⟩ = some (.slice A x.length c) := HT2.out.cell (i := 0) (by simp)
      have hlt0 : w.heap.size < w2.heap.size := by omega
      have HB3 : Hid (Below w.heap.size w (w2.alloc (.cells #[.slice A0 n0 c0, .slice A1 n1 c1, .slice A2 n2 c2] 50))) := Lib.hid (HB2.out.alloc (by omega) _)
      clear b2
      go_wp2_with (first | (go_at_call 21; refine (HFG.out _).mono ?_; rintro e w' ⟨rfl, rfl⟩) | fail)
      refine bodyPost_ret (v := .bool false) (by simp [results, Tryd.results10, go_sem]) rfl ?_
      rw [H1.out]
      exact ⟨rfl, HB3.out⟩
    | true =>
      have H1 : Hid (itOk p x = !(x.any (badN p))) := Lib.hid (by unfold itOk; rw [HTY.out, hf]; rfl)
      have HBV := Lib.hid (fun (n : Nd) (h0 : 0 ≤ n.v) => badN_valid (n := n) hf h0)
      rw [hf] at HFG
      clear hf
      go_enter Tryd.func10, Tryd.ntmps10
      go_wp2_with fail
      refine HSC.out.mono ?_
      rintro e w2 ⟨v0, v1, v2, rfl, b2, -, ⟨A0, n0, c0, rfl⟩, ⟨A1, n1, c1, rfl⟩, ⟨A2, n2, c2, rfl⟩⟩
      rw [HOK.out]
      have HB2 := Lib.hid (HB0.out.trans (b2.mono (by rw [hsz0]; omega)))
      have HT2 := Lib.hid (HT0.out.below b2 (by rw [hsz0]; omega))
      have hsz2 : w.heap.size + 1 ≤ w2.heap.size := by rw [← hsz0]; exact b2.size
      have ht0 : w2.cell? ⟨w.heap.size, 0, none⟩ = some (.slice A x.length c) := HT2.out.cell (i := 0) (by simp)
      have hlt0 : w.heap.size < w2.heap.size := by omega
      have HB3 : Hid (Below w.heap.size w (w2.alloc (.cells #[.slice A0 n0 c0, .slice A1 n1 c1, .slice A2 n2 c2] 50))) := Lib.hid (HB2.out.alloc (by omega) _)
      clear b2
      go_wp2_with (first | (go_at_call 21; refine (HFG.out _).mono ?_; rintro e w' ⟨rfl, rfl⟩) | fail)
      go_loopw [24] (fun i wr => ∃ k : Nat, k ≤ x.length ∧ i = .int .i64 k ∧ Hid (Below w.heap.size w wr) ∧ Hid (∀ j, j < k → badN p (x.getD j nd0) = false)) (fun i _ => x.length - (intOf i).toNat)
      case atStart => exact ⟨0, Nat.zero_le _, rfl, HB3, Lib.hid fun j hj => absurd hj (Nat.not_lt_zero j)⟩
      case round =>
        obtain ⟨k, hk, rfl, HBR, HS⟩ := hrel
        by_cases hlt : k < x.length
        · obtain ⟨b, o, rfl, hb, hc0, hc1, hc2⟩ := (HV.out.below HBR.out HB.out).at hlt
          have hxI : (k : Int) < (x.length : Int) := by omega
          have hsr : w.heap.size ≤ wr.heap.size := HBR.out.size
          have HBD := Lib.hid (show (decide ((x.getD k nd0).k = 7 ∨ (x.getD k nd0).k = 13) && decide (p ≤ (x.getD k nd0).v)) = false → badN p (x.getD k nd0) = false from fun h => (HBV.out _ (HV0.out _ (getD_mem' hlt nd0))).trans h)
          have HYY := Lib.hid (show (decide ((x.getD k nd0).k = 7 ∨ (x.getD k nd0).k = 13) && decide (p ≤ (x.getD k nd0).v)) = true → x.any (badN p) = true from fun h => anyN_yes hlt ((HBV.out _ (HV0.out _ (getD_mem' hlt nd0))).trans h))
          obtain ⟨nd, HND⟩ : ∃ nd, Hid (x.getD k nd0 = nd) := ⟨_, Lib.hid rfl⟩
          rw [HND.out] at hc0 hc1 hc2
          by_cases h7 : nd.k = 7
          · by_cases hp : p ≤ nd.v
            · have HY := Lib.hid (HYY.out (by rw [HND.out, decide_eq_true (Or.inl h7), decide_eq_true hp]; rfl))
              go_wp2
              refine bodyPost_ret (v := .bool false) (by simp [results, Tryd.results10, go_sem]) rfl ?_
              rw [H1.out, HY.out]
              exact ⟨rfl, by refine Below.trans HBR.out ?_; repeat' (first | exact Below.refl _ _ | apply Below.drew | apply below_drewN | apply Below.setCell | apply Below.alloc | (simp; done) | omega | (simp; omega))⟩
            · have HS2 := Lib.hid (show ∀ j, j < k + 1 → badN p (x.getD j nd0) = false from fun j hj => by
                by_cases c : j = k
                · rw [c]; exact HBD.out (by rw [HND.out]; rw [decide_eq_false hp, Bool.and_false])
                · exact HS.out j (by omega))
              go_wp2
              go_roundw
              case rel => exact ⟨k + 1, by omega, by go_num, Lib.hid (by refine Below.trans HBR.out ?_; repeat' (first | exact Below.refl _ _ | apply Below.drew | apply below_drewN | apply Below.setCell | apply Below.alloc | (simp; done) | omega | (simp; omega))), HS2⟩
              case measure => simp [intOf]; omega
          · by_cases h13 : nd.k = 13
            · by_cases hp : p ≤ nd.v
              · have HY := Lib.hid (HYY.out (by rw [HND.out, decide_eq_true (Or.inr h13), decide_eq_true hp]; rfl))
                go_wp2
                refine bodyPost_ret (v := .bool false) (by simp [results, Tryd.results10, go_sem]) rfl ?_
                rw [H1.out, HY.out]
                exact ⟨rfl, by refine Below.trans HBR.out ?_; repeat' (first | exact Below.refl _ _ | apply Below.drew | apply below_drewN | apply Below.setCell | apply Below.alloc | (simp; done) | omega | (simp; omega))⟩
              · have HS2 := Lib.hid (show ∀ j, j < k + 1 → badN p (x.getD j nd0) = false from fun j hj => by
                  by_cases c : j = k
                  · rw [c]; exact HBD.out (by rw [HND.out]; rw [decide_eq_false hp, Bool.and_false])
                  · exact HS.out j (by omega))
                go_wp2
                go_roundw
                case rel => exact ⟨k + 1, by omega, by go_num, Lib.hid (by refine Below.trans HBR.out ?_; repeat' (first | exact Below.refl _ _ | apply Below.drew | apply below_drewN | apply Below.setCell | apply Below.alloc | (simp; done) | omega | (simp; omega))), HS2⟩
                case measure => simp [intOf]; omega
            · have HS2 := Lib.hid (show ∀ j, j < k + 1 → badN p (x.getD j nd0) = false from fun j hj => by
                by_cases c : j = k
                · rw [c]; exact HBD.out (by rw [HND.out]; rw [decide_eq_false (fun h => h.elim h7 h13), Bool.false_and])
                · exact HS.out j (by omega))
              go_wp2
              go_roundw
              case rel => exact ⟨k + 1, by omega, by go_num, Lib.hid (by refine Below.trans HBR.out ?_; repeat' (first | exact Below.refl _ _ | apply Below.drew | apply below_drewN | apply Below.setCell | apply Below.alloc | (simp; done) | omega | (simp; omega))), HS2⟩
              case measure => simp [intOf]; omega
        · have hxI : ¬ (k : Int) < (x.length : Int) := by omega
          have HN := Lib.hid (anyN_no (f := badN p) fun j hj => HS.out j (by omega))
          go_wp2
          refine bodyPost_ret (v := .bool true) (by simp [results, Tryd.results10, go_sem]) rfl ?_
          rw [H1.out, HN.out]
          exact ⟨rfl, HBR.out⟩
set_option maxHeartbeats 3200000 in
theorem spec_IsTerm (w : World) (B : Nat) (p : Int) (v : Value) (x : List Nd) (hv : LfN w B v x) (hB : B ≤ w.heap.size) (_ : szN x ≤ 1048576) :
    Calls Tryd.prog 5 #[.int .i64 p, .agg #[v]] w (SRetB w (itOk p x)) := by
  have HB0 := Lib.hid (Below.alloc (Below.refl w.heap.size w) (Nat.le_refl _) (.cells #[v] tTm))
  have HG := Lib.hid (tmGood_any (w.alloc (.cells #[v] tTm)) B p v x (hv.below HB0.out hB) (by simp; omega))
  obtain ⟨A, c, rfl⟩ := hv.len
  clear hv hB
  go_enter Tryd.func5, Tryd.ntmps5
  go_wp2_with fail
  refine HG.out.mono ?_
  rintro e w2 ⟨rfl, b2⟩
  have HB2 := Lib.hid (HB0.out.trans (b2.mono (by simp)))
  clear b2
  go_wp2
  refine bodyPost_ret (v := .bool (itOk p x)) (by simp [results, Tryd.results5, go_sem]) rfl ?_
  exact ⟨rfl, HB2.out⟩
end Go.Proofs.YtlnhkhgkmikhoaaDoor
