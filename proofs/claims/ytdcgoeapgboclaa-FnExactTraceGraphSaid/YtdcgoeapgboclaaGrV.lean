/- Graphs: the model's check of a graph. -/
import Derived.Test.YtdcgoeapgboclaaGrC
namespace Go.Proofs.Ytdcgoeapgboclaa
set_option maxRecDepth 100000
open Go Go.RowKit Go.Deep

/-- Every wire is in a list. -/
def useB (n : Nat) (es : List Ed) (xi xo : List Int) : Bool := (List.range n).all fun k => decide (0 < (fromL es xi).count (k : Int) + (toL es xo).count (k : Int))
/-- The model's check. -/
def validB (n : Int) (es : List Ed) (xi xo : List Int) : Bool :=
  decide (0 ≤ n) && decide (n ≤ 100) && decide (es.length ≤ 60) && decide (xi.length ≤ 12) && decide (xo.length ≤ 12) && allL xi 0 (n - 1) && allL xo 0 (n - 1) && es.all (edB n) && useB n.toNat es xi xo
theorem edB_parts {n : Int} {e : Ed} (h : edB n e = true) : 3 ≤ e.k ∧ e.k ≤ 14 ∧ isLeafB ⟨e.k, e.v, ByteArray.empty⟩ = true ∧ (e.i.length : Int) = (kindW e.k).1 ∧ (e.o.length : Int) = (kindW e.k).2 ∧ allL e.i 0 (n - 1) = true ∧ allL e.o 0 (n - 1) = true := by
  unfold edB at h
  simp only [Bool.and_eq_true, decide_eq_true_eq] at h
  obtain ⟨⟨⟨⟨⟨⟨a, b⟩, c⟩, d⟩, e⟩, f⟩, g⟩ := h
  exact ⟨a, b, c, d, e, f, g⟩
theorem kindW_bd (k : Int) : 0 ≤ (kindW k).1 ∧ (kindW k).1 ≤ 2 ∧ 0 ≤ (kindW k).2 ∧ (kindW k).2 ≤ 2 := by
  unfold kindW
  repeat' split
  all_goals simp
theorem edges_at {n : Int} {es : List Ed} (h : es.all (edB n) = true) {k : Nat} (hk : k < es.length) : edB n (es.getD k ed0) = true := List.all_eq_true.1 h _ (getD_mem' hk ed0)
theorem edges_false {n : Int} {es : List Ed} {k : Nat} (hk : k < es.length) (h : edB n (es.getD k ed0) = false) : es.all (edB n) = false := by
  rw [List.all_eq_false]
  exact ⟨es.getD k ed0, getD_mem' hk ed0, by rw [h]; exact Bool.false_ne_true⟩
theorem edges_take {n : Int} {es : List Ed} {k : Nat} (hk : k < es.length) (h1 : (es.take k).all (edB n) = true) (h2 : edB n (es.getD k ed0) = true) : (es.take (k + 1)).all (edB n) = true := by
  rw [take_one hk ed0, List.all_append, h1]
  simpa using h2
theorem use_false {n k : Nat} {es : List Ed} {xi xo : List Int} (hk : k < n) (h : (fromL es xi).count (k : Int) + (toL es xo).count (k : Int) = 0) : useB n es xi xo = false := by
  unfold useB
  rw [List.all_eq_false]
  exact ⟨k, List.mem_range.2 hk, by simp [h]⟩
theorem use_true {n : Nat} {es : List Ed} {xi xo : List Int} (h : ∀ k, k < n → 0 < (fromL es xi).count (k : Int) + (toL es xo).count (k : Int)) : useB n es xi xo = true := by
  unfold useB
  rw [List.all_eq_true]
  exact fun k hk => by simpa using h k (List.mem_range.1 hk)
set_option maxRecDepth 100000 in
set_option maxHeartbeats 6400000 in
theorem hgValid_any (w : World) (B : Nat) (n : Int) (es : List Ed) (xi xo : List Int) (AE : Option Addr) (cE : Nat) (AI : Option Addr) (cI : Nat) (AO : Option Addr) (cO : Nat) (hE : RdE w B (.slice AE es.length cE) es) (hI : RdS w (fun q => q < B) (.slice AI xi.length cI) xi) (hO : RdS w (fun q => q < B) (.slice AO xo.length cO) xo) (hB : B ≤ w.heap.size)
    (hle : es.length ≤ 9223372036854775807) (hli : xi.length ≤ 9223372036854775807) (hlo : xo.length ≤ 9223372036854775807) (hlr : ∀ k, k < es.length → (es.getD k ed0).i.length ≤ 9223372036854775807 ∧ (es.getD k ed0).o.length ≤ 9223372036854775807) :
    Calls Try.prog 28 #[.agg #[.int .i64 n, .slice AE es.length cE, .slice AI xi.length cI, .slice AO xo.length cO]] w fun x w' => x = .returned (.bool (validB n es xi xo)) ∧ Below w.heap.size w w' := by
  have HX := Lib.hid (cellsAt_new w #[.int .i64 n, .slice AE es.length cE, .slice AI xi.length cI, .slice AO xo.length cO] tGf)
  have HBW := Lib.hid (show Below w.heap.size w (w.alloc (.cells #[.int .i64 n, .slice AE es.length cE, .slice AI xi.length cI, .slice AO xo.length cO] tGf)) from (Below.refl _ _).alloc (Nat.le_refl _) _)
  have HE := Lib.hid (hE.below HBW.out hB)
  have HI := Lib.hid (hI.below HBW.out hB)
  have HO := Lib.hid (hO.below HBW.out hB)
  have HLR := Lib.hid hlr
  have hB0 : B ≤ (w.alloc (.cells #[.int .i64 n, .slice AE es.length cE, .slice AI xi.length cI, .slice AO xo.length cO] tGf)).heap.size := Nat.le_trans hB HBW.out.size
  have HV := Lib.hid (show validB n es xi xo = (decide (0 ≤ n) && decide (n ≤ 100) && decide (es.length ≤ 60) && decide (xi.length ≤ 12) && decide (xo.length ≤ 12) && allL xi 0 (n - 1) && allL xo 0 (n - 1) && es.all (edB n) && useB n.toNat es xi xo) from rfl)
  clear hE hI hO hB hlr
  go_enter Try.func28, Try.ntmps28
  go_wp2_with fail
  refine (l1In_any _ _ _ _).mono ?_
  rintro x w' ⟨rfl, rfl⟩
  have hsz : (w.alloc (.cells #[.int .i64 n, .slice AE es.length cE, .slice AI xi.length cI, .slice AO xo.length cO] tGf)).heap.size = w.heap.size + 1 := by simp
  generalize w.alloc (.cells #[.int .i64 n, .slice AE es.length cE, .slice AI xi.length cI, .slice AO xo.length cO] tGf) = W at HX HBW HE HI HO hB0 hsz ⊢
  have hW : w.heap.size < W.heap.size := by omega
  clear hsz
  obtain ⟨hx0, hx1, hx2, hx3, hxl⟩ := HX.out.four
  cases hb1 : (decide (0 ≤ n) && decide (n ≤ 100)) with
  | false =>
    have HN := Lib.hid (show validB n es xi xo = false by rw [HV.out]; rw [hb1]; rfl)
    clear hb1
    go_wp2
    go_ret
    rw [HN.out]
    exact ⟨rfl, HBW.out⟩
  | true =>
    have hn01 : 0 ≤ n ∧ n ≤ 100 := by simpa using hb1
    have hn0 := hn01.1
    have hn1 := hn01.2
    clear hn01 hb1
    by_cases h60 : es.length ≤ 60
    case neg =>
      have h60I : (60 : Int) < (es.length : Int) := by omega
      have HN := Lib.hid (show validB n es xi xo = false by rw [HV.out]; simp [h60])
      go_wp2
      go_ret
      rw [HN.out]
      exact ⟨rfl, HBW.out⟩
    case pos =>
      have h60I : ¬ (60 : Int) < (es.length : Int) := by omega
      by_cases h12 : xi.length ≤ 12
      case neg =>
        have h12I : (12 : Int) < (xi.length : Int) := by omega
        have HN := Lib.hid (show validB n es xi xo = false by rw [HV.out]; simp [h12])
        go_wp2
        go_ret
        rw [HN.out]
        exact ⟨rfl, HBW.out⟩
      case pos =>
        have h12I : ¬ (12 : Int) < (xi.length : Int) := by omega
        by_cases h13 : xo.length ≤ 12
        case neg =>
          have h13I : (12 : Int) < (xo.length : Int) := by omega
          have HN := Lib.hid (show validB n es xi xo = false by rw [HV.out]; simp [h13])
          go_wp2
          go_ret
          rw [HN.out]
          exact ⟨rfl, HBW.out⟩
        case pos =>
          have h13I : ¬ (12 : Int) < (xo.length : Int) := by omega
          have hwn : IntKind.i64.wrap (n - 1) = n - 1 := Go.IntWalk.i64_in _ ⟨by omega, by omega⟩
          go_wp2_with fail
          refine (l1All_any _ B _ xi 0 (n - 1) HI.out (by omega)).mono ?_
          rintro x w' ⟨rfl, rfl⟩
          cases hb2 : xi.all (between 0 (n - 1)) with
          | false =>
            have HN := Lib.hid (show validB n es xi xo = false by rw [HV.out]; unfold allL; simp [hb2])
            clear hb2
            go_wp2
            go_ret
            rw [HN.out]
            exact ⟨rfl, HBW.out⟩
          | true =>
            have H2 := Lib.hid hb2
            clear hb2
            go_wp2_with fail
            refine (l1All_any _ B _ xo 0 (n - 1) HO.out (by omega)).mono ?_
            rintro x w' ⟨rfl, rfl⟩
            cases hb3 : xo.all (between 0 (n - 1)) with
            | false =>
              have HN := Lib.hid (show validB n es xi xo = false by rw [HV.out]; unfold allL; simp [hb3])
              clear hb3
              go_wp2
              go_ret
              rw [HN.out]
              exact ⟨rfl, HBW.out⟩
            | true =>
              have H3 := Lib.hid hb3
              clear hb3
              go_wp2
              clear hx0 hx1 hx2 hx3 hxl
              go_loopw [51, 4] (fun ti _ wr => ∃ k : Nat, k ≤ es.length ∧ ti = .int .i64 k ∧ Hid (Below W.heap.size W wr) ∧ Hid ((es.take k).all (edB n) = true)) (fun ti _ _ => es.length - (intOf ti).toNat)
              case atStart => exact ⟨0, Nat.zero_le _, rfl, Lib.hid (Below.refl _ _), Lib.hid (by simp)⟩
              case round =>
                obtain ⟨k, hk, rfl, HB1, HT1⟩ := hrel
                by_cases hlt : k < es.length
                · obtain ⟨b1, o1, A1, c1, A2, c2, e1, hb1, hg0, hg1, hg2, hg3, hr1, hr2⟩ := (HE.out.below HB1.out hB0).at hlt
                  subst e1
                  obtain ⟨hle1, hle2⟩ := HLR.out k hlt
                  have HFALSE := Lib.hid (fun h => edges_false (n := n) hlt h)
                  have HTRUE := Lib.hid (fun h => edges_take (n := n) hlt HT1.out h)
                  have HXr := Lib.hid (HX.out.below HB1.out hW)
                  generalize es.getD k ed0 = ej at hg0 hg1 hg2 hg3 hr1 hr2 hle1 hle2 HFALSE HTRUE
                  have HA : Hid (Below W.heap.size W (wr.alloc (.cells #[.int .i64 ej.k, .int .i64 ej.v, .slice A1 ej.i.length c1, .slice A2 ej.o.length c2] tEd))) := Lib.hid (HB1.out.trans ((Below.refl wr.heap.size wr).alloc (Nat.le_refl _) _ |>.mono HB1.out.size))
                  have HR1 := Lib.hid (hr1.below ((Below.refl wr.heap.size wr).alloc (Nat.le_refl _) (.cells #[.int .i64 ej.k, .int .i64 ej.v, .slice A1 ej.i.length c1, .slice A2 ej.o.length c2] tEd)) (Nat.le_trans hB0 HB1.out.size))
                  have HR2 := Lib.hid (hr2.below ((Below.refl wr.heap.size wr).alloc (Nat.le_refl _) (.cells #[.int .i64 ej.k, .int .i64 ej.v, .slice A1 ej.i.length c1, .slice A2 ej.o.length c2] tEd)) (Nat.le_trans hB0 HB1.out.size))
                  clear hr1 hr2
                  obtain ⟨hx0, hx1, hx2, hx3, hxl⟩ := HXr.out.four
                  go_wp2_with fail
                  refine (hgEdge_any _ B ej n A1 c1 A2 c2 HR1.out HR2.out (Nat.le_trans hB0 HA.out.size) hn0 (by omega) hle1 hle2).mono ?_
                  rintro x w2 ⟨rfl, b2⟩
                  have HB2 := Lib.hid (HA.out.trans (b2.mono HA.out.size))
                  clear b2 hx0 hx1 hx2 hx3 hg0 hg1 hg2 hg3
                  cases hb4 : edB n ej with
                  | false =>
                    have HN := Lib.hid (show validB n es xi xo = false by rw [HV.out, HFALSE.out hb4]; simp)
                    clear hb4
                    go_wp2
                    go_ret
                    rw [HN.out]
                    exact ⟨rfl, HBW.out.trans (HB2.out.mono HBW.out.size)⟩
                  | true =>
                    have HT2 := Lib.hid (HTRUE.out hb4)
                    clear hb4
                    go_wp2
                    go_roundw
                    case rel => exact ⟨k + 1, by omega, by go_num, HB2, HT2⟩
                    case measure => simp [intOf]; omega
                · have HAL := Lib.hid (show es.all (edB n) = true by have h := HT1.out; rwa [List.take_of_length_le (by omega : es.length ≤ k)] at h)
                  obtain ⟨N, rfl⟩ : ∃ N : Nat, n = (N : Int) := ⟨n.toNat, by omega⟩
                  have HXr := Lib.hid (HX.out.below HB1.out hW)
                  obtain ⟨hx0, hx1, hx2, hx3, hxl⟩ := HXr.out.four
                  go_wp2_with fail
                  refine (hgCounts_any wr B N es xi xo AE cE AI cI AO cO (HE.out.below HB1.out hB0) (HI.out.below HB1.out hB0) (HO.out.below HB1.out hB0) (Nat.le_trans hB0 HB1.out.size) (by omega) H2.out H3.out (fun k hk => by
                    have h := edB_parts (edges_at HAL.out hk)
                    have hb := kindW_bd (es.getD k ed0).k
                    exact ⟨h.2.2.2.2.2.1, h.2.2.2.2.2.2, by have := h.2.2.2.1; omega, by have := h.2.2.2.2.1; omega⟩) (by omega) (by omega) (by omega)).mono ?_
                  rintro x w2 ⟨u, v, rfl, b2, ou, ov⟩
                  have H2' := Lib.hid (show allL xi 0 ((N : Int) - 1) = true from H2.out)
                  have H3' := Lib.hid (show allL xo 0 ((N : Int) - 1) = true from H3.out)
                  have HFL := Lib.hid (show (fromL es xi).length ≤ 1000000 from by
                    have h := edge_len (f := Ed.o) (es := es) fun e h => by
                      obtain ⟨i, hi, rfl⟩ := mem_getD ed0 h
                      have h1 := edB_parts (edges_at HAL.out hi)
                      have h2 := kindW_bd (es.getD i ed0).k
                      have := h1.2.2.2.2.1
                      omega
                    unfold fromL
                    rw [List.length_append]
                    omega)
                  have HTL := Lib.hid (show (toL es xo).length ≤ 1000000 from by
                    have h := edge_len (f := Ed.i) (es := es) fun e h => by
                      obtain ⟨i, hi, rfl⟩ := mem_getD ed0 h
                      have h1 := edB_parts (edges_at HAL.out hi)
                      have h2 := kindW_bd (es.getD i ed0).k
                      have := h1.2.2.2.1
                      omega
                    unfold toL
                    rw [List.length_append]
                    omega)
                  have HB2 := Lib.hid (HB1.out.trans (b2.mono HB1.out.size))
                  have HU := Lib.hid ou.readB
                  have HW2 := Lib.hid ov.readB
                  obtain ⟨Au, cu, rfl⟩ := OwR.len ou
                  obtain ⟨Av, cv', rfl⟩ := OwR.len ov
                  clear b2 ou ov hx0 hx1 hx2 hx3 hxl
                  rw [cntRow_len] at HU HW2
                  rw [cntRow_len, cntRow_len]
                  go_wp2
                  go_loopw [68, 7] (fun ti _ wr => ∃ k : Nat, k ≤ N ∧ ti = .int .i64 k ∧ Hid (Below w2.heap.size w2 wr) ∧ Hid (∀ i, i < k → 0 < (fromL es xi).count (i : Int) + (toL es xo).count (i : Int))) (fun ti _ _ => N - (intOf ti).toNat)
                  case atStart => exact ⟨0, Nat.zero_le _, rfl, Lib.hid (Below.refl _ _), Lib.hid (fun i hi => absurd hi (Nat.not_lt_zero i))⟩
                  case round =>
                    obtain ⟨k, hk, rfl, HB3, HP⟩ := hrel
                    by_cases hlt : k < N
                    · obtain ⟨b3, o3, e3, hb3, hc3⟩ := RdS.at (HU.out.below HB3.out (Nat.le_refl _)) (k := k) (by rw [cntRow_len]; exact hlt)
                      obtain ⟨b4, o4, e4, hb4, hc4⟩ := RdS.at (HW2.out.below HB3.out (Nat.le_refl _)) (k := k) (by rw [cntRow_len]; exact hlt)
                      subst e3 e4
                      rw [cntRow_at _ hlt] at hc3 hc4
                      have HC1 := Lib.hid (fun h => use_false (es := es) (xi := xi) (xo := xo) hlt h)
                      have HC2 := Lib.hid (show ∀ h : 0 < (fromL es xi).count (k : Int) + (toL es xo).count (k : Int), ∀ i, i < k + 1 → 0 < (fromL es xi).count (i : Int) + (toL es xo).count (i : Int) from fun h i hi => by
                        by_cases c : i = k
                        · rw [c]; exact h
                        · exact HP.out i (by omega))
                      have hq1 : (fromL es xi).count (k : Int) ≤ 3000000 := by
                        have h1 := List.count_le_length (a := (k : Int)) (l := fromL es xi)
                        have h2 := HFL.out
                        omega
                      have hq2 : (toL es xo).count (k : Int) ≤ 3000000 := by
                        have h1 := List.count_le_length (a := (k : Int)) (l := toL es xo)
                        have h2 := HTL.out
                        omega
                      generalize (fromL es xi).count (k : Int) = y1 at hc3 HC1 HC2 hq1
                      generalize (toL es xo).count (k : Int) = y2 at hc4 HC1 HC2 hq2
                      have hwy : IntKind.i64.wrap ((y1 : Int) + (y2 : Int)) = (y1 : Int) + (y2 : Int) := Go.IntWalk.i64_in _ ⟨by omega, by omega⟩
                      have hc3d : wr.drew.cell? ⟨b3, o3 + k, none⟩ = some (.int .i64 y1) := hc3
                      have hc4d : wr.drew.cell? ⟨b4, o4 + k, none⟩ = some (.int .i64 y2) := hc4
                      by_cases hz : y1 + y2 = 0
                      · have HN := Lib.hid (show validB N es xi xo = false by rw [HV.out, show ((N : Int)).toNat = N by omega, HC1.out hz]; simp)
                        have hzb : ((y1 : Int) + (y2 : Int) == 0) = true := by simp; omega
                        have hzI : (y1 : Int) + (y2 : Int) = 0 := by omega
                        go_wp2
                        go_region
                        all_goals (try go_wp2)
                        all_goals go_ret
                        all_goals rw [HN.out]
                        all_goals exact ⟨rfl, HBW.out.trans ((HB2.out.trans (HB3.out.drew.mono HB2.out.size)).mono HBW.out.size)⟩
                      · have hzb : ((y1 : Int) + (y2 : Int) == 0) = false := by simp; omega
                        have hzI : ¬ (y1 : Int) + (y2 : Int) = 0 := by omega
                        have HC3 := Lib.hid (HC2.out (by omega))
                        go_wp2
                        go_region
                        all_goals (try go_wp2)
                        all_goals go_roundw
                        all_goals first
                          | exact ⟨k + 1, by omega, by go_num, Lib.hid HB3.out.drew, HC3⟩
                          | (simp [intOf]; omega)
                    · have HUS := Lib.hid (use_true (n := N) (es := es) (xi := xi) (xo := xo) (fun i hi => HP.out i (by omega)))
                      have HN := Lib.hid (show validB N es xi xo = true by rw [HV.out, show ((N : Int)).toNat = N by omega, HUS.out, H2'.out, H3'.out, HAL.out]; simp; omega)
                      go_wp2
                      go_ret
                      rw [HN.out]
                      exact ⟨rfl, HBW.out.trans ((HB2.out.trans (HB3.out.mono HB2.out.size)).mono HBW.out.size)⟩
end Go.Proofs.Ytdcgoeapgboclaa
