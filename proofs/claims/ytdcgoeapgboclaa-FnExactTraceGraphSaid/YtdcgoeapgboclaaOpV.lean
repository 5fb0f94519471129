/- The program's check of an open graph. -/
import Derived.Test.YtdcgoeapgboclaaGrP
import Derived.Test.YtdcgoeapgboclaaQui
import Derived.Deep.RegionHeld3
namespace Go.Proofs.Ytdcgoeapgboclaa
set_option maxRecDepth 100000
open Go Go.RowKit Go.Deep

def inIx (n : Int) (xs : List Int) : Bool := xs.all fun i => decide (0 ≤ i ∧ i < n)
theorem inIx_drop {n : Int} {xs : List Int} {k : Nat} (h : k < xs.length) : inIx n (xs.drop k) = (decide (0 ≤ xs.getD k 0 ∧ xs.getD k 0 < n) && inIx n (xs.drop (k + 1))) := by
  unfold inIx
  rw [List.drop_eq_getElem_cons h, List.all_cons, List.getD_eq_getElem?_getD, List.getElem?_eq_getElem h]
  rfl
theorem inIx_memX {n : Int} {xs : List Int} (h : inIx n xs = true) : ∀ i, i ∈ xs → 0 ≤ i ∧ i < n := fun i hi => by
  unfold inIx at h
  simpa using List.all_eq_true.1 h i hi
theorem inIx_betweenX (n : Int) (xs : List Int) : xs.all (between 0 (n - 1)) = inIx n xs := by
  unfold inIx
  congr 1
  funext i
  unfold between
  by_cases h1 : 0 ≤ i <;> by_cases h2 : i < n <;> simp [h1, h2] <;> omega
set_option maxHeartbeats 800000 in
theorem areIx_any (w : World) (B : Nat) (v : Value) (n : Int) (xs : List Int) (hv : RdS w (fun b => b < B) v xs) (hl : xs.length ≤ 9223372036854775807) :
    Calls Try.prog 86 #[.int .i64 n, v] w fun e w' => e = .returned (.bool (inIx n xs)) ∧ w = w' := by
  obtain ⟨A, c, rfl, kc_c, hv'⟩ := hv
  have HV := Lib.hid (show RdS w (fun b => b < B) (.slice A xs.length c) xs from ⟨A, c, rfl, kc_c, hv'⟩)
  clear hv'
  go_enter Try.func86, Try.ntmps86
  go_wp2
  go_loopw [9, 6] (fun i _ wr => ∃ k : Nat, k ≤ xs.length ∧ i = .int .i64 k ∧ wr = w ∧ Hid (inIx n xs = inIx n (xs.drop k))) (fun i _ _ => xs.length - (intOf i).toNat)
  case atStart => exact ⟨0, Nat.zero_le _, rfl, rfl, Lib.hid rfl⟩
  case round =>
    obtain ⟨k, hk, rfl, rfl, HE⟩ := hrel
    by_cases hlt : k < xs.length
    · obtain ⟨b1, o1, rfl, hb1, hc1⟩ := HV.out.at hlt
      have HN := Lib.hid (inIx_drop (n := n) hlt)
      have hkI : (k : Int) < (xs.length : Int) := by omega
      clear hb1
      generalize xs.getD k 0 = y at hc1 HN
      by_cases h0 : y < 0
      · have HF := Lib.hid (show inIx n xs = false by rw [HE.out, HN.out]; simp; omega)
        go_wp2
        go_ret
        rw [HF.out]
        exact ⟨rfl, rfl⟩
      · by_cases h1 : n ≤ y
        · have HF := Lib.hid (show inIx n xs = false by rw [HE.out, HN.out]; simp; omega)
          go_wp2
          go_ret
          rw [HF.out]
          exact ⟨rfl, rfl⟩
        · have HY := Lib.hid (show inIx n xs = inIx n (xs.drop (k + 1)) by rw [HE.out, HN.out, show decide (0 ≤ y ∧ y < n) = true by simp; omega]; rfl)
          go_wp2
          go_roundw
          case rel => exact ⟨k + 1, by omega, by go_num, trivial, HY⟩
          case measure => simp [intOf]; omega
    · have HF := Lib.hid (show inIx n xs = true by rw [HE.out, List.drop_of_length_le (by omega)]; rfl)
      go_wp2
      go_ret
      rw [HF.out]
      exact ⟨rfl, rfl⟩
theorem valid_not {n : Int} {es : List Ed} {xi xo : List Int} (h : ¬ ((0 ≤ n ∧ n ≤ 100 ∧ es.length ≤ 60 ∧ xi.length ≤ 12 ∧ xo.length ≤ 12) ∧ (es.any fun e => !edP e) = false ∧ (∀ x, x ∈ occL es xi xo → 0 ≤ x ∧ x < n) ∧ ∀ k, 0 ≤ k → k < n → k ∈ occL es xi xo)) : validB n es xi xo = false := by
  cases hv : validB n es xi xo with
  | false => rfl
  | true => exact absurd (valid_iff.1 hv) h
set_option maxRecDepth 100000 in
set_option maxHeartbeats 6400000 in
theorem ogValid_any (w : World) (B : Nat) (ui uo ue : Value) (n : Int) (es : List Ed) (xi xo : List Int) (hi : RdS w (fun q => q < B) ui xi) (ho : RdS w (fun q => q < B) uo xo) (he : RdO w B ue es) (hB : B ≤ w.heap.size)
    (l1 : es.length ≤ 9223372036854775807) (l2 : xi.length ≤ 9223372036854775807) (l3 : xo.length ≤ 9223372036854775807) :
    Calls Try.prog 62 #[ogV ui uo n ue] w (SaysB w (validB n es xi xo)) := by
  obtain ⟨A1, c1, rfl⟩ : ∃ A c, ui = .slice A xi.length c := by obtain ⟨A, c, e, _⟩ := hi; exact ⟨A, c, e⟩
  obtain ⟨A2, c2, rfl⟩ : ∃ A c, uo = .slice A xo.length c := by obtain ⟨A, c, e, _⟩ := ho; exact ⟨A, c, e⟩
  obtain ⟨AE, cE, rfl⟩ := he.len
  have HI := Lib.hid hi
  have HO := Lib.hid ho
  have HE := Lib.hid he
  have HBB := Lib.hid hB
  clear hi ho he
  by_cases q1 : 0 ≤ n
  · by_cases q2 : n ≤ 100
    · by_cases q3 : es.length ≤ 60
      · by_cases q4 : xi.length ≤ 12 ∧ xo.length ≤ 12
        · obtain ⟨q5, q6⟩ := q4
          have q7 : ¬ 12 < max (xi.length : Int) (xo.length : Int) := by omega
          have q8 : max (xi.length : Int) (xo.length : Int) ≤ 12 := by omega
          cases hbad : (es.any fun e => !edP e) with
          | true =>
            have HV := Lib.hid (valid_not (n := n) (es := es) (xi := xi) (xo := xo) fun h => by rw [hbad] at h; exact absurd h.2.1 (by decide))
            have HA := Lib.hid (anyBad_any (w.alloc (.cells #[.slice A1 xi.length c1, .slice A2 xo.length c2, .int .i64 n, .slice AE es.length cE] 53)) B (.slice AE es.length cE) es (HE.out.below ((Below.refl _ _).alloc (Nat.le_refl _) _) HBB.out) (by have := HBB.out; simp; omega) (by omega))
            rw [hbad] at HA
            rw [HV.out]
            clear hbad
            unfold ogV
            go_enter Try.func62, Try.ntmps62
            go_wp2_with fail
            refine HA.out.mono ?_
            rintro e w2 ⟨rfl, b2⟩
            have HB2 := Lib.hid (((Below.refl w.heap.size w).alloc (Nat.le_refl _) _).trans (b2.mono (by simp)))
            clear b2
            go_wp2
            go_ret
            exact ⟨rfl, HB2.out⟩
          | false =>
            have HA := Lib.hid (anyBad_any (w.alloc (.cells #[.slice A1 xi.length c1, .slice A2 xo.length c2, .int .i64 n, .slice AE es.length cE] 53)) B (.slice AE es.length cE) es (HE.out.below ((Below.refl _ _).alloc (Nat.le_refl _) _) HBB.out) (by have := HBB.out; simp; omega) (by omega))
            rw [hbad] at HA
            have hol := occ_len hbad q3 q5 q6
            have HBAD := Lib.hid hbad
            clear hbad
            unfold ogV
            go_enter Try.func62, Try.ntmps62
            go_wp2_with fail
            refine HA.out.mono ?_
            rintro e w2 ⟨rfl, b2⟩
            have HB2 := Lib.hid (((Below.refl w.heap.size w).alloc (Nat.le_refl _) _).trans (b2.mono (by simp)))
            have HX2 := Lib.hid ((b2.block w.heap.size (by simp)).trans (blk_alloc_new w _))
            have hc0 := box_cell HX2.out 0
            have hc1 := box_cell HX2.out 1
            have hc2 := box_cell HX2.out 2
            have hc3 := box_cell HX2.out 3
            clear b2
            simp at hc0 hc1 hc2 hc3
            have HOC := Lib.hid (occ_any w2 B (.slice A1 xi.length c1) (.slice A2 xo.length c2) (.slice AE es.length cE) n es xi xo (HI.out.below HB2.out HBB.out) (HO.out.below HB2.out HBB.out) (HE.out.below HB2.out HBB.out) (Nat.le_trans HBB.out HB2.out.size) (by omega) (by omega))
            unfold ogV at HOC
            go_wp2_with fail
            refine HOC.out.mono ?_
            rintro e w3 ⟨v, rfl, b3, o3⟩
            have HB3 := Lib.hid (HB2.out.trans (b3.mono HB2.out.size))
            have HX3 := Lib.hid (box_kept HX2.out b3)
            obtain ⟨A3, c3, rfl⟩ := o3.len
            have HO3 := Lib.hid o3
            clear b3 o3 hc0 hc1 hc2 hc3 HOC
            have HGS := Lib.hid (show w2.heap.size > w.heap.size from by have := HB2.out.size; have := (Array.getElem?_eq_some_iff.1 HX2.out).1; omega)
            go_wp2_with fail
            refine (sortR_any _ _ _ _ HO3.out (by omega)).mono ?_
            rintro e w4 ⟨rfl, t4, o4⟩
            have hl3 := (Array.getElem?_eq_some_iff.1 HX3.out).1
            have HNB := Lib.hid (show ¬ (occL es xi xo ≠ [] ∧ w.heap.size = blkOf (.slice A3 (occL es xi xo).length c3)) from fun h => by have := HO3.out.blk h.1; rw [← h.2] at this; have := HGS.out; omega)
            have HX4 := Lib.hid ((t4.block w.heap.size hl3 HNB.out).trans HX3.out)
            have HB4 := Lib.hid (HB3.out.trans (t4.below HB3.out.size (fun k hk => by have := HO3.out.blk hk.1; rw [← hk.2] at this; have := HGS.out; omega)))
            have HO4 := Lib.hid o4
            clear t4 o4 HO3 HX3
            have hlen := hol
            generalize hoc : (occL es xi xo).length = m at HO4 hlen
            have HM := Lib.hid hoc
            clear hoc hol HNB
            cases hin : inIx n (srt (occL es xi xo)) with
            | false =>
              have HV := Lib.hid (valid_not (n := n) (es := es) (xi := xi) (xo := xo) fun h => by
                have : inIx n (srt (occL es xi xo)) = true := by
                  unfold inIx
                  rw [List.all_eq_true]
                  exact fun x hx => decide_eq_true (h.2.2.1 x (srt_mem.1 hx))
                rw [hin] at this
                cases this)
              have HAI := Lib.hid (fun w' (hb : Below w4.heap.size w4 w') => areIx_any w' w4.heap.size (.slice A3 m c3) n (srt (occL es xi xo)) (HO4.out.readB.below hb (Nat.le_refl _)) (by rw [srt_len, HM.out]; omega))
              rw [hin] at HAI
              clear hin
              go_wp2
              refine region_quiet (fun w' => Below w4.heap.size w4 w') (by kernel_rfl) (by kernel_rfl) (Below.refl _ _).drew ?_
              repeat
                (refine quiet_step (fun K hK => ?_)
                 go_simp
                 first
                   | (with_reducible refine hK _ ?_; clear hK K)
                   | (apply Exists.intro
                      with_reducible refine ⟨fun w' hw' => ?_, hK _ ?_⟩
                      (first
                        | with_reducible exact rfl
                        | with_reducible exact ⟨rfl, rfl⟩
                        | (go_at_call 86; refine (HAI.out w' hw').mono ?_; rintro e w2 ⟨rfl, rfl⟩; exact ⟨rfl, hw'⟩)
                        | (have hx := box_cell (box_kept HX4.out hw') 2; simp at hx; go_simp; first | done | with_reducible exact rfl | with_reducible exact ⟨rfl, rfl⟩))
                      clear hK K))
              refine quiet_nil ?_
              intro w5 HB5
              have HBE := Lib.hid (HB4.out.trans (HB5.mono HB4.out.size))
              clear HB5
              go_wp2
              go_ret
              exact ⟨by rw [HV.out]; rfl, HBE.out⟩
            | true =>
              have hall : ∀ x, x ∈ occL es xi xo → 0 ≤ x ∧ x < n := fun x hx => by
                unfold inIx at hin
                rw [List.all_eq_true] at hin
                exact of_decide_eq_true (hin x (srt_mem.2 hx))
              have HV := Lib.hid (show validB n es xi xo = decide ((((Lib.compact (srt (occL es xi xo))).length : Nat) : Int) = n) from by
                rw [Bool.eq_iff_iff, valid_iff, decide_eq_true_eq, compact_full q1 hall]
                exact ⟨fun h => h.2.2.2, fun h => ⟨⟨q1, q2, q3, q5, q6⟩, HBAD.out, hall, h⟩⟩)
              have HAI := Lib.hid (areIx_any w4.drew w4.heap.size (.slice A3 m c3) n (srt (occL es xi xo)) HO4.out.readB (by rw [srt_len, HM.out]; omega))
              have HCO := Lib.hid (fun (wd : World) (e : wd.heap = w4.heap) => compactR_any wd _ (.slice A3 m c3) (srt (occL es xi xo)) (HO4.out.blocks (w' := wd) (fun k _ _ _ _ => by rw [e])) (by rw [srt_len, HM.out]; omega))
              have HNC := Lib.hid (show ¬ (srt (occL es xi xo) ≠ [] ∧ w.heap.size = blkOf (.slice A3 m c3)) from fun h => by have := HO4.out.blk h.1; rw [← h.2] at this; have := HGS.out; omega)
              have HNL := Lib.hid (show ∀ k, srt (occL es xi xo) ≠ [] ∧ k = blkOf (.slice A3 m c3) → w.heap.size ≤ k from fun k h => by have := HO4.out.blk h.1; rw [← h.2] at this; have := HGS.out; omega)
              rw [hin] at HAI
              clear hin hall
              generalize (Lib.compact (srt (occL es xi xo))).length = mc at HCO HV ⊢
              generalize srt (occL es xi xo) = so at *
              by_cases hf : (mc : Int) = n
              all_goals
                have hx0 : w4.cell? ⟨w.heap.size, 2, none⟩ = some (.int .i64 n) := by have := box_cell HX4.out 2; simpa using this
                have HD0 := Lib.hid (show w4.drew.cell? ⟨w.heap.size, 2, none⟩ = some (.int .i64 n) from hx0)
                clear hx0
                have HCP : Hid (Calls Try.prog 77 #[.slice A3 m c3] w4.drew fun e w6 => ∃ A c, e = .returned (.slice A mc c) ∧ Hid (w6.cell? ⟨w.heap.size, 2, none⟩ = some (.int .i64 n)) ∧ Hid (Below w.heap.size w w6)) := Lib.hid ((HCO.out w4.drew rfl).mono (by
                  rintro e w6 ⟨A6, c6, rfl, t6, -, -⟩
                  refine ⟨A6, c6, rfl, Lib.hid ?_, Lib.hid ?_⟩
                  · exact (World.cell?_of_block (w := w4.drew) (t6.block w.heap.size (Array.getElem?_eq_some_iff.1 HX4.out).1 HNC.out)).trans HD0.out
                  · exact HB4.out.trans (Below.trans (Below.refl _ _).drew (t6.below HB4.out.size HNL.out))))
                go_wp2
                go_region_held3 (fun w' => w'.cell? ⟨w.heap.size, 2, none⟩ = some (.int .i64 n))
                  (first | with_reducible exact HD0.out | with_reducible exact HD1.out | fail)
                  (first
                    | (go_at_call 86; go_split_ands; refine HAI.out.mono ?_; rintro e w5 ⟨rfl, rfl⟩)
                    | (go_at_call 77; go_split_ands; refine HCP.out.mono ?_; rintro e w6 ⟨A6, c6, rfl, HD1, HB6⟩)
                    | fail)
                go_wp2
                go_ret
                have hvv := HV.out
                exact ⟨by simp [hvv, hf], HB6.out⟩
        · have HV := Lib.hid (valid_not (n := n) (es := es) (xi := xi) (xo := xo) fun h => q4 h.1.2.2.2)
          rw [HV.out]
          have q5 : 12 < max (xi.length : Int) (xo.length : Int) := by omega
          unfold ogV
          go_enter Try.func62, Try.ntmps62
          go_wp2
          go_ret
          exact ⟨rfl, (Below.refl _ _).alloc (Nat.le_refl _) _⟩
      · have HV := Lib.hid (valid_not (n := n) (es := es) (xi := xi) (xo := xo) fun h => q3 h.1.2.2.1)
        rw [HV.out]
        unfold ogV
        go_enter Try.func62, Try.ntmps62
        go_wp2
        go_ret
        exact ⟨rfl, (Below.refl _ _).alloc (Nat.le_refl _) _⟩
    · have HV := Lib.hid (valid_not (n := n) (es := es) (xi := xi) (xo := xo) fun h => q2 h.1.2.1)
      rw [HV.out]
      unfold ogV
      go_enter Try.func62, Try.ntmps62
      go_wp2
      go_ret
      exact ⟨rfl, (Below.refl _ _).alloc (Nat.le_refl _) _⟩
  · have HV := Lib.hid (valid_not (n := n) (es := es) (xi := xi) (xo := xo) fun h => q1 h.1.1)
    rw [HV.out]
    unfold ogV
    go_enter Try.func62, Try.ntmps62
    go_wp2
    go_ret
    exact ⟨rfl, (Below.refl _ _).alloc (Nat.le_refl _) _⟩
end Go.Proofs.Ytdcgoeapgboclaa
