/- Transposed matrices: both sides. -/
import Derived.Test.YtahlicbjbbpihaaDoorMxMake
import Derived.Test.YtahlicbjbbpihaaDoorMxGood
namespace Go.Proofs.YtahlicbjbbpihaaDoor
set_option maxRecDepth 100000
open Go Go.RowKit Go.Deep

/-- The transposed rows, in which the first k rows are done, and of row k the first j elements. -/
def turnS (rows : List (List Int)) (c k j : Nat) : List (List Int) := (List.range c).map fun a => (List.range rows.length).map fun b => if b < k ∨ (b = k ∧ a < j) then (rows.getD b []).getD a 0 else 0
def turn (rows : List (List Int)) (c : Nat) : List (List Int) := (List.range c).map fun a => (List.range rows.length).map fun b => (rows.getD b []).getD a 0
theorem range_map_getD {α : Type} (n : Nat) (f : Nat → α) (i : Nat) (h : i < n) (d : α) : ((List.range n).map f).getD i d = f i := by
  rw [List.getD_eq_getElem?_getD]
  simp [h]
theorem turnS_len (rows : List (List Int)) (c k j : Nat) : (turnS rows c k j).length = c := by simp [turnS]
theorem turnS_row {rows : List (List Int)} {c k j a : Nat} (h : a < c) : (turnS rows c k j).getD a [] = (List.range rows.length).map fun b => if b < k ∨ (b = k ∧ a < j) then (rows.getD b []).getD a 0 else 0 := by
  unfold turnS
  rw [range_map_getD _ _ _ h]
theorem turnS_start (rows : List (List Int)) (c : Nat) : turnS rows c 0 0 = List.replicate c (List.replicate rows.length 0) := by
  refine ext_getD [] (by simp [turnS_len]) fun a ha => ?_
  rw [turnS_len] at ha
  rw [turnS_row ha, repl_getD' _ _ _ _ ha]
  refine ext_getD 0 (by simp) fun b hb => ?_
  simp only [List.length_map, List.length_range] at hb
  rw [range_map_getD _ _ _ hb, repl_getD, if_neg (by omega)]
theorem turnS_end {rows : List (List Int)} {c n : Nat} (h : rows.length ≤ n) : turnS rows c n 0 = turn rows c := by
  unfold turnS turn
  refine List.map_congr_left fun a _ => List.map_congr_left fun b hb => ?_
  rw [if_pos (Or.inl (by have := List.mem_range.1 hb; omega))]
theorem turnS_next {rows : List (List Int)} {c k j : Nat} (h : c ≤ j) : turnS rows c k j = turnS rows c (k + 1) 0 := by
  unfold turnS
  refine List.map_congr_left fun a ha => List.map_congr_left fun b hb => ?_
  have := List.mem_range.1 ha
  by_cases h1 : b < k ∨ (b = k ∧ a < j)
  · rw [if_pos h1, if_pos (by omega)]
  · rw [if_neg h1, if_neg (by omega)]
theorem turnS_put {rows : List (List Int)} {c k j : Nat} (hk : k < rows.length) (hj : j < c) : (turnS rows c k j).set j (((turnS rows c k j).getD j []).set k ((rows.getD k []).getD j 0)) = turnS rows c k (j + 1) := by
  refine ext_getD [] (by simp [turnS_len]) fun a ha => ?_
  rw [List.length_set, turnS_len] at ha
  rw [set_getD _ _ _ _ _ (by rw [turnS_len]; exact hj), turnS_row hj]
  by_cases c1 : j = a
  · subst c1
    rw [if_pos rfl, turnS_row hj]
    refine ext_getD 0 (by simp) fun b hb => ?_
    simp only [List.length_set, List.length_map, List.length_range] at hb
    rw [set_getD _ _ _ _ _ (by simpa using hk), range_map_getD _ _ _ hb, range_map_getD _ _ _ hb]
    by_cases c2 : k = b
    · subst c2
      rw [if_pos rfl, if_pos (by omega)]
    · rw [if_neg c2]
      by_cases c3 : b < k
      · rw [if_pos (Or.inl c3), if_pos (Or.inl c3)]
      · rw [if_neg (by omega), if_neg (by omega)]
  · rw [if_neg c1, turnS_row ha, turnS_row ha]
    refine List.map_congr_left fun b _ => ?_
    by_cases c3 : b < k ∨ (b = k ∧ a < j)
    · rw [if_pos c3, if_pos (by omega)]
    · rw [if_neg c3, if_neg (by omega)]
theorem turn_len (rows : List (List Int)) (c : Nat) : (turn rows c).length = c := by simp [turn]
theorem turn_tot (rows : List (List Int)) (c : Nat) : tot (turn rows c) = c * rows.length := by
  have := tot_const (rows := turn rows c) (c := rows.length) (fun r hr => by
    unfold turn at hr
    obtain ⟨a, _, rfl⟩ := List.mem_map.1 hr
    simp)
  rwa [turn_len] at this
def turnC (p cols : Int) (rows : List (List Int)) : Int := if isMat p cols rows then rows.length else 0
def turnR (p cols : Int) (rows : List (List Int)) : List (List Int) := if isMat p cols rows then turn rows cols.toNat else []
/-- The box of a matrix that came in as an argument. -/
theorem boxM {w w1 : World} {c : Int} {u : Value} {B : Nat} (hb : Below B (w.alloc (.cells #[.int .i64 c, u] tM)) w1) (hB : w.heap.size < B) :
    w1.cell? ⟨w.heap.size, 0, none⟩ = some (.int .i64 c) ∧ w1.cell? ⟨w.heap.size, 1, none⟩ = some u ∧ w1.frozen? ⟨w.heap.size, 0, none⟩ = false ∧ w1.frozen? ⟨w.heap.size, 1, none⟩ = false ∧ w.heap.size < w1.heap.size :=
  ((cellsAt_new w #[.int .i64 c, u] tM).below hb hB).two
set_option maxHeartbeats 800000 in
theorem transposeOf_any (w : World) (B : Nat) (v : Value) (c : Nat) (rows : List (List Int)) (hv : RdG w B v rows) (hB : B ≤ w.heap.size) (hn : rows.length ≤ 1000000) (hc : c ≤ 1000000) (hrl : ∀ r, r < rows.length → (rows.getD r []).length = c) :
    Calls Tryd.prog 89 #[.agg #[.int .i64 c, v]] w (MadeM w rows.length (turn rows c)) := by
  obtain ⟨A, cp, rfl⟩ := hv.len
  have HV := Lib.hid hv
  have HB := Lib.hid hB
  have HRL := Lib.hid hrl
  clear hv hB hrl
  go_enter Tryd.func89, Tryd.ntmps89
  go_wp2_with fail
  refine (zeroRows_any _ c rows.length (by omega) (by omega)).mono ?_
  rintro e w2 h
  obtain ⟨A2, c2, rfl, hb, ho⟩ := h.at
  clear h
  rw [List.length_replicate] at ho ⊢
  have HX := Lib.hid (((cellsAt_new w #[.int .i64 (c : Int), .slice A rows.length cp] tM).alloc (.cells #[.int .i64 0, .slice none 0 0] tM)).below hb (by simp <;> omega))
  have HRB := Lib.hid ((cellsAt_new' (w.alloc (.cells #[.int .i64 (c : Int), .slice A rows.length cp] tM)) #[.int .i64 0, .slice none 0 0] tM [.int .i64 0, .slice none 0 0] (w.heap.size + 1) (by simp) rfl).below hb (by simp <;> omega))
  have HB2 := Lib.hid (Below.trans (show Below w.heap.size w ((w.alloc (.cells #[.int .i64 (c : Int), .slice A rows.length cp] tM)).alloc (.cells #[.int .i64 0, .slice none 0 0] tM)) by repeat' (first | exact Below.refl _ _ | apply Below.drew | apply Below.setCell | apply Below.alloc | (simp; done) | (simp; omega))) (hb.mono (by simp; omega)))
  have hs12 : w.heap.size + 2 ≤ w2.heap.size := by have := HRB.out.lt; omega
  have HO := Lib.hid (show OwG w2 tI tR (fun b => w.heap.size + 2 ≤ b) (.slice A2 c c2) (turnS rows c 0 0) by rw [turnS_start]; refine OwG.mono (S := fun b => ((w.alloc (.cells #[.int .i64 (c : Int), .slice A rows.length cp] tM)).alloc (.cells #[.int .i64 0, .slice none 0 0] tM)).heap.size ≤ b) ?_ (fun k hk _ => by simp at hk; omega); simpa using ho)
  clear hb ho
  obtain ⟨hx0, hx1, hxf0, hxf1, hxs⟩ := HX.out.two
  obtain ⟨hr0, hr1, hrf0, hrf1, hrs⟩ := HRB.out.two
  go_wp2
  clear hx0 hx1 hxf0 hxf1 hxs hr0 hr1 hrf0 hrf1 hrs
  go_loopw [17, 4, 5, 6, 7, 22, 23, 24] (fun i _ _ _ _ _ _ _ wr => ∃ k : Nat, k ≤ rows.length ∧ i = .int .i64 k ∧ Hid (Below w.heap.size w wr) ∧ Hid ((w.heap.size + 2) ≤ wr.heap.size) ∧ Hid (CellsAt wr w.heap.size tM [.int .i64 c, .slice A rows.length cp]) ∧ Hid (CellsAt wr (w.heap.size + 1) tM [.int .i64 0, .slice none 0 0]) ∧ Hid (OwG wr tI tR (fun b => (w.heap.size + 2) ≤ b) (.slice A2 c c2) (turnS rows c k 0))) (fun i _ _ _ _ _ _ _ _ => rows.length - (intOf i).toNat)
  case atStart => exact ⟨0, Nat.zero_le _, rfl, HB2, Lib.hid hs12, HX, HRB, HO⟩
  case round =>
    obtain ⟨k, hk, rfl, HB3, HS3, HX3, HR3, HO3⟩ := hrel
    by_cases hlt : k < rows.length
    · obtain ⟨b, o, A3, c3, rfl, hbB, hc1, hrd⟩ := (HV.out.below HB3.out HB.out).at hlt
      rw [HRL.out k hlt] at hc1 hrd
      have HRD := Lib.hid hrd
      clear hrd hbB
      go_wp2
      go_loopw [24, 6, 7] (fun i _ _ wr2 => ∃ j : Nat, j ≤ c ∧ i = .int .i64 j ∧ Hid (Below w.heap.size w wr2) ∧ Hid ((w.heap.size + 2) ≤ wr2.heap.size) ∧ Hid (CellsAt wr2 w.heap.size tM [.int .i64 c, .slice (some ⟨b, o, none⟩) rows.length cp]) ∧ Hid (CellsAt wr2 (w.heap.size + 1) tM [.int .i64 0, .slice none 0 0]) ∧ Hid (OwG wr2 tI tR (fun b => (w.heap.size + 2) ≤ b) (.slice A2 c c2) (turnS rows c k j)) ∧ Hid (RdS wr2 (fun b => b < B) (.slice A3 c c3) (rows.getD k []))) (fun i _ _ _ => c - (intOf i).toNat)
      case atStart => exact ⟨0, Nat.zero_le _, rfl, HB3, HS3, HX3, HR3, HO3, HRD⟩
      case round =>
        obtain ⟨j, hj, rfl, HB4, HS4, HX4, HR4, HO4, HRD4⟩ := hrel
        by_cases hlt2 : j < c
        · obtain ⟨b5, o5, rfl, hb5, hc5⟩ := HRD4.out.at (k := j) (by rw [HRL.out k hlt]; exact hlt2)
          obtain ⟨g, c1, bb, c6, e, hg, hgl, hc6, hbS, hbl, -, hc7, hf7, hset⟩ := HO4.out.at (r := j) (j := k) (by rw [turnS_len]; exact hlt2) (by rw [turnS_row hlt2]; simpa using hlt)
          obtain ⟨rfl, -, rfl⟩ := sliceEq e
          have HGL := Lib.hid (show ((turnS rows c k j).getD j []).length = rows.length by rw [turnS_row hlt2]; simp)
          rw [HGL.out] at hc6
          generalize hz : (rows.getD k []).getD j 0 = z at hc5
          generalize ((turnS rows c k j).getD j []).getD k 0 = z2 at hc7
          have HZ := Lib.hid hz
          have HSET := Lib.hid (hset z)
          have HBS := Lib.hid hbS
          have HB5 := Lib.hid hb5
          clear hset e hg hbS hz hb5
          go_wp2
          go_roundw
          case rel => exact ⟨j + 1, by omega, by go_num, Lib.hid (HB4.out.setCell (show w.heap.size ≤ bb by have := HBS.out; omega) _), Lib.hid (by rw [nblk_setCell]; exact HS4.out), Lib.hid (HX4.out.setOther (by have := HBS.out; simp; omega) _), Lib.hid (HR4.out.setOther (by have := HBS.out; simp; omega) _), Lib.hid (by
            rw [← turnS_put hlt hlt2, HZ.out]
            exact HSET.out), Lib.hid (HRD4.out.blocks (fun q hq => blk_setCell_other _ _ _ _ (by have := HBS.out; have := HB.out; simp; omega)))⟩
          case measure => simp [intOf]; omega
        · go_wp2
          go_roundw
          case rel => exact ⟨k + 1, by omega, by go_num, HB4, HS4, HX4, HR4, Lib.hid (by rw [← turnS_next (show c ≤ j by omega)]; exact HO4.out)⟩
          case measure => simp [intOf]; omega
    · obtain ⟨hx0, hx1, hxf0, hxf1, hxs⟩ := HX3.out.two
      obtain ⟨hr0, hr1, hrf0, hrf1, hrs⟩ := HR3.out.two
      go_wp2
      refine bodyPost_ret (v := .agg #[.int .i64 rows.length, .slice A2 c c2]) (by simp [results, Tryd.results89, go_sem, hr0, hr1]) rfl ?_
      refine ⟨_, rfl, (by refine Below.trans HB3.out ?_; repeat' (first | exact Below.refl _ _ | apply Below.drew | apply Below.setCell | apply Below.alloc | (simp; done) | (simp; omega))), ?_⟩
      have := HO3.out
      rw [turnS_end (show rows.length ≤ k by omega)] at this
      refine (this.blocks (fun q h _ => ?_)).mono (fun q h _ => by omega)
      rw [blk_setCell_other _ _ _ _ (by simp; omega), blk_setCell_other _ _ _ _ (by simp; omega)]

end Go.Proofs.YtahlicbjbbpihaaDoor
