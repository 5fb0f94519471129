/- mapRows: what a function makes of each row; the function by its contract. -/
import Derived.Test.YtdjgkcnhmfkjoaaDoorJoin
namespace Go.Proofs.YtdjgkcnhmfkjoaaDoor
set_option maxRecDepth 100000
open Go Go.RowKit Go.Deep

theorem rdS_len {w : World} {S : Nat → Prop} {v : Value} {xs : List Int} (h : RdS w S v xs) : ∃ A c, v = .slice A xs.length c := by
  obtain ⟨A, c, e, _⟩ := h
  exact ⟨A, c, e⟩
/-- A block of slices of one's own; the first k of them read as rows, in other blocks. -/
structure MapAt (w : World) (g : Nat) (vs : List Value) (rows : List (List Int)) (k : Nat) : Prop where
  outer : CellsAt w g tR vs
  len : vs.length = rows.length
  row : ∀ j, j < k → RdS w (fun b => b ≠ g ∧ b < w.heap.size) (vs.getD j .nilFunc) (rows.getD j [])
theorem MapAt.below {w w' : World} {g : Nat} {vs : List Value} {rows : List (List Int)} {k : Nat} (h : MapAt w g vs rows k) (hb : Below w.heap.size w w') : MapAt w' g vs rows k :=
  ⟨h.outer.below hb h.outer.lt, h.len, fun j hj => ((h.row j hj).blocks (w' := w') fun _ hq => hb.block _ hq.2).mono fun _ hq => ⟨hq.1, Nat.lt_of_lt_of_le hq.2 hb.size⟩⟩
theorem MapAt.put {w : World} {g : Nat} {vs : List Value} {rows : List (List Int)} {k : Nat} (h : MapAt w g vs rows k) (hk : k < rows.length) {u : Value} (hu : RdS w (fun b => b ≠ g ∧ b < w.heap.size) u (rows.getD k [])) :
    MapAt (w.setCell ⟨g, k, none⟩ u) g (vs.set k u) rows (k + 1) := by
  have hkv : k < vs.length := by rw [h.len]; exact hk
  have tr : ∀ {v : Value} {xs : List Int}, RdS w (fun b => b ≠ g ∧ b < w.heap.size) v xs → RdS (w.setCell ⟨g, k, none⟩ u) (fun b => b ≠ g ∧ b < (w.setCell ⟨g, k, none⟩ u).heap.size) v xs := fun hv =>
    (hv.blocks (w' := w.setCell ⟨g, k, none⟩ u) fun q hq => blk_setCell_other _ _ _ _ hq.1).mono fun q hq => ⟨hq.1, by rw [nblk_setCell]; exact hq.2⟩
  refine ⟨h.outer.set k u, by rw [List.length_set, h.len], fun j hj => ?_⟩
  rw [set_getD _ _ _ _ _ hkv]
  by_cases c : k = j
  · rw [if_pos c, ← c]
    exact tr hu
  · rw [if_neg c]
    exact tr (h.row j (by omega))
theorem MapAt.read {w : World} {g : Nat} {vs : List Value} {rows : List (List Int)} (h : MapAt w g vs rows rows.length) (c : Nat) (hc : rows.length ≤ c) : RdG w w.heap.size (.slice (some ⟨g, 0, none⟩) rows.length c) rows :=
  ⟨_, c, rfl, hc, fun r hr => ⟨g, 0, vs.getD r .nilFunc, rfl, h.outer.lt, by
    rw [Nat.zero_add, h.outer.cell (by rw [h.len]; exact hr)]
    exact getD_some (by rw [h.len]; exact hr) _, (h.row r hr).mono fun q hq => hq.2⟩⟩
/-- New rows that can be read. -/
def MapB (w : World) (rows : List (List Int)) (e : Ending) (w' : World) : Prop := ∃ v, e = .returned v ∧ Below w.heap.size w w' ∧ RdG w' w'.heap.size v rows
/-- A part of a row, or a new row, off the block g. -/
def PartB (w : World) (g : Nat) (xs : List Int) (e : Ending) (w' : World) : Prop := ∃ v, e = .returned v ∧ Below w.heap.size w w' ∧ RdS w' (fun b => b ≠ g ∧ b < w'.heap.size) v xs
set_option maxHeartbeats 1600000 in
theorem map_first (w : World) (B : Nat) (v : Value) (rows out : List (List Int)) (rl : Value) (hv : RdG w B v rows) (hB : B ≤ w.heap.size) (hn : rows.length ≤ 1000000) (hl : out.length = rows.length)
    (HF : ∀ (W : World) (j : Nat) (u : Value), Below w.heap.size w W → w.heap.size < W.heap.size → j < rows.length → RdS W (fun b => b < B) u (rows.getD j []) → Calls Tryd.prog 36 #[rl, u] W (PartB W w.heap.size (out.getD j []))) :
    Calls Tryd.prog 32 #[v, .func (.func 36) #[rl] #[]] w (MapB w out) := by
  obtain ⟨A, c, rfl⟩ := hv.len
  have hmk := make_rows rows.length (by omega)
  have HV := Lib.hid hv
  have HB := Lib.hid hB
  have HFF := Lib.hid HF
  have HL := Lib.hid hl
  clear hv hB HF hl
  go_enter Tryd.func32, Tryd.ntmps32
  go_wp2
  go_loopw [13, 6, 7] (fun i _ _ wr => ∃ (k : Nat) (vs : List Value), k ≤ rows.length ∧ i = .int .i64 k ∧ Hid (Below w.heap.size w wr) ∧ Hid (w.heap.size < wr.heap.size) ∧ Hid (MapAt wr w.heap.size vs out k)) (fun i _ _ _ => rows.length - (intOf i).toNat)
  case atStart => exact ⟨0, List.replicate rows.length (.slice none 0 0), Nat.zero_le _, rfl, Lib.hid ((Below.refl _ _).alloc (Nat.le_refl _) _), Lib.hid (by rw [nblk_alloc]; omega), Lib.hid ⟨by
      have := cellsAt_new w (madeCells #[.slice none 0 0] rows.length) tR
      rw [toList_madeCells_one] at this
      exact this, by rw [List.length_replicate, HL.out], fun j hj => absurd hj (Nat.not_lt_zero j)⟩⟩
  case round =>
    obtain ⟨k, vs, hk, rfl, HB2, HS, HM⟩ := hrel
    by_cases hlt : k < rows.length
    · obtain ⟨b1, o1, A3, c3, rfl, hb1, hc1, hrd⟩ := (HV.out.below HB2.out HB.out).at hlt
      have HRD := Lib.hid hrd
      have hkI : (k : Int) < (rows.length : Int) := by omega
      have HLO := Lib.hid (show k < out.length by rw [HL.out]; exact hlt)
      have HLT := Lib.hid hlt
      have HFK := Lib.hid (fun W u => HFF.out W k u)
      clear hrd hb1
      generalize rows.getD k [] = xk at hc1 HRD HFK
      go_wp2_with fail
      refine (HFK.out _ _ HB2.out HS.out HLT.out HRD.out).mono ?_
      rintro e w2 ⟨v2, rfl, b2, o2⟩
      obtain ⟨A2, c2, rfl⟩ := rdS_len o2
      have HM2 := Lib.hid (HM.out.below b2)
      have HP := Lib.hid (HM2.out.put HLO.out o2)
      have HB3 := Lib.hid (HB2.out.trans (b2.mono HB2.out.size))
      have HS3 := Lib.hid (Nat.lt_of_lt_of_le HS.out b2.size)
      have hc := (HM2.out.outer.cell (by rw [HM2.out.len]; exact HLO.out)).trans (getD_some (by rw [HM2.out.len]; exact HLO.out) .nilFunc)
      have hf := HM2.out.outer.frozen k
      clear b2 o2
      generalize vs.getD k Value.nilFunc = u2 at hc
      generalize (out.getD k []).length = n2 at HP
      go_wp2
      go_roundw
      case rel => exact ⟨k + 1, _, by omega, by go_num, Lib.hid (HB3.out.setCell (Nat.le_refl _) _), Lib.hid (by rw [nblk_setCell]; exact HS3.out), HP⟩
      case measure => simp [intOf]; omega
    · have HK := Lib.hid (show k = rows.length by omega)
      go_wp2
      go_ret
      refine ⟨_, rfl, HB2.out, ?_⟩
      have hm := HM.out
      rw [HK.out, ← HL.out] at hm
      rw [← HL.out]
      exact hm.read _ (Nat.le_refl _)
set_option maxHeartbeats 1600000 in
theorem map_second (w : World) (B : Nat) (v : Value) (rows out : List (List Int)) (rl : Value) (hv : RdG w B v rows) (hB : B ≤ w.heap.size) (hn : rows.length ≤ 1000000) (hl : out.length = rows.length)
    (HF : ∀ (W : World) (j : Nat) (u : Value), Below w.heap.size w W → w.heap.size < W.heap.size → j < rows.length → RdS W (fun b => b < B) u (rows.getD j []) → Calls Tryd.prog 35 #[rl, u] W (PartB W w.heap.size (out.getD j []))) :
    Calls Tryd.prog 32 #[v, .func (.func 35) #[rl] #[]] w (MapB w out) := by
  obtain ⟨A, c, rfl⟩ := hv.len
  have hmk := make_rows rows.length (by omega)
  have HV := Lib.hid hv
  have HB := Lib.hid hB
  have HFF := Lib.hid HF
  have HL := Lib.hid hl
  clear hv hB HF hl
  go_enter Tryd.func32, Tryd.ntmps32
  go_wp2
  go_loopw [13, 6, 7] (fun i _ _ wr => ∃ (k : Nat) (vs : List Value), k ≤ rows.length ∧ i = .int .i64 k ∧ Hid (Below w.heap.size w wr) ∧ Hid (w.heap.size < wr.heap.size) ∧ Hid (MapAt wr w.heap.size vs out k)) (fun i _ _ _ => rows.length - (intOf i).toNat)
  case atStart => exact ⟨0, List.replicate rows.length (.slice none 0 0), Nat.zero_le _, rfl, Lib.hid ((Below.refl _ _).alloc (Nat.le_refl _) _), Lib.hid (by rw [nblk_alloc]; omega), Lib.hid ⟨by
      have := cellsAt_new w (madeCells #[.slice none 0 0] rows.length) tR
      rw [toList_madeCells_one] at this
      exact this, by rw [List.length_replicate, HL.out], fun j hj => absurd hj (Nat.not_lt_zero j)⟩⟩
  case round =>
    obtain ⟨k, vs, hk, rfl, HB2, HS, HM⟩ := hrel
    by_cases hlt : k < rows.length
    · obtain ⟨b1, o1, A3, c3, rfl, hb1, hc1, hrd⟩ := (HV.out.below HB2.out HB.out).at hlt
      have HRD := Lib.hid hrd
      have hkI : (k : Int) < (rows.length : Int) := by omega
      have HLO := Lib.hid (show k < out.length by rw [HL.out]; exact hlt)
      have HLT := Lib.hid hlt
      have HFK := Lib.hid (fun W u => HFF.out W k u)
      clear hrd hb1
      generalize rows.getD k [] = xk at hc1 HRD HFK
      go_wp2_with fail
      refine (HFK.out _ _ HB2.out HS.out HLT.out HRD.out).mono ?_
      rintro e w2 ⟨v2, rfl, b2, o2⟩
      obtain ⟨A2, c2, rfl⟩ := rdS_len o2
      have HM2 := Lib.hid (HM.out.below b2)
      have HP := Lib.hid (HM2.out.put HLO.out o2)
      have HB3 := Lib.hid (HB2.out.trans (b2.mono HB2.out.size))
      have HS3 := Lib.hid (Nat.lt_of_lt_of_le HS.out b2.size)
      have hc := (HM2.out.outer.cell (by rw [HM2.out.len]; exact HLO.out)).trans (getD_some (by rw [HM2.out.len]; exact HLO.out) .nilFunc)
      have hf := HM2.out.outer.frozen k
      clear b2 o2
      generalize vs.getD k Value.nilFunc = u2 at hc
      generalize (out.getD k []).length = n2 at HP
      go_wp2
      go_roundw
      case rel => exact ⟨k + 1, _, by omega, by go_num, Lib.hid (HB3.out.setCell (Nat.le_refl _) _), Lib.hid (by rw [nblk_setCell]; exact HS3.out), HP⟩
      case measure => simp [intOf]; omega
    · have HK := Lib.hid (show k = rows.length by omega)
      go_wp2
      go_ret
      refine ⟨_, rfl, HB2.out, ?_⟩
      have hm := HM.out
      rw [HK.out, ← HL.out] at hm
      rw [← HL.out]
      exact hm.read _ (Nat.le_refl _)
set_option maxHeartbeats 1600000 in
theorem map_cmp1 (w : World) (B : Nat) (v : Value) (rows out : List (List Int)) (p1 p2 : Value) (hv : RdG w B v rows) (hB : B ≤ w.heap.size) (hn : rows.length ≤ 1000000) (hl : out.length = rows.length)
    (HF : ∀ (W : World) (j : Nat) (u : Value), Below w.heap.size w W → w.heap.size < W.heap.size → j < rows.length → RdS W (fun b => b < B) u (rows.getD j []) → Calls Tryd.prog 33 #[u, p1, p2] W (PartB W w.heap.size (out.getD j []))) :
    Calls Tryd.prog 32 #[v, .func (.func 33) #[] #[p1, p2]] w (MapB w out) := by
  obtain ⟨A, c, rfl⟩ := hv.len
  have hmk := make_rows rows.length (by omega)
  have HV := Lib.hid hv
  have HB := Lib.hid hB
  have HFF := Lib.hid HF
  have HL := Lib.hid hl
  clear hv hB HF hl
  go_enter Tryd.func32, Tryd.ntmps32
  go_wp2
  go_loopw [13, 6, 7] (fun i _ _ wr => ∃ (k : Nat) (vs : List Value), k ≤ rows.length ∧ i = .int .i64 k ∧ Hid (Below w.heap.size w wr) ∧ Hid (w.heap.size < wr.heap.size) ∧ Hid (MapAt wr w.heap.size vs out k)) (fun i _ _ _ => rows.length - (intOf i).toNat)
  case atStart => exact ⟨0, List.replicate rows.length (.slice none 0 0), Nat.zero_le _, rfl, Lib.hid ((Below.refl _ _).alloc (Nat.le_refl _) _), Lib.hid (by rw [nblk_alloc]; omega), Lib.hid ⟨by
      have := cellsAt_new w (madeCells #[.slice none 0 0] rows.length) tR
      rw [toList_madeCells_one] at this
      exact this, by rw [List.length_replicate, HL.out], fun j hj => absurd hj (Nat.not_lt_zero j)⟩⟩
  case round =>
    obtain ⟨k, vs, hk, rfl, HB2, HS, HM⟩ := hrel
    by_cases hlt : k < rows.length
    · obtain ⟨b1, o1, A3, c3, rfl, hb1, hc1, hrd⟩ := (HV.out.below HB2.out HB.out).at hlt
      have HRD := Lib.hid hrd
      have hkI : (k : Int) < (rows.length : Int) := by omega
      have HLO := Lib.hid (show k < out.length by rw [HL.out]; exact hlt)
      have HLT := Lib.hid hlt
      have HFK := Lib.hid (fun W u => HFF.out W k u)
      clear hrd hb1
      generalize rows.getD k [] = xk at hc1 HRD HFK
      go_wp2_with fail
      refine (HFK.out _ _ HB2.out HS.out HLT.out HRD.out).mono ?_
      rintro e w2 ⟨v2, rfl, b2, o2⟩
      obtain ⟨A2, c2, rfl⟩ := rdS_len o2
      have HM2 := Lib.hid (HM.out.below b2)
      have HP := Lib.hid (HM2.out.put HLO.out o2)
      have HB3 := Lib.hid (HB2.out.trans (b2.mono HB2.out.size))
      have HS3 := Lib.hid (Nat.lt_of_lt_of_le HS.out b2.size)
      have hc := (HM2.out.outer.cell (by rw [HM2.out.len]; exact HLO.out)).trans (getD_some (by rw [HM2.out.len]; exact HLO.out) .nilFunc)
      have hf := HM2.out.outer.frozen k
      clear b2 o2
      generalize vs.getD k Value.nilFunc = u2 at hc
      generalize (out.getD k []).length = n2 at HP
      go_wp2
      go_roundw
      case rel => exact ⟨k + 1, _, by omega, by go_num, Lib.hid (HB3.out.setCell (Nat.le_refl _) _), Lib.hid (by rw [nblk_setCell]; exact HS3.out), HP⟩
      case measure => simp [intOf]; omega
    · have HK := Lib.hid (show k = rows.length by omega)
      go_wp2
      go_ret
      refine ⟨_, rfl, HB2.out, ?_⟩
      have hm := HM.out
      rw [HK.out, ← HL.out] at hm
      rw [← HL.out]
      exact hm.read _ (Nat.le_refl _)
set_option maxHeartbeats 1600000 in
theorem map_cmp2 (w : World) (B : Nat) (v : Value) (rows out : List (List Int)) (p1 p2 p3 : Value) (hv : RdG w B v rows) (hB : B ≤ w.heap.size) (hn : rows.length ≤ 1000000) (hl : out.length = rows.length)
    (HF : ∀ (W : World) (j : Nat) (u : Value), Below w.heap.size w W → w.heap.size < W.heap.size → j < rows.length → RdS W (fun b => b < B) u (rows.getD j []) → Calls Tryd.prog 37 #[u, p1, p2, p3] W (PartB W w.heap.size (out.getD j []))) :
    Calls Tryd.prog 32 #[v, .func (.func 37) #[] #[p1, p2, p3]] w (MapB w out) := by
  obtain ⟨A, c, rfl⟩ := hv.len
  have hmk := make_rows rows.length (by omega)
  have HV := Lib.hid hv
  have HB := Lib.hid hB
  have HFF := Lib.hid HF
  have HL := Lib.hid hl
  clear hv hB HF hl
  go_enter Tryd.func32, Tryd.ntmps32
  go_wp2
  go_loopw [13, 6, 7] (fun i _ _ wr => ∃ (k : Nat) (vs : List Value), k ≤ rows.length ∧ i = .int .i64 k ∧ Hid (Below w.heap.size w wr) ∧ Hid (w.heap.size < wr.heap.size) ∧ Hid (MapAt wr w.heap.size vs out k)) (fun i _ _ _ => rows.length - (intOf i).toNat)
  case atStart => exact ⟨0, List.replicate rows.length (.slice none 0 0), Nat.zero_le _, rfl, Lib.hid ((Below.refl _ _).alloc (Nat.le_refl _) _), Lib.hid (by rw [nblk_alloc]; omega), Lib.hid ⟨by
      have := cellsAt_new w (madeCells #[.slice none 0 0] rows.length) tR
      rw [toList_madeCells_one] at this
      exact this, by rw [List.length_replicate, HL.out], fun j hj => absurd hj (Nat.not_lt_zero j)⟩⟩
  case round =>
    obtain ⟨k, vs, hk, rfl, HB2, HS, HM⟩ := hrel
    by_cases hlt : k < rows.length
    · obtain ⟨b1, o1, A3, c3, rfl, hb1, hc1, hrd⟩ := (HV.out.below HB2.out HB.out).at hlt
      have HRD := Lib.hid hrd
      have hkI : (k : Int) < (rows.length : Int) := by omega
      have HLO := Lib.hid (show k < out.length by rw [HL.out]; exact hlt)
      have HLT := Lib.hid hlt
      have HFK := Lib.hid (fun W u => HFF.out W k u)
      clear hrd hb1
      generalize rows.getD k [] = xk at hc1 HRD HFK
      go_wp2_with fail
      refine (HFK.out _ _ HB2.out HS.out HLT.out HRD.out).mono ?_
      rintro e w2 ⟨v2, rfl, b2, o2⟩
      obtain ⟨A2, c2, rfl⟩ := rdS_len o2
      have HM2 := Lib.hid (HM.out.below b2)
      have HP := Lib.hid (HM2.out.put HLO.out o2)
      have HB3 := Lib.hid (HB2.out.trans (b2.mono HB2.out.size))
      have HS3 := Lib.hid (Nat.lt_of_lt_of_le HS.out b2.size)
      have hc := (HM2.out.outer.cell (by rw [HM2.out.len]; exact HLO.out)).trans (getD_some (by rw [HM2.out.len]; exact HLO.out) .nilFunc)
      have hf := HM2.out.outer.frozen k
      clear b2 o2
      generalize vs.getD k Value.nilFunc = u2 at hc
      generalize (out.getD k []).length = n2 at HP
      go_wp2
      go_roundw
      case rel => exact ⟨k + 1, _, by omega, by go_num, Lib.hid (HB3.out.setCell (Nat.le_refl _) _), Lib.hid (by rw [nblk_setCell]; exact HS3.out), HP⟩
      case measure => simp [intOf]; omega
    · have HK := Lib.hid (show k = rows.length by omega)
      go_wp2
      go_ret
      refine ⟨_, rfl, HB2.out, ?_⟩
      have hm := HM.out
      rw [HK.out, ← HL.out] at hm
      rw [← HL.out]
      exact hm.read _ (Nat.le_refl _)
end Go.Proofs.YtdjgkcnhmfkjoaaDoor
