/- Rows of one's own that begin anywhere in their block, and grids of such; the laws' marks on them. -/
import Derived.Test.YtdjgkcnhmfkjoaaDoorLeaf
namespace Go.Proofs.YtdjgkcnhmfkjoaaDoor
set_option maxRecDepth 100000
open Go Go.RowKit Go.Deep

/-- The slice v is a row of its own of the ints xs: empty, or the part from o on of a block that S holds of. -/
def OwQ (w : World) (ti : TypeId) (S : Nat → Prop) (v : Value) (xs : List Int) : Prop :=
  ∃ A c, v = .slice A xs.length c ∧ xs.length ≤ c ∧ (xs = [] ∨ ∃ b o pre, A = some ⟨b, o, none⟩ ∧ S b ∧ List.length pre = o ∧ CellsAt w b ti (icells (pre ++ xs)))
section
variable {w w' : World} {ti : TypeId} {S T : Nat → Prop} {v : Value} {xs : List Int}
theorem OwR.toP (h : OwR w ti S v xs) : OwQ w ti S v xs := by
  obtain ⟨A, c, e, kc_c, h⟩ := h
  refine ⟨A, c, e, kc_c, ?_⟩
  rcases h with h | ⟨b, e2, h3, h4⟩
  · exact Or.inl h
  · exact Or.inr ⟨b, 0, [], e2, h3, rfl, h4⟩
theorem OwQ.mono (h : OwQ w ti S v xs) (hs : ∀ k, S k → k < w.heap.size → T k) : OwQ w ti T v xs := by
  obtain ⟨A, c, e, kc_c, h⟩ := h
  refine ⟨A, c, e, kc_c, ?_⟩
  rcases h with h | ⟨b, o, pre, e2, h3, h5, h4⟩
  · exact Or.inl h
  · exact Or.inr ⟨b, o, pre, e2, hs _ h3 h4.lt, h5, h4⟩
theorem OwQ.blocks (h : OwQ w ti S v xs) (hb : ∀ k, S k → k < w.heap.size → xs ≠ [] → k = blkOf v → w'.heap[k]? = w.heap[k]?) : OwQ w' ti S v xs := by
  obtain ⟨A, c, e, kc_c, h⟩ := h
  refine ⟨A, c, e, kc_c, ?_⟩
  rcases h with h | ⟨b, o, pre, e2, h3, h5, h4⟩
  · exact Or.inl h
  · by_cases hx : xs = []
    · exact Or.inl hx
    · exact Or.inr ⟨b, o, pre, e2, h3, h5, h4.of_block (hb b h3 h4.lt hx (by rw [e, e2]; rfl))⟩
theorem OwQ.read (h : OwQ w ti S v xs) : RdS w (fun b => S b ∧ b < w.heap.size) v xs := by
  obtain ⟨A, c, e, kc_c, h⟩ := h
  refine ⟨A, c, e, kc_c, fun k hk => ?_⟩
  rcases h with h | ⟨b, o, pre, e2, h3, h5, h4⟩
  · rw [h] at hk
    exact absurd hk (Nat.not_lt_zero k)
  · refine ⟨b, o, e2, ⟨h3, h4.lt⟩, ?_⟩
    have hl : o + k < (pre ++ xs).length := by rw [List.length_append]; omega
    rw [h4.cell (by rw [icells_len]; exact hl), icells_get hl, List.getD_eq_getElem?_getD, List.getElem?_append_right (by omega), List.getD_eq_getElem?_getD, show o + k - pre.length = k by omega]
theorem OwQ.readB (h : OwQ w ti S v xs) : RdS w (fun b => b < w.heap.size) v xs := h.read.mono fun _ h => h.2
theorem OwQ.nil (A : Option Addr) (c : Nat) : OwQ w ti S (.slice A 0 c) [] := ⟨A, c, rfl, Nat.zero_le c, Or.inl rfl⟩
theorem OwQ.len (h : OwQ w ti S v xs) : ∃ A c, v = .slice A xs.length c := by
  obtain ⟨A, c, e, kc_c, _⟩ := h
  exact ⟨A, c, e⟩
theorem OwQ.blk (h : OwQ w ti S v xs) (hx : xs ≠ []) : S (blkOf v) := by
  obtain ⟨A, c, e, kc_c, h2⟩ := h
  rcases h2 with h2 | ⟨b, o, pre, e2, h3, h5, h4⟩
  · exact absurd h2 hx
  · rw [e, e2]; exact h3
/-- Parted: an empty row, or one in a block. -/
theorem OwQ.cases (h : OwQ w ti S v xs) : (xs = [] ∧ ∃ A c, v = .slice A 0 c) ∨ ∃ b o c pre, v = .slice (some ⟨b, o, none⟩) xs.length c ∧ S b ∧ (0 < xs.length ∧ xs.length ≤ c) ∧ List.length pre = o ∧ CellsAt w b ti (icells (pre ++ xs)) := by
  obtain ⟨A, c, e, kc_c, h⟩ := h
  rcases h with h | ⟨b, o, pre, e2, h3, h5, h4⟩
  · subst h
    exact Or.inl ⟨rfl, A, c, e⟩
  · by_cases hx : xs = []
    · subst hx
      exact Or.inl ⟨rfl, A, c, e⟩
    · subst e2
      exact Or.inr ⟨b, o, c, pre, e, h3, ⟨List.length_pos_iff.2 hx, kc_c⟩, h5, h4⟩
end

/-- Block g holds the slices vs; slice r is a row of its own, rows r; no two share a block. -/
structure GridP (w : World) (ti ts : TypeId) (S : Nat → Prop) (g : Nat) (vs : List Value) (rows : List (List Int)) : Prop where
  outer : CellsAt w g ts vs
  inS : S g
  len : vs.length = rows.length
  row : ∀ r, r < rows.length → OwQ w ti S (vs.getD r .nilFunc) (rows.getD r [])
  off : ∀ r, r < rows.length → rows.getD r [] ≠ [] → blkOf (vs.getD r .nilFunc) ≠ g
  apart : ∀ r s, r < rows.length → s < rows.length → r ≠ s → rows.getD r [] ≠ [] → rows.getD s [] ≠ [] → blkOf (vs.getD r .nilFunc) ≠ blkOf (vs.getD s .nilFunc)
/-- The slice v is a grid of its own: empty, or a block of slices. -/
def OwGP (w : World) (ti ts : TypeId) (S : Nat → Prop) (v : Value) (rows : List (List Int)) : Prop :=
  ∃ A c, v = .slice A rows.length c ∧ rows.length ≤ c ∧ (rows = [] ∨ ∃ g vs, A = some ⟨g, 0, none⟩ ∧ GridP w ti ts S g vs rows)
section
variable {w w' : World} {ti ts : TypeId} {S T : Nat → Prop} {g : Nat} {vs : List Value} {rows : List (List Int)}
theorem GridP.mono (h : GridP w ti ts S g vs rows) (hs : ∀ k, S k → k < w.heap.size → T k) : GridP w ti ts T g vs rows :=
  ⟨h.outer, hs _ h.inS h.outer.lt, h.len, fun r hr => (h.row r hr).mono hs, h.off, h.apart⟩
/-- All the grid's blocks are as they were. -/
theorem GridP.blocks (h : GridP w ti ts S g vs rows) (hb : ∀ k, S k → k < w.heap.size → w'.heap[k]? = w.heap[k]?) : GridP w' ti ts S g vs rows :=
  ⟨h.outer.of_block (hb _ h.inS h.outer.lt), h.inS, h.len, fun r hr => (h.row r hr).blocks fun k hk hl _ _ => hb k hk hl, h.off, h.apart⟩
theorem GridP.touch (h : GridP w ti ts S g vs rows) (ht : Touch T w w') (hs : ∀ k, S k → ¬ T k) : GridP w' ti ts S g vs rows := h.blocks fun k hk hl => ht.block k hl (hs k hk)
theorem GridP.cell (h : GridP w ti ts S g vs rows) {r : Nat} (hr : r < rows.length) : w.cell? ⟨g, r, none⟩ = some (vs.getD r .nilFunc) := by
  rw [h.outer.cell (by rw [h.len]; exact hr)]
  exact getD_some (by rw [h.len]; exact hr) _
/-- Row r changed in place. -/
theorem GridP.write (h : GridP w ti ts S g vs rows) {r : Nat} (hr : r < rows.length) {ys : List Int} (hl : ys.length = (rows.getD r []).length)
    (hT : OwQ w' ti S (vs.getD r .nilFunc) ys) (hb : ∀ k, k < w.heap.size → ¬ (rows.getD r [] ≠ [] ∧ k = blkOf (vs.getD r .nilFunc)) → w'.heap[k]? = w.heap[k]?) : GridP w' ti ts S g vs (rows.set r ys) := by
  have he : ys = [] ↔ rows.getD r [] = [] := by rw [← List.length_eq_zero_iff, hl, List.length_eq_zero_iff]
  refine ⟨h.outer.of_block (hb _ h.outer.lt fun ⟨hx, e⟩ => h.off r hr hx e.symm), h.inS, by rw [List.length_set, h.len], fun i hi => ?_, fun i hi hx => ?_, fun i j hi hj hij hxi hxj => ?_⟩
  · rw [List.length_set] at hi
    rw [set_getD _ _ _ _ _ hr]
    by_cases c : r = i
    · rw [if_pos c, ← c]
      exact hT
    · rw [if_neg c]
      exact (h.row i hi).blocks fun k hk hlt hx e => hb k hlt fun ⟨hx2, e2⟩ => h.apart r i hr hi c hx2 hx (e2.symm.trans e)
  · rw [List.length_set] at hi
    rw [set_getD _ _ _ _ _ hr] at hx
    by_cases c : r = i
    · rw [if_pos c] at hx
      exact h.off i hi (by rw [← c]; exact fun e => hx (he.2 e))
    · rw [if_neg c] at hx
      exact h.off i hi hx
  · rw [List.length_set] at hi hj
    rw [set_getD _ _ _ _ _ hr] at hxi hxj
    refine h.apart i j hi hj hij ?_ ?_
    · by_cases c : r = i
      · rw [if_pos c] at hxi
        rw [← c]
        exact fun e => hxi (he.2 e)
      · rw [if_neg c] at hxi
        exact hxi
    · by_cases c : r = j
      · rw [if_pos c] at hxj
        rw [← c]
        exact fun e => hxj (he.2 e)
      · rw [if_neg c] at hxj
        exact hxj

end

/-- The row v, marked from k on. -/
def MarkP (w : World) (S : Nat → Prop) (v : Value) (k : Int) (xs : List Int) (e : Ending) (w' : World) : Prop :=
  e = .returned (.int .i64 (k + xs.length)) ∧ RowTouch v xs w w' ∧ OwQ w' tI S v (marks k xs.length)
set_option maxHeartbeats 400000 in
theorem markP_any (w : World) (S : Nat → Prop) (v : Value) (xs : List Int) (k : Int) (hv : OwQ w tI S v xs) (h0 : 0 ≤ k) (hl : k + xs.length ≤ 9223372036854775807) :
    Calls Tryd.prog 43 #[v, .int .i64 k] w (MarkP w S v k xs) := by
  rcases hv.cases with ⟨rfl, A, c, rfl⟩ | ⟨g, o, cap, pre, rfl, hs, ⟨hpos, kc_cap⟩, hpre, hc0⟩
  · go_enter Tryd.func43, Tryd.ntmps43
    go_wp2
    refine wp_loop_rounds 1 ?_
    rw [rounds_succ]
    go_wp2
    go_ret
    exact ⟨by simp, ⟨Touch.refl _ _, rfl⟩, hv⟩
  · have HC := Lib.hid hc0
    have HS := Lib.hid hs
    have HP := Lib.hid hpos
    have HPRE := Lib.hid hpre
    clear hv hc0 hs hpos hpre
    go_enter Tryd.func43, Tryd.ntmps43
    go_wp2
    go_loopw [1, 5] (fun tk ti wr => ∃ i : Nat, i ≤ xs.length ∧ ti = .int .i64 i ∧ tk = .int .i64 (k + i) ∧ Hid (Touch (fun q => q = g) w wr) ∧ Hid (wr.heap.size = w.heap.size) ∧ Hid (CellsAt wr g tI (icells (pre ++ (marks k i ++ xs.drop i))))) (fun _ ti _ => xs.length - (intOf ti).toNat)
    case atStart => exact ⟨0, Nat.zero_le _, rfl, by go_num, Lib.hid (Touch.refl _ _), Lib.hid rfl, HC⟩
    case round =>
      obtain ⟨i, hi, rfl, rfl, HT, HZ, HO⟩ := hrel
      by_cases hlt : i < xs.length
      · have HLN := Lib.hid (show o + i < (icells (pre ++ (marks k i ++ xs.drop i))).length by rw [icells_len, List.length_append, List.length_append, marks_len, List.length_drop, HPRE.out]; omega)
        have hc := (HO.out.cell HLN.out).trans (getD_some HLN.out (.int .i64 0))
        have hf := HO.out.frozen (o + i)
        generalize (icells (pre ++ (marks k i ++ xs.drop i))).getD (o + i) (.int .i64 0) = z at hc
        have HST := Lib.hid (HO.out.set (o + i) (.int .i64 (k + i)))
        go_wp2
        go_roundw
        case rel => exact ⟨i + 1, by omega, by go_num, by go_num, Lib.hid (HT.out.setCell (Or.inl rfl) _), Lib.hid (by rw [nblk_setCell]; exact HZ.out), Lib.hid (by
          have := HST.out
          rw [icells_set, List.set_append_right _ _ (by rw [HPRE.out]; omega), HPRE.out, show o + i - o = i by omega, marks_step k xs i hlt] at this
          exact this)⟩
        case measure => simp [intOf]; omega
      · have hin : i = xs.length := by omega
        have HF := Lib.hid (show marks k i ++ xs.drop i = marks k xs.length by rw [hin]; simp)
        have HI := Lib.hid hin
        clear hin
        go_wp2
        go_ret
        refine ⟨congrArg (fun j : Nat => Ending.returned (.int .i64 (k + (j : Int)))) HI.out, ⟨HT.out.mono fun q _ e => ⟨List.length_pos_iff.1 HP.out, e⟩, HZ.out⟩, ⟨_, cap, by rw [marks_len], by rw [marks_len]; exact kc_cap, Or.inr ⟨g, o, pre, rfl, HS.out, HPRE.out, ?_⟩⟩⟩
        rw [← HF.out]
        exact HO.out

/-- The grid v, marked from k on. -/
def MarkGP (w : World) (S : Nat → Prop) (v : Value) (k : Int) (rows : List (List Int)) (e : Ending) (w' : World) : Prop :=
  e = .returned (.int .i64 (k + tot rows)) ∧ Touch S w w' ∧ w'.heap.size = w.heap.size ∧ OwGP w' tI tR S v (marksG k rows)
set_option maxHeartbeats 400000 in
theorem markGP_any (w : World) (S : Nat → Prop) (v : Value) (rows : List (List Int)) (k : Int) (hv : OwGP w tI tR S v rows) (h0 : 0 ≤ k) (hl : k + tot rows ≤ 9223372036854775807) (hn : rows.length ≤ 9223372036854775807) :
    Calls Tryd.prog 19 #[v, .int .i64 k] w (MarkGP w S v k rows) := by
  obtain ⟨A, c, rfl, kc_c, hv⟩ := hv
  rcases hv with rfl | ⟨g, vs, rfl, hg⟩
  · go_enter Tryd.func19, Tryd.ntmps19
    go_wp2
    refine wp_loop_rounds 1 ?_
    rw [rounds_succ]
    go_wp2
    go_ret
    exact ⟨by simp [tot], Touch.refl _ _, rfl, ⟨A, c, rfl, Nat.zero_le c, Or.inl rfl⟩⟩
  · have HG := Lib.hid hg
    have HL := Lib.hid hl
    clear hg hl
    go_enter Tryd.func19, Tryd.ntmps19
    go_wp2
    go_loopw [1, 5] (fun tk ti wr => ∃ i m : Nat, i ≤ rows.length ∧ ti = .int .i64 i ∧ tk = .int .i64 (k + m) ∧ Hid (m = off rows i) ∧ Hid (Touch S w wr) ∧ Hid (wr.heap.size = w.heap.size) ∧ Hid (GridP wr tI tR S g vs (upd (fun j row => marks (k + off rows j) row.length) i rows))) (fun _ ti _ => rows.length - (intOf ti).toNat)
    case atStart => exact ⟨0, 0, Nat.zero_le _, rfl, by go_num, Lib.hid (off_zero _).symm, Lib.hid (Touch.refl _ _), Lib.hid rfl, Lib.hid (by rw [upd_zero]; exact HG.out)⟩
    case round =>
      obtain ⟨i, m, hi, rfl, rfl, HM, HT, HZ, HO⟩ := hrel
      by_cases hlt : i < rows.length
      · have HLN := Lib.hid (show i < (upd (fun j row => marks (k + off rows j) row.length) i rows).length by rw [upd_len]; exact hlt)
        have hc := HO.out.cell HLN.out
        have HGET := Lib.hid (upd_getD (fun j row => marks (k + off rows j) row.length) (Nat.le_refl i) rows [])
        have hrow := HO.out.row i HLN.out
        rw [HGET.out] at hrow
        have HROW := Lib.hid hrow
        have HS := Lib.hid (off_succ hlt)
        have hmax : k + (m + (rows.getD i []).length : Nat) ≤ 9223372036854775807 := by
          have := HL.out
          have := HM.out
          have := off_le rows (i + 1)
          have := off_succ hlt
          omega
        have HXN := Lib.hid (show rows.getD i [] ≠ [] → S (blkOf (vs.getD i Value.nilFunc)) from fun hx => hrow.blk hx)
        generalize hy : rows.getD i [] = xi at HROW HS hmax HXN
        have HY := Lib.hid hy
        generalize hu : vs.getD i Value.nilFunc = u at hc HROW HXN
        have HU := Lib.hid hu
        clear hy hu hrow
        go_wp2_with fail
        refine (markP_any _ S _ xi _ HROW.out (by omega) (by omega)).mono ?_
        rintro e w2 ⟨rfl, ⟨t2, z2⟩, o2⟩
        have HT2 := Lib.hid (HT.out.trans (t2.mono (fun q _ h => by
          obtain ⟨h1, h2⟩ := h
          rw [h2]
          exact HXN.out h1)))
        have HZ2 := Lib.hid (z2.trans HZ.out)
        have HO2 := Lib.hid (HO.out.write HLN.out (ys := marks (k + m) xi.length) (w' := w2) (by rw [HGET.out, HY.out, marks_len]) (by rw [HU.out]; exact o2) (fun q hq hn => t2.block q hq (by rw [HGET.out, HY.out, HU.out] at hn; exact hn)))
        clear t2 z2 o2
        go_wp2
        go_roundw
        case rel => exact ⟨i + 1, m + xi.length, by omega, by go_num, by go_num, Lib.hid (by rw [HS.out, HM.out]), HT2, HZ2, Lib.hid (by
          have := HO2.out
          rw [HM.out, ← HY.out, upd_step (fun j row => marks (k + off rows j) row.length) hlt []] at this
          exact this)⟩
        case measure => simp [intOf]; omega
      · have HI := Lib.hid (show m = tot rows by rw [HM.out, show i = rows.length by omega, off_all])
        have HA := Lib.hid (upd_all (fun j row => marks (k + off rows j) row.length) (show rows.length ≤ i by omega))
        go_wp2
        go_ret
        refine ⟨congrArg (fun j : Nat => Ending.returned (.int .i64 (k + (j : Int)))) HI.out, HT.out, HZ.out, ⟨_, c, by rw [marksG_len], by rw [marksG_len]; exact kc_c, Or.inr ⟨g, vs, rfl, ?_⟩⟩⟩
        have := HO.out
        rw [HA.out] at this
        exact this


/-- The slice v is the call's own, its rows begin anywhere in their blocks. -/
def OwnP (w : World) (S : Nat → Prop) (v : Value) (x : List (List Int)) : Prop := OwGP w tI tR S v x ∧ szG x ≤ 1099511627776
theorem OwGP.len {w : World} {ti ts : TypeId} {S : Nat → Prop} {v : Value} {rows : List (List Int)} (h : OwGP w ti ts S v rows) : ∃ A c, v = .slice A rows.length c := by
  obtain ⟨A, c, e, _⟩ := h
  exact ⟨A, c, e⟩
theorem OwGP.readB {w : World} {ti ts : TypeId} {S : Nat → Prop} {v : Value} {rows : List (List Int)} (h : OwGP w ti ts S v rows) : RdG w w.heap.size v rows := by
  obtain ⟨A, c, e, kc, h⟩ := h
  refine ⟨A, c, e, kc, fun r hr => ?_⟩
  rcases h with h | ⟨g, vs, e2, h3⟩
  · rw [h] at hr
    exact absurd hr (Nat.not_lt_zero r)
  · exact ⟨g, 0, _, e2, h3.outer.lt, by rw [Nat.zero_add]; exact h3.cell hr, (h3.row r hr).readB⟩
theorem OwGP.mono {w : World} {ti ts : TypeId} {S T : Nat → Prop} {v : Value} {rows : List (List Int)} (h : OwGP w ti ts S v rows) (hs : ∀ k, S k → k < w.heap.size → T k) : OwGP w ti ts T v rows := by
  obtain ⟨A, c, e, kc, h⟩ := h
  exact ⟨A, c, e, kc, h.imp id fun ⟨g, vs, e2, h3⟩ => ⟨g, vs, e2, h3.mono hs⟩⟩
theorem OwGP.blocks {w w' : World} {ti ts : TypeId} {S : Nat → Prop} {v : Value} {rows : List (List Int)} (h : OwGP w ti ts S v rows) (hb : ∀ k, S k → k < w.heap.size → w'.heap[k]? = w.heap[k]?) : OwGP w' ti ts S v rows := by
  obtain ⟨A, c, e, kc, h⟩ := h
  exact ⟨A, c, e, kc, h.imp id fun ⟨g, vs, e2, h3⟩ => ⟨g, vs, e2, h3.blocks hb⟩⟩
theorem OwG.toP {w : World} {ti ts : TypeId} {S : Nat → Prop} {v : Value} {rows : List (List Int)} (h : OwG w ti ts S v rows) : OwGP w ti ts S v rows := by
  obtain ⟨A, c, e, kc, h⟩ := h
  exact ⟨A, c, e, kc, h.imp id fun ⟨g, vs, e2, h3⟩ => ⟨g, vs, e2, ⟨h3.outer, h3.inS, h3.len, fun r hr => (h3.row r hr).toP, h3.off, h3.apart⟩⟩⟩
theorem OwnG.toP {w : World} {S : Nat → Prop} {v : Value} {x : List (List Int)} (h : OwnG w S v x) : OwnP w S v x := ⟨OwG.toP h.1, h.2⟩
theorem OwnP.rd {w : World} {S : Nat → Prop} {v : Value} {x : List (List Int)} (h : OwnP w S v x) : LfG w w.heap.size v x :=
  ⟨h.1.readB, by have := h.2; unfold szG at this; omega, fun r hr => by have := h.2; have := row_le hr; unfold szG at *; omega⟩
theorem OwnP.mono {w : World} {S T : Nat → Prop} {v : Value} {x : List (List Int)} (h : OwnP w S v x) (hs : ∀ k, S k → k < w.heap.size → T k) : OwnP w T v x := ⟨h.1.mono hs, h.2⟩
theorem OwnP.blocks {w w' : World} {S : Nat → Prop} {v : Value} {x : List (List Int)} (h : OwnP w S v x) (hb : ∀ k, S k → k < w.heap.size → w'.heap[k]? = w.heap[k]?) : OwnP w' S v x := ⟨h.1.blocks hb, h.2⟩
theorem OwnP.below {w w' : World} {S : Nat → Prop} {B : Nat} {v : Value} {x : List (List Int)} (h : OwnP w S v x) (hb : Below B w w') (hs : ∀ k, S k → k < w.heap.size → k < B) : OwnP w' S v x := h.blocks fun k hk hl => hb.block k (hs k hk hl)
theorem OwnP.len {w : World} {S : Nat → Prop} {v : Value} {x : List (List Int)} (h : OwnP w S v x) : ∃ A c, v = .slice A x.length c := OwGP.len h.1
def MarkedP (w : World) (S : Nat → Prop) (v : Value) (k : Int) (x : List (List Int)) (e : Ending) (w' : World) : Prop := e = .returned (.int .i64 (k + (cntG x : Nat))) ∧ Touch S w w' ∧ OwnP w' S v (mkG k x)
theorem markedP_any (w : World) (S : Nat → Prop) (v : Value) (x : List (List Int)) (k : Int) (hv : OwnP w S v x) (h0 : 0 ≤ k) (hl : k + (cntG x : Nat) ≤ 9223372036854775807) :
    Calls Tryd.prog 19 #[v, .int .i64 k] w (MarkedP w S v k x) :=
  (markGP_any w S v x k hv.1 h0 hl (by have := hv.2; unfold szG at this; omega)).mono fun e w' ⟨h1, h2, _, h3⟩ => ⟨h1, h2, h3, by have := hv.2; unfold szG mkG at *; rw [tot_marksG, marksG_len]; exact this⟩
def IRetRelationP (w : World) (r0_0 : Int) (r0_1 : Int) (r0_2 : List (List Int)) (r1_0 : Bool) (e : Ending) (w' : World) : Prop := ∃ (vr0_2 : Value), e = .returned (.tuple #[.agg #[.int .i64 r0_0, .int .i64 r0_1, vr0_2], .bool r1_0]) ∧ Below w.heap.size w w' ∧ OwnP w' (fun b => w.heap.size ≤ b) vr0_2 r0_2
def SRetRelationP (w : World) (r0_0 : Int) (r0_1 : Int) (r0_2 : List (List Int)) (r1_0 : Bool) (e : Ending) (w' : World) : Prop := IRetRelationP w r0_0 r0_1 r0_2 r1_0 e w'
end Go.Proofs.YtdjgkcnhmfkjoaaDoor
