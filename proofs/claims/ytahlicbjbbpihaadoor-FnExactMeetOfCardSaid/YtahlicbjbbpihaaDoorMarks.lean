/- The laws' marks on rows and grids that the call owns. -/
import Derived.Test.YtahlicbjbbpihaaDoorGrids
namespace Go.Proofs.YtahlicbjbbpihaaDoor
set_option maxRecDepth 100000
open Go Go.RowKit Go.Deep

def marksG (k : Int) (rows : List (List Int)) : List (List Int) := rows.mapIdx fun j row => marks (k + off rows j) row.length
theorem marksG_len (k : Int) (rows : List (List Int)) : (marksG k rows).length = rows.length := by simp [marksG]
theorem marksG_get {k : Int} {rows : List (List Int)} {j : Nat} (h : j < rows.length) : (marksG k rows).getD j [] = marks (k + off rows j) (rows.getD j []).length := by
  unfold marksG
  rw [mapIdx_getD _ _ _ h []]

/-- The row's block alone may have changed; no new block. -/
def RowTouch (v : Value) (xs : List Int) (w w' : World) : Prop := Touch (fun q => xs ≠ [] ∧ q = blkOf v) w w' ∧ w'.heap.size = w.heap.size
/-- The row v, marked from k on. -/
def MarkR (w : World) (S : Nat → Prop) (v : Value) (k : Int) (xs : List Int) (e : Ending) (w' : World) : Prop :=
  e = .returned (.int .i64 (k + xs.length)) ∧ RowTouch v xs w w' ∧ OwR w' tI S v (marks k xs.length)
theorem marks_eq_nil (k : Int) (n : Nat) (h : n = 0) : marks k n = [] := by subst h; rfl
set_option maxHeartbeats 400000 in
theorem markR_any (w : World) (S : Nat → Prop) (v : Value) (xs : List Int) (k : Int) (hv : OwR w tI S v xs) (h0 : 0 ≤ k) (hl : k + xs.length ≤ 9223372036854775807) :
    Calls Tryd.prog 30 #[v, .int .i64 k] w (MarkR w S v k xs) := by
  rcases hv.cases with ⟨rfl, A, c, rfl⟩ | ⟨g, cap, rfl, hs, hpos, hc0⟩
  · go_enter Tryd.func30, Tryd.ntmps30
    go_wp2
    refine wp_loop_rounds 1 ?_
    rw [rounds_succ]
    go_wp2
    go_ret
    exact ⟨by simp, ⟨Touch.refl _ _, rfl⟩, hv⟩
  · have HC := Lib.hid hc0
    have HS := Lib.hid hs
    have HP := Lib.hid hpos
    clear hv hc0 hs hpos
    go_enter Tryd.func30, Tryd.ntmps30
    go_wp2
    go_loopw [1, 5] (fun tk ti wr => ∃ i : Nat, i ≤ xs.length ∧ ti = .int .i64 i ∧ tk = .int .i64 (k + i) ∧ Hid (Touch (fun q => q = g) w wr) ∧ Hid (wr.heap.size = w.heap.size) ∧ Hid (CellsAt wr g tI (icells (marks k i ++ xs.drop i)))) (fun _ ti _ => xs.length - (intOf ti).toNat)
    case atStart => exact ⟨0, Nat.zero_le _, rfl, by go_num, Lib.hid (Touch.refl _ _), Lib.hid rfl, HC⟩
    case round =>
      obtain ⟨i, hi, rfl, rfl, HT, HZ, HO⟩ := hrel
      by_cases hlt : i < xs.length
      · have HLN := Lib.hid (show i < (icells (marks k i ++ xs.drop i)).length by rw [icells_len, List.length_append, marks_len, List.length_drop]; omega)
        have hc := (HO.out.cell HLN.out).trans (getD_some HLN.out (.int .i64 0))
        have hf := HO.out.frozen i
        generalize (icells (marks k i ++ xs.drop i)).getD i (.int .i64 0) = z at hc
        have HST := Lib.hid (HO.out.set i (.int .i64 (k + i)))
        go_wp2
        go_roundw
        case rel => exact ⟨i + 1, by omega, by go_num, by go_num, Lib.hid (HT.out.setCell (Or.inl rfl) _), Lib.hid (by rw [nblk_setCell]; exact HZ.out), Lib.hid (by
          have := HST.out
          rw [icells_set, marks_step k xs i hlt] at this
          exact this)⟩
        case measure => simp [intOf]; omega
      · have hin : i = xs.length := by omega
        have HF := Lib.hid (show marks k i ++ xs.drop i = marks k xs.length by rw [hin]; simp)
        have HI := Lib.hid hin
        clear hin
        go_wp2
        go_ret
        refine ⟨congrArg (fun j : Nat => Ending.returned (.int .i64 (k + (j : Int)))) HI.out, ⟨HT.out.mono fun q _ e => ⟨List.length_pos_iff.1 HP.out, e⟩, HZ.out⟩, owR_at HS.out ?_ (marks_len _ _).symm⟩
        rw [← HF.out]
        exact HO.out

/-- The grid v, marked from k on. -/
def MarkG (w : World) (S : Nat → Prop) (v : Value) (k : Int) (rows : List (List Int)) (e : Ending) (w' : World) : Prop :=
  e = .returned (.int .i64 (k + tot rows)) ∧ Touch S w w' ∧ w'.heap.size = w.heap.size ∧ OwG w' tI tR S v (marksG k rows)
theorem OwR.blk {w : World} {ti : TypeId} {S : Nat → Prop} {v : Value} {xs : List Int} (h : OwR w ti S v xs) (hx : xs ≠ []) : S (blkOf v) := by
  obtain ⟨A, c, e, h2⟩ := h
  rcases h2 with h2 | ⟨b, e2, h3, h4⟩
  · exact absurd h2 hx
  · rw [e, e2]; exact h3
set_option maxHeartbeats 400000 in
theorem markG_any (w : World) (S : Nat → Prop) (v : Value) (rows : List (List Int)) (k : Int) (hv : OwG w tI tR S v rows) (h0 : 0 ≤ k) (hl : k + tot rows ≤ 9223372036854775807) (hn : rows.length ≤ 9223372036854775807) :
    Calls Tryd.prog 64 #[v, .int .i64 k] w (MarkG w S v k rows) := by
  obtain ⟨A, c, rfl, hv⟩ := hv
  rcases hv with rfl | ⟨g, vs, rfl, hg⟩
  · go_enter Tryd.func64, Tryd.ntmps64
    go_wp2
    refine wp_loop_rounds 1 ?_
    rw [rounds_succ]
    go_wp2
    go_ret
    exact ⟨by simp [tot], Touch.refl _ _, rfl, ⟨A, c, rfl, Or.inl rfl⟩⟩
  · have HG := Lib.hid hg
    have HL := Lib.hid hl
    clear hg hl
    go_enter Tryd.func64, Tryd.ntmps64
    go_wp2
    go_loopw [1, 5] (fun tk ti wr => ∃ i m : Nat, i ≤ rows.length ∧ ti = .int .i64 i ∧ tk = .int .i64 (k + m) ∧ Hid (m = off rows i) ∧ Hid (Touch S w wr) ∧ Hid (wr.heap.size = w.heap.size) ∧ Hid (GridAt wr tI tR S g vs (upd (fun j row => marks (k + off rows j) row.length) i rows))) (fun _ ti _ => rows.length - (intOf ti).toNat)
    case atStart => exact ⟨0, 0, Nat.zero_le _, rfl, by go_num, Lib.hid (off_zero _).symm, Lib.hid (Touch.refl _ _), Lib.hid rfl, Lib.hid (by rw [upd_zero]; exact HG.out)⟩
    case round =>
      obtain ⟨i, m, hi, rfl, rfl, HM, HT, HZ, HO⟩ := hrel
      by_cases hlt : i < rows.length
      · have HLN := Lib.hid (show i < (upd (fun j row => marks (k + off rows j) row.length) i rows).length by rw [upd_len]; exact hlt)
        have hc := HO.out.cell HLN.out
        have HGET := Lib.hid (upd_getD (fun j row => marks (k + off rows j) row.length) (Nat.le_refl i) rows [])
        have hrow := HO.out.row i HLN.out
        rw [HGET.out] at hrow
        have HROW := Lib.hid hrow
        have HS := Lib.hid (off_succ hlt)
        have hmax : k + (m + (rows.getD i []).length : Nat) ≤ 9223372036854775807 := by
          have := HL.out
          have := HM.out
          have := off_le rows (i + 1)
          have := off_succ hlt
          omega
        have HXN := Lib.hid (show rows.getD i [] ≠ [] → S (blkOf (vs.getD i Value.nilFunc)) from fun hx => hrow.blk hx)
        generalize hy : rows.getD i [] = xi at HROW HS hmax HXN
        have HY := Lib.hid hy
        generalize hu : vs.getD i Value.nilFunc = u at hc HROW HXN
        have HU := Lib.hid hu
        clear hy hu hrow
        go_wp2_with fail
        refine (markR_any _ S _ xi _ HROW.out (by omega) (by omega)).mono ?_
        rintro e w2 ⟨rfl, ⟨t2, z2⟩, o2⟩
        have HT2 := Lib.hid (HT.out.trans (t2.mono (fun q _ h => by
          obtain ⟨h1, h2⟩ := h
          rw [h2]
          exact HXN.out h1)))
        have HZ2 := Lib.hid (z2.trans HZ.out)
        have HO2 := Lib.hid (HO.out.write HLN.out (ys := marks (k + m) xi.length) (w' := w2) (by rw [HGET.out, HY.out, marks_len]) (by rw [HU.out]; exact o2) (fun q hq hn => t2.block q hq (by rw [HGET.out, HY.out, HU.out] at hn; exact hn)))
        clear t2 z2 o2
        go_wp2
        go_roundw
        case rel => exact ⟨i + 1, m + xi.length, by omega, by go_num, by go_num, Lib.hid (by rw [HS.out, HM.out]), HT2, HZ2, Lib.hid (by
          have := HO2.out
          rw [HM.out, ← HY.out, upd_step (fun j row => marks (k + off rows j) row.length) hlt []] at this
          exact this)⟩
        case measure => simp [intOf]; omega
      · have HI := Lib.hid (show m = tot rows by rw [HM.out, show i = rows.length by omega, off_all])
        have HA := Lib.hid (upd_all (fun j row => marks (k + off rows j) row.length) (show rows.length ≤ i by omega))
        go_wp2
        go_ret
        refine ⟨congrArg (fun j : Nat => Ending.returned (.int .i64 (k + (j : Int)))) HI.out, HT.out, HZ.out, ⟨_, c, by rw [marksG_len], Or.inr ⟨g, vs, rfl, ?_⟩⟩⟩
        have := HO.out
        rw [HA.out] at this
        exact this

set_option maxHeartbeats 400000 in
theorem heldG_any (w : World) (B : Nat) (v : Value) (rows : List (List Int)) (k : Int) (hv : RdG w B v (marksG k rows)) (h0 : 0 ≤ k) (hl : k + tot rows ≤ 9223372036854775807) (hn : rows.length ≤ 9223372036854775807) :
    Calls Tryd.prog 65 #[v, .int .i64 k] w fun e w' => e = .returned (.int .i64 (k + tot rows)) ∧ w = w' := by
  obtain ⟨A, c, rfl, hv⟩ := hv
  rw [marksG_len] at hv ⊢
  have HV := Lib.hid hv
  have HL := Lib.hid hl
  clear hv hl
  go_enter Tryd.func65, Tryd.ntmps65
  go_wp2
  go_loop [1, 5] (fun tk ti => ∃ i m : Nat, i ≤ rows.length ∧ ti = .int .i64 i ∧ tk = .int .i64 (k + m) ∧ Hid (m = off rows i)) (fun _ ti => rows.length - (intOf ti).toNat)
  case atStart => exact ⟨0, 0, Nat.zero_le _, rfl, by go_num, Lib.hid (off_zero _).symm⟩
  case round =>
    obtain ⟨i, m, hi, rfl, rfl, HM⟩ := hrel
    by_cases hlt : i < rows.length
    · obtain ⟨b, o, u, rfl, hbB, hc, hrow⟩ := HV.out i hlt
      rw [marksG_get hlt, ← HM.out] at hrow
      have HROW := Lib.hid hrow
      have HS := Lib.hid (off_succ hlt)
      have hmax : k + (m + (rows.getD i []).length : Nat) ≤ 9223372036854775807 := by
        have := HL.out
        have := HM.out
        have := off_le rows (i + 1)
        have := off_succ hlt
        omega
      generalize (rows.getD i []).length = n2 at HROW HS hmax
      clear hrow
      have hge : ¬ k + m + n2 < 0 := by omega
      go_wp2_with fail
      refine (heldIntS_any _ B _ _ n2 HROW.out (by omega) (by omega)).mono ?_
      rintro e w2 ⟨rfl, rfl⟩
      go_wp2
      go_round
      case rel => exact ⟨i + 1, m + n2, by omega, by go_num, by go_num, Lib.hid (by rw [HS.out, HM.out])⟩
      case measure => simp [intOf]; omega
    · have HI := Lib.hid (show m = tot rows by rw [HM.out, show i = rows.length by omega, off_all])
      go_wp2
      go_ret
      exact ⟨congrArg (fun j : Nat => Ending.returned (.int .i64 (k + (j : Int)))) HI.out, rfl⟩
end Go.Proofs.YtahlicbjbbpihaaDoor
