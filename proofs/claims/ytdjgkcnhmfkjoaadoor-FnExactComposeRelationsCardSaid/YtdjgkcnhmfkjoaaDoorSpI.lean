/- Reduced lists, told by the program: leading indices, columns, unit rows. -/
import Derived.Test.YtdjgkcnhmfkjoaaDoorSpG
import Derived.Deep.MidRow
import Derived.ChangeKeysEq
import Derived.Laws.Tables
import Derived.Test.YtdjgkcnhmfkjoaaDoorFdWalks
namespace Go.Proofs.YtdjgkcnhmfkjoaaDoor
set_option maxRecDepth 100000
open Go Go.RowKit Go.Deep

/-! ### Whole arrays of 24 ints -/
abbrev tSR : TypeId := 74
theorem infoSR : (Tryd.prog.info? tSR).map (·.size) = some 24 := by kernel_rfl
theorem part_int {P : Program} (w : World) {e : TypeId} {k : IntKind} (he : P.underlying e = some (.int k)) {xs : List Int} {i : Nat} (hi : i < xs.length) :
    (part e (icells xs).toArray i).run P w = .ok (.int .i64 (xs.getD i 0)) w := by
  have hagg : (isAgg e).run P w = .ok false w := by
    unfold isAgg
    rw [Sem.run_bind, run_underlying he w]
    simp
  have hc : (icells xs).toArray[i]? = some (.int .i64 (xs.getD i 0)) := by rw [List.getElem?_toArray]; exact icells_get hi
  simp [part, Sem.run_bind, hagg, hc]
theorem run_eqItems_ints {P : Program} (w : World) (d : Nat) {e : TypeId} {k : IntKind} (he : P.underlying e = some (.int k)) (xs ys : List Int) : ∀ is : List Nat, (∀ i, i ∈ is → i < xs.length ∧ i < ys.length) →
    (Op.eqItems (d + 1) e 1 (icells xs).toArray (icells ys).toArray is).run P w = .ok (is.all fun i => xs.getD i 0 == ys.getD i 0) w
  | [], _ => by simp [Op.eqItems]
  | i :: is, h => by
    have h0 := h i (List.mem_cons_self ..)
    have ih := run_eqItems_ints w d he xs ys is (fun j hj => h j (List.mem_cons_of_mem _ hj))
    simp only [Op.eqItems, Sem.run_bind, Nat.mul_one, part_int w he h0.1, part_int w he h0.2, Result.andThen_ok, run_equalIn_int w d e .i64 k _ _ he]
    cases c : (xs.getD i 0 == ys.getD i 0)
    · simp only [List.all_cons, c, Bool.false_and, Bool.not_false, if_true]
      rfl
    · simp only [List.all_cons, c, Bool.true_and, Bool.not_true, Bool.false_eq_true, if_false]
      exact ih
theorem all_range_eq {xs ys : List Int} {n : Nat} (hx : xs.length = n) (hy : ys.length = n) : ((List.range n).all fun i => xs.getD i 0 == ys.getD i 0) = decide (xs = ys) := by
  rw [Bool.eq_iff_iff, List.all_eq_true, decide_eq_true_eq]
  constructor
  · intro h
    refine ext_getD 0 (by rw [hx, hy]) fun i hi => ?_
    have := h i (List.mem_range.2 (by omega))
    simpa using this
  · rintro rfl i _
    simp
theorem cellsI : Tryd.prog.cellsOf 3 = 1 := by kernel_rfl
/-- Two arrays of 24 ints compared. -/
theorem neq_small (w : World) (xs ys : List Int) (hx : xs.length = 24) (hy : ys.length = 24) :
    (binOp .neq tSR (.agg (icells xs).toArray) (.agg (icells ys).toArray)).run Tryd.prog w = .ok (.bool (!decide (xs = ys))) w := by
  obtain ⟨i0, hi0, -, -, -⟩ := info_parts infoI
  rw [run_neq_struct, show (10000 : Nat) = 9999 + 1 from rfl, run_equalIn_array w 9999 _ _ Tryd.underlying74 hi0, cellsI, show (9999 : Nat) = 9998 + 1 from rfl,
    run_eqItems_ints w 9998 Tryd.underlying3 xs ys _ (fun i hi => by have := List.mem_range.1 hi; omega), all_range_eq hx hy]
  rfl
/-! ### Leading indices -/
def leadI (xs : List Int) : Int := if lead0 xs < xs.length then (lead0 xs : Int) else -1
theorem nz_any (w : World) (x : Int) : Calls Tryd.prog 59 #[.int .i64 x] w fun e w' => e = .returned (.bool (x != 0)) ∧ w = w' := by
  go_enter Tryd.func59, Tryd.ntmps59
  go_wp2
  go_ret
  exact ⟨rfl, rfl⟩
set_option maxHeartbeats 400000 in
theorem indexFunc_any (w : World) (B : Nat) (v : Value) (xs : List Int) (hv : RdS w (fun b => b < B) v xs) (hl : xs.length ≤ 9223372036854775807) :
    Calls Tryd.prog 58 #[v, .func (.func 59) #[] #[]] w fun e w' => e = .returned (.int .i64 (leadI xs)) ∧ w = w' := by
  obtain ⟨A, c, rfl, kc_c, hv⟩ := hv
  have HV := Lib.hid hv
  clear hv
  go_enter Tryd.func58, Tryd.ntmps58
  go_wp2
  go_loop [8, 5] (fun i _ => ∃ k : Nat, k ≤ xs.length ∧ i = .int .i64 k ∧ Hid (∀ j, j < k → xs.getD j 0 = 0)) (fun i _ => xs.length - (intOf i).toNat)
  case atStart => exact ⟨0, Nat.zero_le _, rfl, Lib.hid (fun j hj => absurd hj (Nat.not_lt_zero j))⟩
  case round =>
    obtain ⟨k, hk, rfl, HZ⟩ := hrel
    by_cases hlt : k < xs.length
    · obtain ⟨b, o, rfl, hbB, hc⟩ := HV.out k hlt
      generalize hx : xs.getD k 0 = x at hc
      have HX := Lib.hid hx
      clear hx
      by_cases hz : x = 0
      · have HZ0 := Lib.hid hz
        have hq : (x != 0) = false := by simp [hz]
        have HQ := Lib.hid hq
        clear hz hq
        go_wp2_with fail
        refine (nz_any _ x).mono ?_
        rintro e w' ⟨rfl, rfl⟩
        rw [HQ.out]
        go_wp2
        go_round
        case rel => exact ⟨k + 1, by omega, by go_num, Lib.hid (fun j hj => by
          by_cases cj : j = k
          · rw [cj, HX.out]; exact HZ0.out
          · exact HZ.out j (by omega))⟩
        case measure => simp [intOf]; omega
      · have HQ := Lib.hid (show (x != 0) = true by simp [hz])
        have HL := Lib.hid (show leadI xs = (k : Int) by
          have e : lead0 xs = k := lead0_eq (by omega) (fun i hi => HZ.out i hi) (fun _ => by rw [HX.out]; exact hz)
          unfold leadI; rw [e, if_pos hlt])
        clear hz
        go_wp2_with fail
        refine (nz_any _ x).mono ?_
        rintro e w' ⟨rfl, rfl⟩
        rw [HQ.out]
        go_wp2
        go_ret
        rw [HL.out]
        exact ⟨rfl, rfl⟩
    · have HL := Lib.hid (show leadI xs = -1 by
        have e : lead0 xs = xs.length := lead0_eq (Nat.le_refl _) (fun i hi => HZ.out i (by omega)) (fun h => absurd h (Nat.lt_irrefl _))
        unfold leadI; rw [e, if_neg (Nat.lt_irrefl _)])
      go_wp2
      go_ret
      rw [HL.out]
      exact ⟨rfl, rfl⟩
theorem leadIdx_any (w : World) (B : Nat) (v : Value) (xs : List Int) (hv : RdS w (fun b => b < B) v xs) (hl : xs.length ≤ 9223372036854775807) :
    Calls Tryd.prog 41 #[v] w fun e w' => e = .returned (.int .i64 (leadI xs)) ∧ w = w' := by
  have HV := Lib.hid hv
  obtain ⟨A, c, rfl, kc_c, -⟩ := hv
  go_enter Tryd.func41, Tryd.ntmps41
  go_wp2_with fail
  refine (indexFunc_any _ B _ xs HV.out hl).mono ?_
  rintro e w' ⟨rfl, rfl⟩
  go_wp2
  go_ret
  exact ⟨rfl, rfl⟩
/-! ### Arrays of 24 ints in blocks -/
/-- Block b is an array of 24 ints. -/
def W24 (w : World) (b : Nat) (xs : List Int) : Prop := xs.length = 24 ∧ w.heap[b]? = some (.cells (icells xs).toArray tSR (0, 0))
theorem W24.lt {w : World} {b : Nat} {xs : List Int} (h : W24 w b xs) : b < w.heap.size := (Array.getElem?_eq_some_iff.1 h.2).1
theorem W24.blocks {w w' : World} {b : Nat} {xs : List Int} (h : W24 w b xs) (e : w'.heap[b]? = w.heap[b]?) : W24 w' b xs := ⟨h.1, e.trans h.2⟩
theorem W24.at {w : World} {b : Nat} {xs : List Int} (h : W24 w b xs) {i : Nat} (hi : i < 24) : w.cell? ⟨b, i, none⟩ = some (.int .i64 (xs.getD i 0)) ∧ w.frozen? ⟨b, i, none⟩ = false := by
  constructor
  · simp only [World.cell?, h.2]
    rw [List.getElem?_toArray]
    exact icells_get (by rw [h.1]; exact hi)
  · simp [World.frozen?, h.2]
theorem W24.set {w : World} {b : Nat} {xs : List Int} (h : W24 w b xs) (i : Nat) (u : Int) : W24 (w.setCell ⟨b, i, none⟩ (.int .i64 u)) b (xs.set i u) := by
  refine ⟨by rw [List.length_set]; exact h.1, ?_⟩
  rw [setCell_eq_setRow w b i _ _ _ _ h.2, setRow_heap _ _ _ _ _ _ h.2, ← icells_set]
  simp
theorem zero24l : ([.int .i64 0, .int .i64 0, .int .i64 0, .int .i64 0, .int .i64 0, .int .i64 0, .int .i64 0, .int .i64 0, .int .i64 0, .int .i64 0, .int .i64 0, .int .i64 0, .int .i64 0, .int .i64 0, .int .i64 0, .int .i64 0, .int .i64 0, .int .i64 0, .int .i64 0, .int .i64 0, .int .i64 0, .int .i64 0, .int .i64 0, .int .i64 0] : List Value) = icells (List.replicate 24 0) := rfl
theorem zero24 : (#[.int .i64 0, .int .i64 0, .int .i64 0, .int .i64 0, .int .i64 0, .int .i64 0, .int .i64 0, .int .i64 0, .int .i64 0, .int .i64 0, .int .i64 0, .int .i64 0, .int .i64 0, .int .i64 0, .int .i64 0, .int .i64 0, .int .i64 0, .int .i64 0, .int .i64 0, .int .i64 0, .int .i64 0, .int .i64 0, .int .i64 0, .int .i64 0] : Array Value) = (icells (List.replicate 24 0)).toArray := rfl
theorem w24_new (w : World) (b : Nat) (hb : b = w.heap.size) (xs : List Int) (hx : xs.length = 24) : W24 (w.alloc (.cells (icells xs).toArray tSR)) b xs := by
  subst hb
  exact ⟨hx, blk_alloc_new _ _⟩
theorem W24.setRow {w : World} {b : Nat} {xs ys : List Int} (h : W24 w b xs) (hy : ys.length = 24) : W24 (w.setRow b (icells ys).toArray) b ys := ⟨hy, setRow_heap _ _ _ _ _ _ h.2⟩
theorem below_setRow {B b : Nat} {w w' : World} (h : Below B w w') (hb : B ≤ b) (cs : Array Value) : Below B w (w'.setRow b cs) :=
  ⟨h.os, h.tape, h.output, by simpa using h.size, fun k hk => by rw [setRow_other _ _ _ _ (by omega)]; exact h.block k hk⟩
theorem icells_one (xs : List Int) : (icells xs).toArray.all (·.oneCell') = true := by
  rw [Array.all_eq_true_iff_forall_mem]
  intro x hx
  simp only [icells, List.mem_toArray, List.mem_map] at hx
  obtain ⟨y, -, rfl⟩ := hx
  rfl
/-! ### Columns and unit rows -/
def unitV (i : Nat) : List Int := (List.replicate 24 0).set i 1
theorem unitV_len (i : Nat) : (unitV i).length = 24 := by simp [unitV]
set_option maxHeartbeats 400000 in
theorem unitRow_any (w : World) (i : Nat) (hi : i < 24) : Calls Tryd.prog 68 #[.int .i64 i] w fun e w' => e = .returned (.agg (icells (unitV i)).toArray) ∧ Below w.heap.size w w' := by
  have hiI : (i : Int) < 24 := by omega
  go_enter Tryd.func68, Tryd.ntmps68
  go_upto_region 3 with fail
  rw [zero24, zero24l, icells_set]
  change Code.wp _ _ _ _ ((w.alloc (.cells (icells (List.replicate 24 0)).toArray tSR)).alloc (.cells (icells (unitV i)).toArray tSR))
  have HX := Lib.hid (show W24 ((w.alloc (.cells (icells (List.replicate 24 0)).toArray tSR)).alloc (.cells (icells (unitV i)).toArray tSR)) (w.heap.size + 1) (unitV i) from w24_new _ _ (by simp) _ (unitV_len i))
  have HR := Lib.hid (show W24 ((w.alloc (.cells (icells (List.replicate 24 0)).toArray tSR)).alloc (.cells (icells (unitV i)).toArray tSR)) w.heap.size (List.replicate 24 0) from (w24_new w _ rfl _ (by simp)).blocks (blk_alloc_lt _ _ _ (by simp)))
  have HB := Lib.hid (show Below w.heap.size w ((w.alloc (.cells (icells (List.replicate 24 0)).toArray tSR)).alloc (.cells (icells (unitV i)).toArray tSR)) from ((Below.refl _ _).alloc (Nat.le_refl _) _).alloc (by simp) _)
  generalize ((w.alloc (.cells (icells (List.replicate 24 0)).toArray tSR)).alloc (.cells (icells (unitV i)).toArray tSR)) = W at HX HR HB ⊢
  go_wp2_with (first | (refine wpList_load_row rfl tSR _ rfl _ rfl _ _ _ _ HX.out.2 Tryd.underlying74 rfl (by rw [infoSR]; simp [icells_len, unitV_len]) ?_) | (refine wpList_store_row rfl tSR _ _ rfl _ (icells (unitV i)).toArray rfl rfl _ _ HR.out.2 (by rw [infoSR]; simp [icells_len, unitV_len]) (by simp [icells_len, unitV_len]) (icells_one _) ?_))
  have HR2 := Lib.hid (HR.out.setRow (unitV_len i))
  refine bodyPost_ret (v := .agg (icells (unitV i)).toArray) (results_cell_row rfl _ _ _ _ _ _ _ rfl HR2.out.2 Tryd.underlying74 rfl (by rw [infoSR]; simp [icells_len, unitV_len])) rfl ?_
  exact ⟨rfl, below_setRow HB.out (Nat.le_refl _) _⟩
/-- The elements of the first k rows at an index. -/
def colK (rows : List (List Int)) (q : Nat) : Nat → List Int
  | 0 => List.replicate 24 0
  | k + 1 => (colK rows q k).set k (at2 rows k q)
theorem colK_len (rows : List (List Int)) (q : Nat) : ∀ k, (colK rows q k).length = 24
  | 0 => by simp [colK]
  | k + 1 => by unfold colK; rw [List.length_set, colK_len rows q k]
theorem colK_get {rows : List (List Int)} {q j : Nat} : ∀ {k : Nat}, k ≤ 24 → (colK rows q k).getD j 0 = if j < k then at2 rows j q else 0
  | 0, _ => by unfold colK; rw [repl_getD]; rfl
  | k + 1, h => by
    unfold colK
    rw [set_getD _ _ _ _ _ (by rw [colK_len]; omega), colK_get (by omega)]
    by_cases c : k = j
    · rw [if_pos c, if_pos (by omega), c]
    · rw [if_neg c]
      by_cases c2 : j < k
      · rw [if_pos c2, if_pos (by omega)]
      · rw [if_neg c2, if_neg (by omega)]
theorem unitV_get {i j : Nat} (hi : i < 24) : (unitV i).getD j 0 = if j = i then 1 else 0 := by
  unfold unitV
  rw [set_getD _ _ _ _ _ (by simpa using hi), repl_getD]
  by_cases c : i = j
  · rw [if_pos c, if_pos c.symm]
  · rw [if_neg c, if_neg (fun e => c e.symm)]
set_option maxHeartbeats 800000 in
theorem columnOf_any (w : World) (B : Nat) (v : Value) (rows : List (List Int)) (q : Nat) (hv : RdG w B v rows) (hB : B ≤ w.heap.size) (hn : rows.length ≤ 24) (hq : ∀ r, r < rows.length → q < (rows.getD r []).length) :
    Calls Tryd.prog 67 #[v, .int .i64 q] w fun e w' => e = .returned (.agg (icells (colK rows q rows.length)).toArray) ∧ Below w.heap.size w w' := by
  obtain ⟨A, cp, rfl⟩ := hv.len
  have HV := Lib.hid hv
  have HB := Lib.hid hB
  have HQ := Lib.hid hq
  clear hv hB hq
  go_enter Tryd.func67, Tryd.ntmps67
  go_upto_region 2 with fail
  rw [zero24]
  change Code.wp _ _ _ _ ((w.alloc (.cells (icells (List.replicate 24 0)).toArray tSR)).alloc (.cells (icells (List.replicate 24 0)).toArray tSR))
  have HX := Lib.hid (show W24 ((w.alloc (.cells (icells (List.replicate 24 0)).toArray tSR)).alloc (.cells (icells (List.replicate 24 0)).toArray tSR)) (w.heap.size + 1) (colK rows q 0) from w24_new _ _ (by simp) _ (by simp))
  have HR := Lib.hid (show W24 ((w.alloc (.cells (icells (List.replicate 24 0)).toArray tSR)).alloc (.cells (icells (List.replicate 24 0)).toArray tSR)) w.heap.size (List.replicate 24 0) from (w24_new w _ rfl _ (by simp)).blocks (blk_alloc_lt _ _ _ (by simp)))
  have HBB := Lib.hid (show Below w.heap.size w ((w.alloc (.cells (icells (List.replicate 24 0)).toArray tSR)).alloc (.cells (icells (List.replicate 24 0)).toArray tSR)) from ((Below.refl _ _).alloc (Nat.le_refl _) _).alloc (by simp) _)
  generalize ((w.alloc (.cells (icells (List.replicate 24 0)).toArray tSR)).alloc (.cells (icells (List.replicate 24 0)).toArray tSR)) = W at HX HR HBB ⊢
  go_wp2
  go_loopw [10, 6, 7] (fun i _ _ wr => ∃ k : Nat, k ≤ rows.length ∧ i = .int .i64 k ∧ Hid (Below w.heap.size w wr) ∧ Hid (W24 wr w.heap.size (List.replicate 24 0)) ∧ Hid (W24 wr (w.heap.size + 1) (colK rows q k))) (fun i _ _ _ => rows.length - (intOf i).toNat)
  case atStart => exact ⟨0, Nat.zero_le _, rfl, HBB, HR, HX⟩
  case round =>
    obtain ⟨k, hk, rfl, HB2, HR2, HX2⟩ := hrel
    by_cases hlt : k < rows.length
    · obtain ⟨b1, o1, A3, c3, rfl, hb1, hc1, hrd⟩ := (HV.out.below HB2.out HB.out).at hlt
      have hql := HQ.out k hlt
      have HN := Lib.hid (show colK rows q (k + 1) = (colK rows q k).set k ((rows.getD k []).getD q 0) from rfl)
      clear hb1
      generalize rows.getD k [] = xr at hc1 hrd hql HN
      obtain ⟨b5, o5, rfl, hb5, hc5⟩ := hrd.at hql
      have hqI : (q : Int) < (xr.length : Int) := by omega
      have hkI : (k : Int) < (rows.length : Int) := by omega
      have hk24 : (k : Int) < 24 := by omega
      obtain ⟨hx, hxf⟩ := HX2.out.at (i := k) (by omega)
      have HST := Lib.hid (HX2.out.set k (xr.getD q 0))
      clear hrd hb5
      generalize (colK rows q k).getD k 0 = u6 at hx
      generalize xr.getD q 0 = y at hc5 HN HST
      go_wp2
      go_roundw
      case rel => exact ⟨k + 1, by omega, by go_num, Lib.hid (HB2.out.setCell (by simp) _), Lib.hid (HR2.out.blocks (blk_setCell_other _ _ _ _ (by simp))), Lib.hid (by rw [HN.out]; exact HST.out)⟩
      case measure => simp [intOf]; omega
    · obtain rfl : k = rows.length := by omega
      go_wp2_with (first | (refine wpList_load_row rfl tSR _ rfl _ rfl _ _ _ _ HX2.out.2 Tryd.underlying74 rfl (by rw [infoSR]; simp [icells_len, colK_len]) ?_) | (refine wpList_store_row rfl tSR _ _ rfl _ (icells (colK rows q rows.length)).toArray rfl rfl _ _ HR2.out.2 (by rw [infoSR]; simp [icells_len, colK_len]) (by simp [icells_len, colK_len]) (icells_one _) ?_))
      have HR3 := Lib.hid (HR2.out.setRow (colK_len rows q rows.length))
      refine bodyPost_ret (v := .agg (icells (colK rows q rows.length)).toArray) (results_cell_row rfl _ _ _ _ _ _ _ rfl HR3.out.2 Tryd.underlying74 rfl (by rw [infoSR]; simp [icells_len, colK_len])) rfl ?_
      exact ⟨rfl, below_setRow HB2.out (Nat.le_refl _) _⟩
/-! ### Whether rows are a reduced list -/
def prevI (rows : List (List Int)) : Nat → Int
  | 0 => -1
  | k + 1 => leadI (rows.getD k [])
def redStep (rows : List (List Int)) (k : Nat) : Bool := decide (prevI rows k < leadI (rows.getD k [])) && decide (colK rows (leadI (rows.getD k [])).toNat rows.length = unitV k)
def redB (rows : List (List Int)) : Nat → Bool
  | 0 => true
  | k + 1 => redB rows k && redStep rows k
theorem redB_stop {rows : List (List Int)} {k : Nat} (h : redStep rows k = false) : ∀ n, k < n → redB rows n = false
  | 0, h0 => absurd h0 (Nat.not_lt_zero k)
  | n + 1, hn => by
    unfold redB
    by_cases c : k = n
    · rw [← c, h, Bool.and_false]
    · rw [redB_stop h n (by omega), Bool.false_and]
theorem leadI_ge (xs : List Int) : -1 ≤ leadI xs := by unfold leadI; split <;> omega
theorem leadI_lt (xs : List Int) : leadI xs < xs.length ∨ leadI xs = -1 := by
  unfold leadI
  split
  · left; omega
  · right; rfl
set_option maxHeartbeats 1600000 in
theorem isReduced_any (w : World) (B : Nat) (v : Value) (rows : List (List Int)) (c : Nat) (hv : RdG w B v rows) (hB : B ≤ w.heap.size) (hn : rows.length ≤ 24) (hc : c ≤ 24) (hr : ∀ r, r < rows.length → (rows.getD r []).length = c) :
    Calls Tryd.prog 51 #[v] w (SaysB w (redB rows rows.length)) := by
  obtain ⟨A, cp, rfl⟩ := hv.len
  have HV := Lib.hid hv
  have HB := Lib.hid hB
  have HR := Lib.hid hr
  clear hv hB hr
  go_enter Tryd.func51, Tryd.ntmps51
  go_wp2
  go_loopw [9, 3, 4, 5, 6] (fun i b _ _ _ wr => ∃ (k : Nat) (bi : Int), k ≤ rows.length ∧ i = .int .i64 k ∧ b = .int .i64 bi ∧ -1 ≤ bi ∧ bi < 24 ∧ Hid (bi = prevI rows k) ∧ Hid (redB rows k = true) ∧ Hid (Below w.heap.size w wr)) (fun i _ _ _ _ _ => rows.length - (intOf i).toNat)
  case atStart => exact ⟨0, -1, Nat.zero_le _, rfl, rfl, by omega, by omega, Lib.hid rfl, Lib.hid rfl, Lib.hid (Below.refl _ _)⟩
  case round =>
    obtain ⟨k, bi, hk, rfl, rfl, hb0, hb1, HBI, HRB, HB2⟩ := hrel
    by_cases hlt : k < rows.length
    · obtain ⟨b1, o1, A3, c3, rfl, hbb, hc1, hrd⟩ := (HV.out.below HB2.out HB.out).at hlt
      have HRD := Lib.hid hrd
      have hxl := HR.out k hlt
      have hge := leadI_ge (rows.getD k [])
      have hll := leadI_lt (rows.getD k [])
      have HPV := Lib.hid (show prevI rows (k + 1) = leadI (rows.getD k []) from rfl)
      have HST := Lib.hid (show redStep rows k = (decide (prevI rows k < leadI (rows.getD k [])) && decide (colK rows (leadI (rows.getD k [])).toNat rows.length = unitV k)) from rfl)
      have HNX := Lib.hid (show redB rows (k + 1) = (redB rows k && redStep rows k) from rfl)
      have HSTOP : Hid (redStep rows k = false → redB rows rows.length = false) := Lib.hid (fun h => redB_stop h _ hlt)
      have hBr : B ≤ wr.heap.size := Nat.le_trans HB.out HB2.out.size
      clear hrd hbb
      generalize hx : rows.getD k [] = xr at hc1 HRD hxl hge hll HPV HST
      clear hx
      have hx24 : xr.length ≤ 9223372036854775807 := by omega
      have HXL := Lib.hid hxl
      clear hxl
      have hkI : (k : Int) < (rows.length : Int) := by omega
      go_wp2_with fail
      refine (leadIdx_any _ B _ xr HRD.out hx24).mono ?_
      rintro e w' ⟨rfl, rfl⟩
      generalize hL : leadI xr = L at HPV HST hge hll
      have hL24 : L < 24 := by have := HXL.out; omega
      have hLc : 0 ≤ L → L < (c : Int) := by have := HXL.out; omega
      clear hL hll
      by_cases hle : L ≤ bi
      · have HF := Lib.hid (HSTOP.out (by rw [HST.out, ← HBI.out, show decide (bi < L) = false by simp; omega, Bool.false_and]))
        go_wp2
        go_ret
        rw [HF.out]
        exact ⟨rfl, HB2.out⟩
      · have hd : decide (L ≤ bi) = false := by simp; omega
        obtain ⟨q, rfl⟩ : ∃ q : Nat, L = q := ⟨L.toNat, by omega⟩
        have hqc : q < c := by have := hLc (by omega); omega
        rw [Int.toNat_natCast] at HST
        clear hLc
        go_wp2_with fail
        refine (columnOf_any wr B _ rows q (HV.out.below HB2.out HB.out) hBr hn (fun r h => by rw [HR.out r h]; exact hqc)).mono ?_
        rintro e w2 ⟨rfl, bb2⟩
        have HB3 := Lib.hid (HB2.out.trans (bb2.mono HB2.out.size))
        clear bb2
        go_wp2_with fail
        refine (unitRow_any w2 k (by omega)).mono ?_
        rintro e w3 ⟨rfl, bb3⟩
        have HB4 := Lib.hid (HB3.out.trans (bb3.mono HB3.out.size))
        clear bb3
        have HNE := Lib.hid (fun W : World => neq_small W (colK rows q rows.length) (unitV k) (colK_len _ _ _) (unitV_len k))
        by_cases heq : colK rows q rows.length = unitV k
        · have hne : ∀ W : World, (binOp .neq tSR (.agg (icells (colK rows q rows.length)).toArray) (.agg (icells (unitV k)).toArray)).run Tryd.prog W = .ok (.bool false) W := fun W => by rw [HNE.out W]; simp [heq]
          have HT := Lib.hid (show redB rows (k + 1) = true by rw [HNX.out, HRB.out, HST.out, ← HBI.out, show decide (bi < (q : Int)) = true by simp; omega]; simp [heq])
          clear heq
          generalize colK rows q rows.length = cl at hne
          generalize unitV k = uv at hne
          go_wp2
          go_roundw
          case rel => exact ⟨k + 1, q, by omega, by go_num, rfl, by omega, by omega, Lib.hid HPV.out.symm, HT, HB4⟩
          case measure => simp [intOf]; omega
        · have hne : ∀ W : World, (binOp .neq tSR (.agg (icells (colK rows q rows.length)).toArray) (.agg (icells (unitV k)).toArray)).run Tryd.prog W = .ok (.bool true) W := fun W => by rw [HNE.out W]; simp [heq]
          have HF := Lib.hid (HSTOP.out (by rw [HST.out, show decide (colK rows q rows.length = unitV k) = false by simpa using heq, Bool.and_false]))
          clear heq
          generalize colK rows q rows.length = cl at hne
          generalize unitV k = uv at hne
          go_wp2
          go_ret
          rw [HF.out]
          exact ⟨rfl, HB4.out⟩
    · obtain rfl : k = rows.length := by omega
      go_wp2
      go_ret
      rw [HRB.out]
      exact ⟨rfl, HB2.out⟩
theorem redB_all {rows : List (List Int)} : ∀ {n : Nat}, redB rows n = true ↔ ∀ k, k < n → redStep rows k = true
  | 0 => by simp [redB]
  | n + 1 => by
    unfold redB
    rw [Bool.and_eq_true, redB_all (n := n)]
    constructor
    · rintro ⟨h1, h2⟩ k hk
      by_cases c : k = n
      · rw [c]; exact h2
      · exact h1 k (by omega)
    · intro h
      exact ⟨fun k hk => h k (by omega), h n (by omega)⟩
theorem leadI_of {xs : List Int} (h : 0 ≤ leadI xs) : leadI xs = lead0 xs ∧ lead0 xs < xs.length := by
  unfold leadI at h ⊢
  split at h
  · rename_i h2; rw [if_pos h2]; exact ⟨rfl, h2⟩
  · omega
theorem leadI_pos {xs : List Int} (h : lead0 xs < xs.length) : leadI xs = lead0 xs := by unfold leadI; rw [if_pos h]
theorem redB_iff {p : Int} {n c : Nat} {rows : List (List Int)} (hm : Mat p n c rows) (hn : n ≤ 24) : redB rows n = true ↔ IsRed p n c rows := by
  have hl := hm.1
  have hrow : ∀ i, i < n → (rows.getD i []).length = c := fun i hi => (hm.row hi).1
  rw [redB_all]
  constructor
  · intro h
    have h1 : ∀ k, k < n → prevI rows k < leadI (rows.getD k []) := fun k hk => by
      have := h k hk
      unfold redStep at this
      simp only [Bool.and_eq_true, decide_eq_true_eq] at this
      exact this.1
    have hp : ∀ k, -1 ≤ prevI rows k := fun k => by
      cases k with
      | zero => exact Int.le_refl _
      | succ k => exact leadI_ge _
    have h2 : ∀ k, k < n → leadI (rows.getD k []) = lead0 (rows.getD k []) ∧ lead0 (rows.getD k []) < c := fun k hk => by
      have h3 := leadI_of (xs := rows.getD k []) (by have := h1 k hk; have := hp k; omega)
      rw [hrow k hk] at h3
      exact h3
    have h4 : ∀ k, k < n → colK rows (lead0 (rows.getD k [])) n = unitV k := fun k hk => by
      have := h k hk
      unfold redStep at this
      simp only [Bool.and_eq_true, decide_eq_true_eq] at this
      have h5 := this.2
      rw [(h2 k hk).1, Int.toNat_natCast, hl] at h5
      exact h5
    have h6 : ∀ d i, i + d + 1 < n → lead0 (rows.getD i []) < lead0 (rows.getD (i + d + 1) []) := by
      intro d
      induction d with
      | zero =>
        intro i hi
        have h7 := h1 (i + 1) hi
        have h8 := (h2 i (by omega)).1
        have h9 := (h2 (i + 1) hi).1
        have h10 : prevI rows (i + 1) = leadI (rows.getD i []) := rfl
        show lead0 (rows.getD i []) < lead0 (rows.getD (i + 1) [])
        omega
      | succ d ih =>
        intro i hi
        have h7 := ih i (by omega)
        have h8 := h1 (i + d + 1 + 1) (by omega)
        have h9 := (h2 (i + d + 1) (by omega)).1
        have h10 := (h2 (i + d + 1 + 1) (by omega)).1
        have h11 : prevI rows (i + d + 1 + 1) = leadI (rows.getD (i + d + 1) []) := rfl
        show lead0 (rows.getD i []) < lead0 (rows.getD (i + d + 1 + 1) [])
        omega
    refine ⟨hm, fun i hi => (h2 i hi).2, fun i j hij hj => ?_, fun i hi m hmn => ?_⟩
    · have := h6 (j - i - 1) i (by omega)
      rwa [show i + (j - i - 1) + 1 = j by omega] at this
    · have h7 : (colK rows (lead0 (rows.getD i [])) n).getD m 0 = (unitV i).getD m 0 := by rw [h4 i hi]
      rw [colK_get hn, if_pos hmn, unitV_get (by omega)] at h7
      exact h7
  · intro h k hk
    have h2 : ∀ i, i < n → leadI (rows.getD i []) = lead0 (rows.getD i []) := fun i hi => leadI_pos (by rw [hrow i hi]; exact h.lt i hi)
    unfold redStep
    rw [Bool.and_eq_true, decide_eq_true_eq, decide_eq_true_eq]
    constructor
    · cases k with
      | zero =>
        rw [h2 0 hk]
        show (-1 : Int) < _
        omega
      | succ k =>
        have h3 := h.rise k (k + 1) (by omega) hk
        show leadI (rows.getD k []) < _
        rw [h2 k (by omega), h2 (k + 1) hk]
        omega
    · rw [h2 k hk, Int.toNat_natCast, hl]
      refine ext_getD 0 (by rw [colK_len, unitV_len]) fun m hm24 => ?_
      rw [colK_len] at hm24
      rw [colK_get hn, unitV_get (by omega)]
      by_cases c1 : m < n
      · rw [if_pos c1]
        exact h.unit k hk m c1
      · rw [if_neg c1, if_neg (by omega)]
theorem redB_rref {p : Int} (hf : fld p = true) {n c : Nat} {rows : List (List Int)} (hm : Mat p n c rows) (hn : n ≤ 24) : redB rows n = decide (rref p rows c = rows) := by
  rw [Bool.eq_iff_iff, decide_eq_true_eq, rref_iff hf hm]
  exact redB_iff hm hn
set_option maxHeartbeats 1600000 in
theorem implIsSpace_any (w : World) (B : Nat) (v : Value) (p c : Int) (rows : List (List Int)) (ht : Tab w) (hv : LfG w B v rows) (hB : B ≤ w.heap.size) :
    Calls Tryd.prog 30 #[.int .i64 p, .agg #[.int .i64 c, v]] w (SaysB w (isSp p c rows)) := by
  obtain ⟨A, cp, rfl⟩ := hv.len
  have HVB := Lib.hid (show Below w.heap.size w (w.alloc (.cells #[.int .i64 c, .slice A rows.length cp] tSp)) from (Below.refl _ _).alloc (Nat.le_refl _) _)
  have HV := Lib.hid (hv.below HVB.out hB)
  have hB0 : B ≤ (w.alloc (.cells #[.int .i64 c, .slice A rows.length cp] tSp)).heap.size := Nat.le_trans hB HVB.out.size
  have HT := Lib.hid (show Tab (w.alloc (.cells #[.int .i64 c, .slice A rows.length cp] tSp)) from ht.below HVB.out)
  clear hv hB ht
  by_cases hlc : (rows.length : Int) ≤ c
  rotate_left
  · have HOK := Lib.hid (isSp_no (p := p) (c := c) (rows := rows) (by omega))
    have hd : decide ((rows.length : Int) ≤ c) = false := by simp; omega
    go_enter Tryd.func30, Tryd.ntmps30
    go_wp2
    go_ret
    rw [HOK.out]
    exact ⟨rfl, HVB.out⟩
  obtain ⟨m, rfl⟩ : ∃ m : Nat, c = m := ⟨c.toNat, by omega⟩
  by_cases hm24 : m ≤ 24
  rotate_left
  · have HOK := Lib.hid (isSp_no (p := p) (c := m) (rows := rows) (by omega))
    have hd : decide ((m : Int) ≤ 24) = false := by simp; omega
    have hd2 : decide (m ≤ 24) = false := by simp; omega
    go_enter Tryd.func30, Tryd.ntmps30
    go_wp2
    go_ret
    rw [HOK.out]
    exact ⟨rfl, HVB.out⟩
  have hmI : (m : Int) ≤ 24 := by omega
  cases hal : areL p m rows with
  | false =>
    have HAL := Lib.hid hal
    have HOK := Lib.hid (show isSp p m rows = false by
      refine isSp_no ?_
      cases hf : fld p with
      | false => exact Or.inl rfl
      | true =>
        rw [areL_rows _ _ _ hf] at hal
        exact Or.inr (Or.inr (Or.inr (Or.inr (Or.inl hal)))))
    clear hal
    go_enter Tryd.func30, Tryd.ntmps30
    go_wp2_with fail
    refine (areLists_any _ B _ p m rows HT.out HV.out.1 HV.out.2.1 HV.out.2.2).mono ?_
    rintro e w1 ⟨rfl, rfl⟩
    rw [HAL.out]
    go_wp2
    go_ret
    rw [HOK.out]
    exact ⟨rfl, HVB.out⟩
  | true =>
    have HAL := Lib.hid hal
    have hf : fld p = true := by
      cases hf : fld p with
      | true => rfl
      | false => unfold areL at hal; rw [hf] at hal; cases hal
    rw [areL_rows _ _ _ hf] at hal
    have HM := Lib.hid (rows_mat hal)
    have HOK := Lib.hid ((isSp_last hf hm24 (by omega) hal).trans (redB_rref hf (rows_mat hal) (by omega)).symm)
    have hn24 : rows.length ≤ 24 := by omega
    clear hal hf
    go_enter Tryd.func30, Tryd.ntmps30
    go_wp2_with fail
    refine (areLists_any _ B _ p m rows HT.out HV.out.1 HV.out.2.1 HV.out.2.2).mono ?_
    rintro e w1 ⟨rfl, rfl⟩
    rw [HAL.out]
    go_wp2_with fail
    refine (isReduced_any _ B _ rows m HV.out.1 hB0 hn24 hm24 (fun r hr => (HM.out.row hr).1)).mono ?_
    rintro e w2 ⟨rfl, b2⟩
    have HB2 := Lib.hid b2
    clear b2
    go_wp2
    go_ret
    rw [HOK.out]
    exact ⟨rfl, HVB.out.trans (HB2.out.mono HVB.out.size)⟩
end Go.Proofs.YtdjgkcnhmfkjoaaDoor
