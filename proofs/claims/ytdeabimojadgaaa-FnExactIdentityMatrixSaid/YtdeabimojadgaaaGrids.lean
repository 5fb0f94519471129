/- The laws' helpers on slices of ints and on slices of such: sizes, copies, comparisons, marks. -/
import Derived.Test.YtdeabimojadgaaaProg
import Derived.Test.YtdeabimojadgaaaHeap
import Derived.Test.YtdeabimojadgaaaInts
import Derived.Deep.OwnRows
namespace Go.Proofs.Ytdeabimojadgaaa
open Go Go.RowKit Go.Deep

abbrev tI : TypeId := 3
abbrev tR : TypeId := 36
theorem infoI : (Try.prog.info? 3).map (fun i => (i.zero, i.size, i.bytes)) = some (some (.int .i64 0), 1, 8) := by kernel_rfl
theorem infoR : (Try.prog.info? 36).map (fun i => (i.zero, i.size, i.bytes)) = some (some (.slice none 0 0), 1, 24) := by kernel_rfl
/-- make([]int, n) -/
theorem make_ints (n : Nat) (hn : n ≤ 1000000000) (w : World) : (Instr.makeSlice 36 (.int .i64 (n : Int)) (.int .i64 (n : Int))).run Try.prog w = .ok (.slice (some ⟨w.heap.size, 0, none⟩) n n) (w.alloc (.cells (madeCells #[.int .i64 0] n) 3)) :=
  run_make_row' 36 3 (.int .i64 0) 8 Try.underlying36 infoI rfl .i64 .i64 n (by omega) (by omega) w
/-- make([][]int, n) -/
theorem make_rows (n : Nat) (hn : n ≤ 1000000000) (w : World) : (Instr.makeSlice 22 (.int .i64 (n : Int)) (.int .i64 (n : Int))).run Try.prog w = .ok (.slice (some ⟨w.heap.size, 0, none⟩) n n) (w.alloc (.cells (madeCells #[.slice none 0 0] n) 36)) :=
  run_make_row' 22 36 (.slice none 0 0) 24 Try.underlying22 infoR rfl .i64 .i64 n (by omega) (by omega) w
theorem made_ints (w : World) (n : Nat) : CellsAt (w.alloc (.cells (madeCells #[.int .i64 0] n) 3)) w.heap.size tI (icells (List.replicate n 0)) := by
  have := cellsAt_new w (madeCells #[.int .i64 0] n) 3
  rw [toList_madeCells_one] at this
  simpa [icells] using this
theorem repl_getD' {α : Type} (n i : Nat) (z d : α) (h : i < n) : (List.replicate n z).getD i d = z := by
  rw [List.getD_eq_getElem?_getD]
  simp [h]
theorem made_grid (w : World) (n : Nat) (S : Nat → Prop) (hs : S w.heap.size) : GridAt (w.alloc (.cells (madeCells #[.slice none 0 0] n) 36)) tI tR S w.heap.size (List.replicate n (.slice none 0 0)) (List.replicate n []) := by
  have := cellsAt_new w (madeCells #[.slice none 0 0] n) 36
  rw [toList_madeCells_one] at this
  refine ⟨this, hs, by simp, fun r hr => ?_, fun r hr hx => ?_, fun r s hr hs _ hx => ?_⟩
  · rw [List.length_replicate] at hr
    rw [repl_getD' _ _ _ _ hr, repl_getD' _ _ _ _ hr]
    exact OwR.nil none 0
  · rw [List.length_replicate] at hr
    rw [repl_getD' _ _ _ _ hr] at hx
    exact absurd rfl hx
  · rw [List.length_replicate] at hr
    rw [repl_getD' _ _ _ _ hr] at hx
    exact absurd rfl hx

/-- The call made a row of its own of the ints xs, and changed nothing that was there. -/
def MadeR (w : World) (xs : List Int) (e : Ending) (w' : World) : Prop := ∃ v, e = .returned v ∧ Below w.heap.size w w' ∧ OwR w' tI (fun b => w.heap.size ≤ b) v xs
def MadeG (w : World) (rows : List (List Int)) (e : Ending) (w' : World) : Prop := ∃ v, e = .returned v ∧ Below w.heap.size w w' ∧ OwG w' tI tR (fun b => w.heap.size ≤ b) v rows

theorem mapIdx_const_getD (n : Nat) (xs : List Int) (h : n = xs.length) : (List.replicate n (0 : Int)).mapIdx (fun j _ => xs.getD j 0) = xs := by
  subst h
  refine ext_getD 0 (by simp) fun i hi => ?_
  rw [List.length_mapIdx] at hi
  rw [mapIdx_getD _ _ _ hi 0]

/-- How many ints the rows hold. -/
def tot (rows : List (List Int)) : Nat := (rows.map List.length).sum
def off (rows : List (List Int)) (j : Nat) : Nat := tot (rows.take j)
theorem off_zero (rows : List (List Int)) : off rows 0 = 0 := by simp [off, tot]
theorem off_all (rows : List (List Int)) : off rows rows.length = tot rows := by simp [off]
theorem off_succ {rows : List (List Int)} {j : Nat} (h : j < rows.length) : off rows (j + 1) = off rows j + (rows.getD j []).length := by
  unfold off tot
  rw [List.take_add_one, List.getElem?_eq_getElem h, List.getD_eq_getElem?_getD, List.getElem?_eq_getElem h, List.map_append, List.sum_append]
  simp
theorem off_le (rows : List (List Int)) : ∀ j, off rows j ≤ tot rows := by
  intro j
  have h : tot rows = off rows j + tot (rows.drop j) := by
    unfold off tot
    rw [← List.sum_append, ← List.map_append, List.take_append_drop]
  omega
theorem row_le {rows : List (List Int)} {j : Nat} (h : j < rows.length) : (rows.getD j []).length ≤ tot rows := by
  have := off_succ h
  have := off_le rows (j + 1)
  omega

theorem tot_const {rows : List (List Int)} {c : Nat} (h : ∀ r, r ∈ rows → r.length = c) : tot rows = rows.length * c := by
  induction rows with
  | nil => simp [tot]
  | cons r rs ih =>
    have h1 := ih (fun x hx => h x (List.mem_cons_of_mem _ hx))
    have h2 := h r (List.mem_cons_self)
    simp only [tot, List.map_cons, List.sum_cons, List.length_cons] at h1 ⊢
    rw [h1, h2, Nat.succ_mul, Nat.add_comm]

def szI (left : Int) (n : Nat) : Int := if left < n then -1 else left - n
/-- Too many, or as many fewer as there are rows and ints. -/
def SzRet (left : Int) (rows : List (List Int)) (w : World) (e : Ending) (w' : World) : Prop := w = w' ∧ (e = .returned (.int .i64 (-1)) ∨ (((rows.length + tot rows : Nat) : Int) ≤ left ∧ e = .returned (.int .i64 (left - (rows.length + tot rows : Nat)))))
set_option maxHeartbeats 400000 in
theorem eqIntSS_any (w : World) (B : Nat) (va vb : Value) (xs ys : List (List Int)) (ha : RdG w B va xs) (hb : RdG w B vb ys) (hl : xs.length ≤ 9223372036854775807) (hr : ∀ r, r < xs.length → (xs.getD r []).length ≤ 9223372036854775807) :
    Calls Try.prog 12 #[va, vb] w fun e w' => e = .returned (.bool (decide (xs = ys))) ∧ ∃ n, w' = w.drewN n := by
  obtain ⟨A, c, rfl, ha⟩ := ha
  obtain ⟨A', c', rfl, hb⟩ := hb
  have HA := Lib.hid ha
  have HB := Lib.hid hb
  have HR := Lib.hid hr
  clear ha hb hr
  by_cases hlen : xs.length = ys.length
  · have HL := Lib.hid hlen
    have hbl : (xs.length != ys.length) = false := by simp [hlen]
    have hbl2 : ((xs.length : Int) != (ys.length : Int)) = false := by simp [hlen]
    clear hlen
    go_enter Try.func12, Try.ntmps12
    go_wp2
    go_loopw [5] (fun i wr => ∃ k : Nat, k ≤ xs.length ∧ i = .int .i64 k ∧ Hid (∃ n, wr = w.drewN n) ∧ Hid (∀ j, j < k → xs.getD j [] = ys.getD j [])) (fun i _ => xs.length - (intOf i).toNat)
    case atStart => exact ⟨0, Nat.zero_le _, rfl, Lib.hid ⟨0, rfl⟩, Lib.hid (fun j h => absurd h (Nat.not_lt_zero j))⟩
    case round =>
      obtain ⟨k, hk, rfl, HD, HT⟩ := hrel
      by_cases hlt : k < xs.length
      · have hlt2 : k < ys.length := by have := HL.out; omega
        obtain ⟨b, o, u, rfl, hbl3, hc0, r1⟩ := HA.out k hlt
        obtain ⟨b', o', u', rfl, hbl4, hc0', r2⟩ := HB.out k hlt2
        have hc : wr.cell? ⟨b, o + k, none⟩ = some u := by obtain ⟨n, rfl⟩ := HD.out; exact hc0
        have hc' : wr.cell? ⟨b', o' + k, none⟩ = some u' := by obtain ⟨n, rfl⟩ := HD.out; exact hc0'
        replace r1 : RdS wr (fun b => b < B) u (xs.getD k []) := by obtain ⟨n, rfl⟩ := HD.out; exact r1
        replace r2 : RdS wr (fun b => b < B) u' (ys.getD k []) := by obtain ⟨n, rfl⟩ := HD.out; exact r2
        clear hc0 hc0'
        have HR1 := Lib.hid r1
        have HR2 := Lib.hid r2
        have HRL := Lib.hid (HR.out k hlt)
        clear r1 r2
        have i1 : (k : Int) < xs.length := by omega
        have i2 : (k : Int) < ys.length := by omega
        have hq : ∀ m, Calls Try.prog 17 #[u, u'] (wr.drewN m) fun e w' => e = .returned (.bool (decide (xs.getD k [] = ys.getD k []))) ∧ ∃ n, w' = (wr.drewN m).drewN n := fun m => eqIntS_any _ B _ _ _ _ HR1.out HR2.out HRL.out
        by_cases hxy : xs.getD k [] = ys.getD k []
        · have HXY := Lib.hid hxy
          have hd : decide (xs.getD k [] = ys.getD k []) = true := decide_eq_true hxy
          rw [hd] at hq
          have HQ := Lib.hid hq
          clear hd hq hxy
          go_wp2
          go_quiet ((go_at_call 17; exact Calls.quiet_of (HQ.out _)))
          go_wp2
          go_roundw
          case rel => exact ⟨k + 1, by omega, by go_num, Lib.hid (by obtain ⟨n, rfl⟩ := HD.out; exact ⟨_, World.drewN_drewN _ _ _⟩), Lib.hid (fun j hj => by
            by_cases c1 : j = k
            · rw [c1]; exact HXY.out
            · exact HT.out j (by omega))⟩
          case measure => simp [intOf]; omega
        · have hd : decide (xs.getD k [] = ys.getD k []) = false := decide_eq_false hxy
          rw [hd] at hq
          have HN := Lib.hid (show decide (xs = ys) = false by
            simp only [decide_eq_false_iff_not]
            intro h
            exact hxy (by rw [h]))
          have HQ := Lib.hid hq
          clear hd hq hxy
          go_wp2
          go_quiet ((go_at_call 17; exact Calls.quiet_of (HQ.out _)))
          go_wp2
          go_ret
          rw [HN.out]
          obtain ⟨n, rfl⟩ := HD.out
          exact ⟨rfl, _, World.drewN_drewN _ _ _⟩
      · have HE := Lib.hid (show decide (xs = ys) = true by
          simp only [decide_eq_true_eq]
          exact ext_getD [] HL.out (fun i hi => HT.out i (by omega)))
        go_wp2
        go_ret
        rw [HE.out]
        exact ⟨rfl, HD.out⟩
  · have HN := Lib.hid (show decide (xs = ys) = false by simp only [decide_eq_false_iff_not]; intro h; exact hlen (by rw [h]))
    have hbl : (xs.length != ys.length) = true := by simp [hlen]
    have hbl2 : ((xs.length : Int) != (ys.length : Int)) = true := by simp; omega
    clear hlen
    go_enter Try.func12, Try.ntmps12
    go_wp2
    go_ret
    rw [HN.out]
    exact ⟨rfl, 0, rfl⟩
end Go.Proofs.Ytdeabimojadgaaa
