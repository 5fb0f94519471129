/- The laws' helpers on slices of ints and on slices of such: sizes, copies, comparisons, marks. -/
import Derived.Test.YtahlicbjbbpihaaDoorProg
import Derived.Test.YtahlicbjbbpihaaDoorHeap
import Derived.Test.YtahlicbjbbpihaaDoorInts
import Derived.Deep.OwnRows
namespace Go.Proofs.YtahlicbjbbpihaaDoor
set_option maxRecDepth 100000
open Go Go.RowKit Go.Deep

abbrev tI : TypeId := 3
abbrev tR : TypeId := 33
theorem infoI : (Tryd.prog.info? 3).map (fun i => (i.zero, i.size, i.bytes)) = some (some (.int .i64 0), 1, 8) := by kernel_rfl
theorem infoR : (Tryd.prog.info? 33).map (fun i => (i.zero, i.size, i.bytes)) = some (some (.slice none 0 0), 1, 24) := by kernel_rfl
/-- make([]int, n) -/
theorem make_ints (n : Nat) (hn : n ≤ 1000000000) (w : World) : (Instr.makeSlice 33 (.int .i64 (n : Int)) (.int .i64 (n : Int))).run Tryd.prog w = .ok (.slice (some ⟨w.heap.size, 0, none⟩) n n) (w.alloc (.cells (madeCells #[.int .i64 0] n) 3)) :=
  run_make_row' 33 3 (.int .i64 0) 8 Tryd.underlying33 infoI rfl .i64 .i64 n (by omega) (by omega) w
/-- make([][]int, n) -/
theorem make_rows (n : Nat) (hn : n ≤ 1000000000) (w : World) : (Instr.makeSlice 22 (.int .i64 (n : Int)) (.int .i64 (n : Int))).run Tryd.prog w = .ok (.slice (some ⟨w.heap.size, 0, none⟩) n n) (w.alloc (.cells (madeCells #[.slice none 0 0] n) 33)) :=
  run_make_row' 22 33 (.slice none 0 0) 24 Tryd.underlying22 infoR rfl .i64 .i64 n (by omega) (by omega) w
theorem made_ints (w : World) (n : Nat) : CellsAt (w.alloc (.cells (madeCells #[.int .i64 0] n) 3)) w.heap.size tI (icells (List.replicate n 0)) := by
  have := cellsAt_new w (madeCells #[.int .i64 0] n) 3
  rw [toList_madeCells_one] at this
  simpa [icells] using this
theorem repl_getD' {α : Type} (n i : Nat) (z d : α) (h : i < n) : (List.replicate n z).getD i d = z := by
  rw [List.getD_eq_getElem?_getD]
  simp [h]
theorem made_grid (w : World) (n : Nat) (S : Nat → Prop) (hs : S w.heap.size) : GridAt (w.alloc (.cells (madeCells #[.slice none 0 0] n) 33)) tI tR S w.heap.size (List.replicate n (.slice none 0 0)) (List.replicate n []) := by
  have := cellsAt_new w (madeCells #[.slice none 0 0] n) 33
  rw [toList_madeCells_one] at this
  refine ⟨this, hs, by simp, fun r hr => ?_, fun r hr hx => ?_, fun r s hr hs _ hx => ?_⟩
  · rw [List.length_replicate] at hr
    rw [repl_getD' _ _ _ _ hr, repl_getD' _ _ _ _ hr]
    exact OwR.nil none 0
  · rw [List.length_replicate] at hr
    rw [repl_getD' _ _ _ _ hr] at hx
    exact absurd rfl hx
  · rw [List.length_replicate] at hr
    rw [repl_getD' _ _ _ _ hr] at hx
    exact absurd rfl hx

/-- The call made a row of its own of the ints xs, and changed nothing that was there. -/
def MadeR (w : World) (xs : List Int) (e : Ending) (w' : World) : Prop := ∃ v, e = .returned v ∧ Below w.heap.size w w' ∧ OwR w' tI (fun b => w.heap.size ≤ b) v xs
def MadeG (w : World) (rows : List (List Int)) (e : Ending) (w' : World) : Prop := ∃ v, e = .returned v ∧ Below w.heap.size w w' ∧ OwG w' tI tR (fun b => w.heap.size ≤ b) v rows

theorem mapIdx_const_getD (n : Nat) (xs : List Int) (h : n = xs.length) : (List.replicate n (0 : Int)).mapIdx (fun j _ => xs.getD j 0) = xs := by
  subst h
  refine ext_getD 0 (by simp) fun i hi => ?_
  rw [List.length_mapIdx] at hi
  rw [mapIdx_getD _ _ _ hi 0]

set_option maxHeartbeats 400000 in
theorem toIntS_any (w : World) (B : Nat) (v : Value) (xs : List Int) (hv : RdS w (fun b => b < B) v xs) (hB : B ≤ w.heap.size) (hl : xs.length ≤ 1000000000) :
    Calls Tryd.prog 25 #[v] w (MadeR w xs) := by
  obtain ⟨A, c, rfl, hv⟩ := hv
  have hmk := make_ints xs.length hl
  have HV := Lib.hid hv
  have HB := Lib.hid hB
  clear hv hB
  go_enter Tryd.func25, Tryd.ntmps25
  go_wp2
  go_loopw [4] (fun i wr => ∃ k : Nat, k ≤ xs.length ∧ i = .int .i64 k ∧ Below w.heap.size w wr ∧ Hid (CellsAt wr w.heap.size tI (icells (upd (fun j _ => xs.getD j 0) k (List.replicate xs.length 0))))) (fun i _ => xs.length - (intOf i).toNat)
  case atStart => exact ⟨0, Nat.zero_le _, rfl, (Below.refl _ _).alloc (Nat.le_refl _) _, Lib.hid (by rw [upd_zero]; exact made_ints w _)⟩
  case round =>
    obtain ⟨k, hk, rfl, hb, HC⟩ := hrel
    by_cases hlt : k < xs.length
    · obtain ⟨b, o, rfl, hbB, hcell⟩ := HV.out k hlt
      have hbN : b < w.heap.size := Nat.lt_of_lt_of_le hbB HB.out
      have hcell2 := (hb.cell (p := ⟨b, o + k, none⟩) hbN).trans hcell
      have HLN := Lib.hid (show k < (icells (upd (fun j _ => xs.getD j 0) k (List.replicate xs.length 0))).length by rw [icells_len, upd_len, List.length_replicate]; exact hlt)
      have hc := (HC.out.cell HLN.out).trans (getD_some HLN.out (.int .i64 0))
      have hf := HC.out.frozen k
      have HST := Lib.hid (HC.out.set k (.int .i64 (xs.getD k 0)))
      generalize hz : xs.getD k 0 = z at hcell hcell2 HST
      have HZ := Lib.hid hz
      clear hz hcell
      generalize (icells (upd (fun j _ => xs.getD j 0) k (List.replicate xs.length 0))).getD k (.int .i64 0) = u at hc
      go_wp2
      go_roundw
      case rel => exact ⟨k + 1, by omega, by go_num, hb.setCell (Nat.le_refl _) _, Lib.hid (by
        have := HST.out
        rw [icells_set, ← HZ.out, upd_step (fun j _ => xs.getD j 0) (by rw [List.length_replicate]; exact hlt) 0] at this
        rw [← HZ.out]
        exact this)⟩
      case measure => simp [intOf]; omega
    · go_wp2
      go_ret
      refine ⟨_, rfl, hb, owR_at (Nat.le_refl _) ?_ rfl⟩
      have := HC.out
      rw [upd_all _ (by rw [List.length_replicate]; omega), mapIdx_const_getD _ _ rfl] at this
      exact this

set_option maxHeartbeats 400000 in
theorem toIntSS_any (w : World) (B : Nat) (v : Value) (rows : List (List Int)) (hv : RdG w B v rows) (hB : B ≤ w.heap.size) (hl : rows.length ≤ 1000000000) (hr : ∀ r, r < rows.length → (rows.getD r []).length ≤ 1000000000) :
    Calls Tryd.prog 60 #[v] w (MadeG w rows) := by
  obtain ⟨A, c, rfl, hv⟩ := hv
  have hmk := make_rows rows.length hl
  have HV := Lib.hid hv
  have HB := Lib.hid hB
  have HR := Lib.hid hr
  clear hv hB hr
  go_enter Tryd.func60, Tryd.ntmps60
  go_wp2
  go_loopw [4] (fun i wr => ∃ (k : Nat) (vs : List Value), k ≤ rows.length ∧ i = .int .i64 k ∧ Below w.heap.size w wr ∧ Hid (w.heap.size < wr.heap.size) ∧ Hid (GridAt wr tI tR (fun b => w.heap.size ≤ b) w.heap.size vs (upd (fun j _ => rows.getD j []) k (List.replicate rows.length [])))) (fun i _ => rows.length - (intOf i).toNat)
  case atStart => exact ⟨0, _, Nat.zero_le _, rfl, (Below.refl _ _).alloc (Nat.le_refl _) _, Lib.hid (by rw [nblk_alloc]; omega), Lib.hid (by rw [upd_zero]; exact made_grid w _ _ (Nat.le_refl _))⟩
  case round =>
    obtain ⟨k, vs, hk, rfl, hb, HS, HC⟩ := hrel
    by_cases hlt : k < rows.length
    · obtain ⟨b, o, u, rfl, hbB, hcell, hrow⟩ := HV.out k hlt
      have HROW := Lib.hid (hrow.below hb HB.out)
      have hbN : b < w.heap.size := Nat.lt_of_lt_of_le hbB HB.out
      have hcell2 := (hb.cell (p := ⟨b, o + k, none⟩) hbN).trans hcell
      have HBB := Lib.hid (Nat.le_trans HB.out hb.size)
      have HLN := Lib.hid (show (upd (fun j _ => rows.getD j []) k (List.replicate rows.length [])).length = rows.length by rw [upd_len, List.length_replicate])
      have hrl := HR.out k hlt
      clear hrow hcell hbB
      generalize hx : rows.getD k [] = xk at HROW hrl
      have HRL := Lib.hid hrl
      have HX := Lib.hid hx
      clear hx hrl
      go_wp2_with fail
      refine (toIntS_any _ B _ _ HROW.out HBB.out HRL.out).mono ?_
      rintro e w2 ⟨v2, rfl, b2, o2⟩
      have HO2 := Lib.hid o2
      have HB2 := Lib.hid b2
      have hb3 := hb.trans (b2.mono hb.size)
      have HG3 := Lib.hid ((HC.out.mono (T := fun b => w.heap.size ≤ b ∧ b < wr.heap.size) (fun q h1 h2 => ⟨h1, h2⟩)).blocks (w' := w2) (fun k hk _ => b2.block k hk.2))
      obtain ⟨A2, c2, rfl⟩ := o2.len
      clear o2 b2
      have hc := HG3.out.cell (by rw [HLN.out]; exact hlt)
      have hf := HG3.out.outer.frozen k
      have HP := Lib.hid (HG3.out.put (by rw [HLN.out]; exact hlt) HO2.out (fun q h1 h2 => by omega))
      have HS3 := Lib.hid (Nat.lt_of_lt_of_le HS.out HB2.out.size)
      generalize vs.getD k Value.nilFunc = u2 at hc
      go_wp2
      go_roundw
      case rel => exact ⟨k + 1, _, by omega, by go_num, hb3.setCell (Nat.le_refl _) _, Lib.hid (by rw [nblk_setCell]; exact HS3.out), Lib.hid (by
        have := HP.out
        rw [← HX.out] at this
        rw [upd_step (fun j _ => rows.getD j []) (by rw [List.length_replicate]; exact hlt) []] at this
        rw [HX.out] at this
        exact this.mono (T := fun b => w.heap.size ≤ b) (fun q h _ => by have := HB2.out.size; have := hb.size; omega))⟩
      case measure => simp [intOf]; omega
    · go_wp2
      go_ret
      refine ⟨_, rfl, hb, _, _, rfl, Or.inr ⟨_, vs, rfl, ?_⟩⟩
      have := HC.out
      rw [upd_all _ (by rw [List.length_replicate]; omega)] at this
      have e : (List.replicate rows.length ([] : List Int)).mapIdx (fun j _ => rows.getD j []) = rows := ext_getD [] (by simp) fun i hi => by
        rw [List.length_mapIdx] at hi
        rw [mapIdx_getD _ _ _ hi []]
      rw [e] at this
      exact this

/-- How many ints the rows hold. -/
def tot (rows : List (List Int)) : Nat := (rows.map List.length).sum
def off (rows : List (List Int)) (j : Nat) : Nat := tot (rows.take j)
theorem off_zero (rows : List (List Int)) : off rows 0 = 0 := by simp [off, tot]
theorem off_all (rows : List (List Int)) : off rows rows.length = tot rows := by simp [off]
theorem off_succ {rows : List (List Int)} {j : Nat} (h : j < rows.length) : off rows (j + 1) = off rows j + (rows.getD j []).length := by
  unfold off tot
  rw [List.take_add_one, List.getElem?_eq_getElem h, List.getD_eq_getElem?_getD, List.getElem?_eq_getElem h, List.map_append, List.sum_append]
  simp
theorem off_le (rows : List (List Int)) : ∀ j, off rows j ≤ tot rows := by
  intro j
  have h : tot rows = off rows j + tot (rows.drop j) := by
    unfold off tot
    rw [← List.sum_append, ← List.map_append, List.take_append_drop]
  omega
theorem row_le {rows : List (List Int)} {j : Nat} (h : j < rows.length) : (rows.getD j []).length ≤ tot rows := by
  have := off_succ h
  have := off_le rows (j + 1)
  omega

theorem tot_const {rows : List (List Int)} {c : Nat} (h : ∀ r, r ∈ rows → r.length = c) : tot rows = rows.length * c := by
  induction rows with
  | nil => simp [tot]
  | cons r rs ih =>
    have h1 := ih (fun x hx => h x (List.mem_cons_of_mem _ hx))
    have h2 := h r (List.mem_cons_self)
    simp only [tot, List.map_cons, List.sum_cons, List.length_cons] at h1 ⊢
    rw [h1, h2, Nat.succ_mul, Nat.add_comm]

def szI (left : Int) (n : Nat) : Int := if left < n then -1 else left - n
theorem szIntS_any (w : World) (A : Option Addr) (n c : Nat) (left : Int) (h0 : 0 ≤ left) (h1 : left ≤ 1000000000) (hn : n ≤ 9223372036854775807) :
    Calls Tryd.prog 104 #[.slice A n c, .int .i64 left] w fun e w' => e = .returned (.int .i64 (szI left n)) ∧ w = w' := by
  by_cases h : left < n
  · have H := Lib.hid (show szI left n = -1 by unfold szI; rw [if_pos h])
    go_enter Tryd.func104, Tryd.ntmps104
    go_wp2
    go_ret
    rw [H.out]
    exact ⟨rfl, rfl⟩
  · have H := Lib.hid (show szI left n = left - n by unfold szI; rw [if_neg h])
    go_enter Tryd.func104, Tryd.ntmps104
    go_wp2
    go_ret
    rw [H.out]
    exact ⟨rfl, rfl⟩
/-- Too many, or as many fewer as there are rows and ints. -/
def SzRet (left : Int) (rows : List (List Int)) (w : World) (e : Ending) (w' : World) : Prop := w = w' ∧ (e = .returned (.int .i64 (-1)) ∨ (((rows.length + tot rows : Nat) : Int) ≤ left ∧ e = .returned (.int .i64 (left - (rows.length + tot rows : Nat)))))
set_option maxHeartbeats 400000 in
theorem szIntSS_any (w : World) (B : Nat) (v : Value) (rows : List (List Int)) (left : Int) (hv : RdG w B v rows) (h0 : 0 ≤ left) (h1 : left ≤ 1000000000) (hn : rows.length ≤ 9223372036854775807) (hr : ∀ r, r < rows.length → (rows.getD r []).length ≤ 9223372036854775807) :
    Calls Tryd.prog 56 #[v, .int .i64 left] w (SzRet left rows w) := by
  obtain ⟨A, c, rfl, hv⟩ := hv
  have HV := Lib.hid hv
  have HR := Lib.hid hr
  clear hv hr
  by_cases h : left < rows.length
  · go_enter Tryd.func56, Tryd.ntmps56
    go_wp2
    go_ret
    exact ⟨rfl, Or.inl rfl⟩
  · go_enter Tryd.func56, Tryd.ntmps56
    go_wp2
    go_loop [1, 5] (fun t i => ∃ k m : Nat, k ≤ rows.length ∧ i = .int .i64 k ∧ t = .int .i64 (left - rows.length - m) ∧ (m : Int) ≤ left - rows.length ∧ Hid (m = off rows k)) (fun _ i => rows.length - (intOf i).toNat)
    case atStart => exact ⟨0, 0, Nat.zero_le _, rfl, by go_num, by omega, Lib.hid (off_zero rows).symm⟩
    case round =>
      obtain ⟨k, m, hk, rfl, rfl, hm, HM⟩ := hrel
      by_cases hlt : k < rows.length
      · obtain ⟨b, o, u, rfl, hbB, hcell, hrow⟩ := HV.out k hlt
        have hrl := HR.out k hlt
        obtain ⟨A2, c2, rfl, _⟩ := hrow
        have HO := Lib.hid (off_succ hlt)
        generalize (rows.getD k []).length = n2 at hcell hrl HO
        by_cases h2 : left - rows.length - m < n2
        · have HE := Lib.hid (show szI (left - rows.length - m) n2 = -1 by unfold szI; rw [if_pos h2])
          go_wp2_with fail
          refine (szIntS_any _ _ _ _ _ (by omega) (by omega) hrl).mono ?_
          rintro e w2 ⟨rfl, rfl⟩
          rw [HE.out]
          go_wp2
          go_ret
          exact ⟨rfl, Or.inl rfl⟩
        · have HE := Lib.hid (show szI (left - rows.length - m) n2 = left - rows.length - m - n2 by unfold szI; rw [if_neg h2])
          go_wp2_with fail
          refine (szIntS_any _ _ _ _ _ (by omega) (by omega) hrl).mono ?_
          rintro e w2 ⟨rfl, rfl⟩
          rw [HE.out]
          go_wp2
          go_round
          case rel => exact ⟨k + 1, m + n2, by omega, by go_num, by congr 1; omega, by omega, Lib.hid (by rw [HO.out, HM.out])⟩
          case measure => simp [intOf]; omega
      · have HE := Lib.hid (show off rows k = tot rows by rw [show k = rows.length by omega, off_all])
        go_wp2
        go_ret
        refine ⟨rfl, Or.inr ⟨?_, ?_⟩⟩
        · have := HM.out
          have := HE.out
          omega
        · have h3 := HM.out
          rw [HE.out] at h3
          have e : left - (rows.length : Int) - m = left - ((rows.length + tot rows : Nat) : Int) := by omega
          exact congrArg (fun z => Ending.returned (.int .i64 z)) e

set_option maxHeartbeats 400000 in
theorem eqIntSS_any (w : World) (B : Nat) (va vb : Value) (xs ys : List (List Int)) (ha : RdG w B va xs) (hb : RdG w B vb ys) (hl : xs.length ≤ 9223372036854775807) (hr : ∀ r, r < xs.length → (xs.getD r []).length ≤ 9223372036854775807) :
    Calls Tryd.prog 63 #[va, vb] w fun e w' => e = .returned (.bool (decide (xs = ys))) ∧ ∃ n, w' = w.drewN n := by
  obtain ⟨A, c, rfl, ha⟩ := ha
  obtain ⟨A', c', rfl, hb⟩ := hb
  have HA := Lib.hid ha
  have HB := Lib.hid hb
  have HR := Lib.hid hr
  clear ha hb hr
  by_cases hlen : xs.length = ys.length
  · have HL := Lib.hid hlen
    have hbl : (xs.length != ys.length) = false := by simp [hlen]
    have hbl2 : ((xs.length : Int) != (ys.length : Int)) = false := by simp [hlen]
    clear hlen
    go_enter Tryd.func63, Tryd.ntmps63
    go_wp2
    go_loopw [5] (fun i wr => ∃ k : Nat, k ≤ xs.length ∧ i = .int .i64 k ∧ Hid (∃ n, wr = w.drewN n) ∧ Hid (∀ j, j < k → xs.getD j [] = ys.getD j [])) (fun i _ => xs.length - (intOf i).toNat)
    case atStart => exact ⟨0, Nat.zero_le _, rfl, Lib.hid ⟨0, rfl⟩, Lib.hid (fun j h => absurd h (Nat.not_lt_zero j))⟩
    case round =>
      obtain ⟨k, hk, rfl, HD, HT⟩ := hrel
      by_cases hlt : k < xs.length
      · have hlt2 : k < ys.length := by have := HL.out; omega
        obtain ⟨b, o, u, rfl, hbl3, hc0, r1⟩ := HA.out k hlt
        obtain ⟨b', o', u', rfl, hbl4, hc0', r2⟩ := HB.out k hlt2
        have hc : wr.cell? ⟨b, o + k, none⟩ = some u := by obtain ⟨n, rfl⟩ := HD.out; exact hc0
        have hc' : wr.cell? ⟨b', o' + k, none⟩ = some u' := by obtain ⟨n, rfl⟩ := HD.out; exact hc0'
        replace r1 : RdS wr (fun b => b < B) u (xs.getD k []) := by obtain ⟨n, rfl⟩ := HD.out; exact r1
        replace r2 : RdS wr (fun b => b < B) u' (ys.getD k []) := by obtain ⟨n, rfl⟩ := HD.out; exact r2
        clear hc0 hc0'
        have HR1 := Lib.hid r1
        have HR2 := Lib.hid r2
        have HRL := Lib.hid (HR.out k hlt)
        clear r1 r2
        have i1 : (k : Int) < xs.length := by omega
        have i2 : (k : Int) < ys.length := by omega
        have hq : ∀ m, Calls Tryd.prog 27 #[u, u'] (wr.drewN m) fun e w' => e = .returned (.bool (decide (xs.getD k [] = ys.getD k []))) ∧ ∃ n, w' = (wr.drewN m).drewN n := fun m => eqIntS_any _ B _ _ _ _ HR1.out HR2.out HRL.out
        by_cases hxy : xs.getD k [] = ys.getD k []
        · have HXY := Lib.hid hxy
          have hd : decide (xs.getD k [] = ys.getD k []) = true := decide_eq_true hxy
          rw [hd] at hq
          have HQ := Lib.hid hq
          clear hd hq hxy
          go_wp2
          go_quiet ((go_at_call 27; exact Calls.quiet_of (HQ.out _)))
          go_wp2
          go_roundw
          case rel => exact ⟨k + 1, by omega, by go_num, Lib.hid (by obtain ⟨n, rfl⟩ := HD.out; exact ⟨_, World.drewN_drewN _ _ _⟩), Lib.hid (fun j hj => by
            by_cases c1 : j = k
            · rw [c1]; exact HXY.out
            · exact HT.out j (by omega))⟩
          case measure => simp [intOf]; omega
        · have hd : decide (xs.getD k [] = ys.getD k []) = false := decide_eq_false hxy
          rw [hd] at hq
          have HN := Lib.hid (show decide (xs = ys) = false by
            simp only [decide_eq_false_iff_not]
            intro h
            exact hxy (by rw [h]))
          have HQ := Lib.hid hq
          clear hd hq hxy
          go_wp2
          go_quiet ((go_at_call 27; exact Calls.quiet_of (HQ.out _)))
          go_wp2
          go_ret
          rw [HN.out]
          obtain ⟨n, rfl⟩ := HD.out
          exact ⟨rfl, _, World.drewN_drewN _ _ _⟩
      · have HE := Lib.hid (show decide (xs = ys) = true by
          simp only [decide_eq_true_eq]
          exact ext_getD [] HL.out (fun i hi => HT.out i (by omega)))
        go_wp2
        go_ret
        rw [HE.out]
        exact ⟨rfl, HD.out⟩
  · have HN := Lib.hid (show decide (xs = ys) = false by simp only [decide_eq_false_iff_not]; intro h; exact hlen (by rw [h]))
    have hbl : (xs.length != ys.length) = true := by simp [hlen]
    have hbl2 : ((xs.length : Int) != (ys.length : Int)) = true := by simp; omega
    clear hlen
    go_enter Tryd.func63, Tryd.ntmps63
    go_wp2
    go_ret
    rw [HN.out]
    exact ⟨rfl, 0, rfl⟩
end Go.Proofs.YtahlicbjbbpihaaDoor
