/- The cursor from which the laws' drawn arguments come: what each of its methods returns lies in its range; it writes into its own block alone. -/
import Derived.Test.YtoajbnkpognoiaaDoorProg
import Derived.WalkKit
import Derived.Handy
import Derived.Below
import Derived.Lib.Hide
import Derived.Deep.QuietTactic
import Derived.BigQuiet
import Derived.Lib.VarintBits
import Derived.Laws.Rows
namespace Go.Proofs.YtoajbnkpognoiaaDoor
open Go Go.RowKit

/-- The slice V of bytes can be read, in a block below B. -/
def Bytes (w : World) (B : Nat) (V : Value) : Prop := ∃ A n c, V = .slice A n c ∧ n ≤ 9223372036854775807 ∧ ∀ j, j < n → ∃ b o, ∃ u : Int, A = some ⟨b, o, none⟩ ∧ b < B ∧ 0 ≤ u ∧ u ≤ 255 ∧ w.cell? ⟨b, o + j, none⟩ = some (.int .u8 u)
/-- Block C is a cursor over V that has moved at most K times. -/
def CurOK (w : World) (C : Nat) (V : Value) (K : Nat) : Prop := ∃ (k : Nat) (s : Int), k ≤ K ∧ w.heap[C]? = some (.cells #[V, .int .i64 k, .int .u64 s] 46 (0, 0))
/-- The call returned an int with the property. -/
def RetI (P : Int → Prop) (e : Ending) : Prop := ∃ r : Int, P r ∧ e = .returned (.int .i64 r)

/-- What was there is as it was, but for block C. -/
def Fr (C : Nat) (w w' : World) : Prop := w.grownBy w' (some C)
theorem Fr.refl (C : Nat) (w : World) : Fr C w w := World.grownBy.refl _ _
theorem Fr.trans {C : Nat} {a b c : World} (h : Fr C a b) (g : Fr C b c) : Fr C a c :=
  ⟨g.os.trans h.os, g.tape.trans h.tape, g.output.trans h.output, Nat.le_trans h.size g.size, fun k hk hne => (g.block k (Nat.lt_of_lt_of_le hk h.size) hne).trans (h.block k hk hne)⟩
theorem Fr.alloc (C : Nat) (w : World) (o : Obj) : Fr C w (w.alloc o) := World.grownBy_alloc _ _ _
theorem Fr.below {C B : Nat} {w w' : World} (h : Fr C w w') (hB : B ≤ C) (hw : B ≤ w.heap.size) : Below B w w' :=
  ⟨h.os, h.tape, h.output, h.size, fun k hk => h.block k (by omega) (fun e => by have := Option.some.inj e; omega)⟩
theorem Bytes.fr {w w' : World} {C : Nat} {V : Value} (h : Bytes w C V) (hf : Fr C w w') : Bytes w' C V := by
  obtain ⟨A, n, c, e, hn, h⟩ := h
  refine ⟨A, n, c, e, hn, fun j hj => ?_⟩
  obtain ⟨b, o, u, e2, hlt, u0, u1, hc⟩ := h j hj
  exact ⟨b, o, u, e2, hlt, u0, u1, World.grownBy.cell hf hc (fun e => by have := Option.some.inj e; simp at this; omega)⟩
theorem Bytes.below {w w' : World} {B B' : Nat} {V : Value} (h : Bytes w B V) (hb : Below B' w w') (hB : B ≤ B') : Bytes w' B V := by
  obtain ⟨A, n, c, e, hn, h⟩ := h
  refine ⟨A, n, c, e, hn, fun j hj => ?_⟩
  obtain ⟨b, o, u, e2, hlt, u0, u1, hc⟩ := h j hj
  exact ⟨b, o, u, e2, hlt, u0, u1, (hb.cell (show (⟨b, o + j, none⟩ : Addr).block < B' from Nat.lt_of_lt_of_le hlt hB)).trans hc⟩
theorem CurOK.below {w w' : World} {C B K : Nat} {V : Value} (h : CurOK w C V K) (hb : Below B w w') (hB : C < B) : CurOK w' C V K := by
  obtain ⟨k, s, hk, h⟩ := h
  exact ⟨k, s, hk, (hb.block C hB).trans h⟩
theorem CurOK.more {w : World} {C K K' : Nat} {V : Value} (h : CurOK w C V K) (hK : K ≤ K') : CurOK w C V K' := by
  obtain ⟨k, s, hk, h⟩ := h
  exact ⟨k, s, by omega, h⟩
theorem CurOK.size {w : World} {C K : Nat} {V : Value} (h : CurOK w C V K) : C < w.heap.size := by
  obtain ⟨k, s, hk, h⟩ := h
  exact (Array.getElem?_eq_some_iff.1 h).1
theorem cell_of {w : World} {C : Nat} {cs : Array Value} {t : TypeId} {fr : Nat × Nat} (h : w.heap[C]? = some (.cells cs t fr)) (o : Nat) : w.cell? ⟨C, o, none⟩ = cs[o]? := by simp [World.cell?, h]
theorem frozen_of {w : World} {C : Nat} {cs : Array Value} {t : TypeId} (h : w.heap[C]? = some (.cells cs t (0, 0))) (o : Nat) : w.frozen? ⟨C, o, none⟩ = false := by simp [World.frozen?, h]

theorem cur_two {w : World} {C K k a b : Nat} {V : Value} {s s' : Int} (hh : w.heap[C]? = some (.cells #[V, .int .i64 k, .int .u64 s] 46 (0, 0))) (hk : k ≤ K) :
    CurOK ((((w.drewN a).setCell ⟨C, 1, none⟩ (.int .i64 ((k : Int) + 1))).setCell ⟨C, 2, none⟩ (.int .u64 s')).drewN b) C V (K + 1) := by
  refine ⟨k + 1, s', by omega, ?_⟩
  show ((w.setCell ⟨C, 1, none⟩ (.int .i64 ((k : Int) + 1))).setCell ⟨C, 2, none⟩ (.int .u64 s')).heap[C]? = _
  rw [heap_setCell_same _ C 2 _ _ _ (heap_setCell_same w C 1 _ _ _ hh)]
  simp
theorem fr_two {w : World} {C a b : Nat} {x y : Value} : Fr C w ((((w.drewN a).setCell ⟨C, 1, none⟩ x).setCell ⟨C, 2, none⟩ y).drewN b) := by
  refine ⟨rfl, rfl, rfl, ?_, fun k hk hne => ?_⟩
  · show w.heap.size ≤ ((w.setCell _ _).setCell _ _).heap.size
    simp
  · show ((w.setCell _ _).setCell _ _).heap[k]? = _
    have hk' : k ≠ C := fun e => hne (by rw [e])
    rw [Below.heap_setCell _ _ _ _ hk', Below.heap_setCell _ _ _ _ hk']

theorem byte_bd (n : Int) : 0 ≤ wrap64 (bits BinOp.and IntKind.u64 (IntKind.u64.wrap n / 1099511627776) 255) ∧ wrap64 (bits BinOp.and IntKind.u64 (IntKind.u64.wrap n / 1099511627776) 255) ≤ 255 := by
  have hw : 0 ≤ IntKind.u64.wrap n ∧ IntKind.u64.wrap n < 18446744073709551616 := by
    rw [IntKind.wrap_u64]
    omega
  have e : bits BinOp.and IntKind.u64 (IntKind.u64.wrap n / 1099511627776) 255 = IntKind.u64.wrap n / 1099511627776 % 256 := bits_mask .u64 64 (by decide) wraps_u64 8 (by decide) _ (by omega) (by omega)
  rw [e, IntWalk.wrap64_in _ (by omega)]
  omega

set_option maxHeartbeats 800000 in
theorem next_any (w : World) (C K : Nat) (V : Value) (hc : CurOK w C V K) (hv : Bytes w C V) (hK : K ≤ 1000000000) :
    Calls Tryd.prog 45 #[.pointer (some ⟨C, 0, none⟩)] w fun e w' => RetI (fun r => 0 ≤ r ∧ r ≤ 255) e ∧ CurOK w' C V (K + 1) ∧ Bytes w' C V ∧ Fr C w w' := by
  have HV := Lib.hid hv
  obtain ⟨k, s, hk, hh⟩ := hc
  obtain ⟨A, n, c, rfl, hn, hb⟩ := hv
  have h0 : w.cell? ⟨C, 0, none⟩ = some (.slice A n c) := cell_of hh 0
  have h1 : w.cell? ⟨C, 1, none⟩ = some (.int .i64 k) := cell_of hh 1
  have h2 : w.cell? ⟨C, 2, none⟩ = some (.int .u64 s) := cell_of hh 2
  have f1 := frozen_of hh 1
  have f2 := frozen_of hh 2
  have HH := Lib.hid hh
  have HB := Lib.hid hb
  clear hh hb
  by_cases hlt : k < n
  · obtain ⟨b, o, u, rfl, hbC, u0, u1, hu⟩ := HB.out k hlt
    have i0 : (0 : Int) ≤ k := by omega
    have i1 : (k : Int) < n := by omega
    go_enter Tryd.func45, Tryd.ntmps45
    go_wp2
    go_quiet (fail)
    go_wp2
    go_quiet (fail)
    go_wp2
    go_quiet (fail)
    go_wp2
    go_ret
    exact ⟨⟨_, ⟨u0, u1⟩, rfl⟩, cur_two HH.out hk, HV.out.fr fr_two, fr_two⟩
  · go_enter Tryd.func45, Tryd.ntmps45
    go_wp2
    go_quiet (fail)
    go_wp2
    go_quiet (fail)
    go_wp2
    go_ret
    exact ⟨⟨_, byte_bd _, rfl⟩, cur_two HH.out hk, HV.out.fr fr_two, fr_two⟩

def RetB (e : Ending) : Prop := ∃ b : Bool, e = .returned (.bool b)
/-- The ints of a row lie in block b. -/
def Lits (w : World) (b : Nat) (zs : List Int) : Prop := ∀ k, k < zs.length → w.cell? ⟨b, k, none⟩ = some (.int .i64 (zs.getD k 0))
theorem Lits.alloc (w : World) (zs : List Int) (t : TypeId) : Lits (w.alloc (.cells (zs.map (Value.int .i64)).toArray t)) w.heap.size zs := by
  intro k hk
  simp [go_sem, hk]
theorem Lits.fr {w w' : World} {C b : Nat} {zs : List Int} (h : Lits w b zs) (hf : Fr C w w') (hb : C < b) : Lits w' b zs := fun k hk => World.grownBy.cell hf (h k hk) (fun e => by have := Option.some.inj e; simp at this; omega)
theorem CurOK.alloc {w : World} {C K : Nat} {V : Value} (h : CurOK w C V K) (o : Obj) : CurOK (w.alloc o) C V K := h.below ((Below.refl _ _).alloc (Nat.le_refl _) o) h.size

set_option maxHeartbeats 400000 in
theorem pick_any (w : World) (C K : Nat) (V : Value) (n : Int) (hc : CurOK w C V K) (hv : Bytes w C V) (hK : K ≤ 200000000) (hn : n ≤ 200) :
    Calls Tryd.prog 43 #[.pointer (some ⟨C, 0, none⟩), .int .i64 n] w fun e w' => RetI (fun r => 0 ≤ r ∧ (r < n ∨ r = 0)) e ∧ CurOK w' C V (K + 1) ∧ Bytes w' C V ∧ Fr C w w' := by
  by_cases h1 : n ≤ 1
  · go_enter Tryd.func43, Tryd.ntmps43
    go_wp2
    go_ret
    exact ⟨⟨0, ⟨Int.le_refl _, Or.inr rfl⟩, rfl⟩, hc.more (Nat.le_succ _), hv, Fr.refl _ _⟩
  · have h2 : 2 ≤ n := by omega
    clear h1
    go_enter Tryd.func43, Tryd.ntmps43
    go_wp2_with fail
    refine (next_any w C K V hc hv (by omega)).mono ?_
    rintro e w' ⟨⟨r, ⟨r0, r1⟩, rfl⟩, hc', hv', hf⟩
    have HC := Lib.hid hc'
    have HF := Lib.hid hf
    clear hc' hf hc hv
    go_wp2
    go_ret
    exact ⟨⟨_, ⟨Int.emod_nonneg _ (by omega), Or.inl (Int.emod_lt_of_pos _ (by omega))⟩, rfl⟩, HC.out, hv', HF.out⟩
theorem one_any (w : World) (C K : Nat) (V : Value) (n : Int) (hc : CurOK w C V K) (hv : Bytes w C V) (hK : K ≤ 200000000) (hn : n ≤ 200) :
    Calls Tryd.prog 39 #[.pointer (some ⟨C, 0, none⟩), .int .i64 n] w fun e w' => RetB e ∧ CurOK w' C V (K + 1) ∧ Bytes w' C V ∧ Fr C w w' := by
  go_enter Tryd.func39, Tryd.ntmps39
  go_wp2_with fail
  refine (pick_any w C K V n hc hv hK hn).mono ?_
  rintro e w' ⟨⟨r, hr, rfl⟩, hc', hv', hf⟩
  have HR := Lib.hid hr
  have HC := Lib.hid hc'
  have HV := Lib.hid hv'
  have HF := Lib.hid hf
  clear hr hc' hf hc hv hv'
  go_wp2
  go_ret
  exact ⟨⟨_, rfl⟩, HC.out, HV.out, HF.out⟩
set_option maxHeartbeats 400000 in
theorem among_any (w : World) (C K b c n : Nat) (V : Value) (zs : List Int) (hc : CurOK w C V K) (hv : Bytes w C V) (hK : K ≤ 200000000) (hb : C < b) (hz : Lits w b zs) (hn : n = zs.length) (h0 : 0 < n) (hl : n ≤ 200) :
    Calls Tryd.prog 40 #[.pointer (some ⟨C, 0, none⟩), .slice (some ⟨b, 0, none⟩) n c] w fun e w' => RetI (fun r => r ∈ zs) e ∧ CurOK w' C V (K + 1) ∧ Bytes w' C V ∧ Fr C w w' := by
  subst hn
  have HZ := Lib.hid hz
  clear hz
  go_enter Tryd.func40, Tryd.ntmps40
  go_wp2_with fail
  refine (pick_any w C K V _ hc hv hK (by omega)).mono ?_
  rintro e w' ⟨⟨r, ⟨r0, r1⟩, rfl⟩, hc', hv', hf⟩
  obtain ⟨k, rfl⟩ := Int.eq_ofNat_of_zero_le r0
  have hk : k < zs.length := by omega
  have hcell := (HZ.out.fr hf hb) k hk
  have HM := Lib.hid (show zs.getD k 0 ∈ zs by
    rw [List.getD_eq_getElem?_getD, List.getElem?_eq_getElem hk]
    exact List.getElem_mem hk)
  generalize zs.getD k 0 = z at hcell HM
  have HC := Lib.hid hc'
  have HV := Lib.hid hv'
  have HF := Lib.hid hf
  clear r0 r1 hc' hf hc hv hv'
  go_wp2
  go_ret
  exact ⟨⟨_, HM.out, rfl⟩, HC.out, HV.out, HF.out⟩
theorem prime_any (w : World) (C K : Nat) (V : Value) (hc : CurOK w C V K) (hv : Bytes w C V) (hK : K ≤ 200000000) :
    Calls Tryd.prog 41 #[.pointer (some ⟨C, 0, none⟩)] w fun e w' => RetI (fun r => r ∈ [2, 3, 5, 7, 2, 3, 5, 11, 13, 97]) e ∧ CurOK w' C V (K + 1) ∧ Bytes w' C V ∧ Fr C w w' := by
  go_enter Tryd.func41, Tryd.ntmps41
  go_wp2_with fail
  refine (among_any _ C K _ _ _ V [2, 3, 5, 7, 2, 3, 5, 11, 13, 97] (hc.alloc _) (hv.fr (Fr.alloc _ _ _)) hK hc.size (Lits.alloc w _ _) rfl (by decide) (by decide)).mono ?_
  rintro e w' ⟨⟨r, hr, rfl⟩, hc', hv', hf⟩
  have HR := Lib.hid hr
  have HC := Lib.hid hc'
  have HV := Lib.hid hv'
  have HF := Lib.hid ((Fr.alloc C w _).trans hf)
  clear hr hc' hf hc hv hv'
  go_wp2
  go_ret
  exact ⟨⟨_, HR.out, rfl⟩, HC.out, HV.out, HF.out⟩
theorem anyPrime_any (w : World) (C K : Nat) (V : Value) (hc : CurOK w C V K) (hv : Bytes w C V) (hK : K ≤ 100000000) :
    Calls Tryd.prog 36 #[.pointer (some ⟨C, 0, none⟩)] w fun e w' => RetI (fun r => -1 ≤ r ∧ r ≤ 101) e ∧ CurOK w' C V (K + 2) ∧ Bytes w' C V ∧ Fr C w w' := by
  go_enter Tryd.func36, Tryd.ntmps36
  go_wp2_with fail
  refine (one_any w C K V 24 hc hv (by omega) (by omega)).mono ?_
  rintro e w1 ⟨⟨t, rfl⟩, hc1, hv1, hf1⟩
  have HF1 := Lib.hid hf1
  clear hc hv hf1
  cases t with
  | true =>
    go_wp2_with fail
    refine (among_any _ C (K + 1) _ _ _ V [-1, 0, 1, 4, 9, 91, 98, 101] (hc1.alloc _) (hv1.fr (Fr.alloc _ _ _)) (by omega) hc1.size (Lits.alloc w1 _ _) rfl (by decide) (by decide)).mono ?_
    rintro e w' ⟨⟨r, hr, rfl⟩, hc', hv', hf⟩
    have HR := Lib.hid (show -1 ≤ r ∧ r ≤ 101 by simp at hr; omega)
    have HC := Lib.hid hc'
    have HV := Lib.hid hv'
    have HF := Lib.hid ((HF1.out.trans (Fr.alloc C w1 _)).trans hf)
    clear hr hc' hf hc1 hv1 hv'
    go_wp2
    go_ret
    exact ⟨⟨_, HR.out, rfl⟩, HC.out, HV.out, HF.out⟩
  | false =>
    go_wp2_with fail
    refine (prime_any _ C (K + 1) V hc1 hv1 (by omega)).mono ?_
    rintro e w' ⟨⟨r, hr, rfl⟩, hc', hv', hf⟩
    have HR := Lib.hid (show -1 ≤ r ∧ r ≤ 101 by simp at hr; omega)
    have HC := Lib.hid hc'
    have HV := Lib.hid hv'
    have HF := Lib.hid (HF1.out.trans hf)
    clear hr hc' hf hc1 hv1 hv'
    go_wp2
    go_ret
    exact ⟨⟨_, HR.out, rfl⟩, HC.out, HV.out, HF.out⟩
theorem l1Most_any (a b : Int) (w : World) : Calls Tryd.prog 44 #[.int .i64 a, .int .i64 b] w fun e w' => e = .returned (.int .i64 (if b < a then a else b)) ∧ w = w' := by
  by_cases h : b < a
  · rw [if_pos h]
    go_enter Tryd.func44, Tryd.ntmps44
    go_wp2
    go_ret
    exact ⟨rfl, rfl⟩
  · rw [if_neg h]
    go_enter Tryd.func44, Tryd.ntmps44
    go_wp2
    go_ret
    exact ⟨rfl, rfl⟩
theorem elem_any (w : World) (C K : Nat) (V : Value) (p : Int) (hc : CurOK w C V K) (hv : Bytes w C V) (hK : K ≤ 100000100) (h2 : p ≤ 101) :
    Calls Tryd.prog 42 #[.pointer (some ⟨C, 0, none⟩), .int .i64 p] w fun e w' => RetI (fun r => -1 ≤ r ∧ r ≤ 102) e ∧ CurOK w' C V (K + 1) ∧ Bytes w' C V ∧ Fr C w w' := by
  go_enter Tryd.func42, Tryd.ntmps42
  go_wp2_with fail
  refine (l1Most_any _ _ _).mono ?_
  rintro e w' ⟨rfl, rfl⟩
  have hm : (if 1 < p then p else 1) ≤ 101 := by split <;> omega
  generalize (if 1 < p then p else 1) = m at hm
  go_wp2_with fail
  refine (pick_any w C K V m hc hv (by omega) (by omega)).mono ?_
  rintro e w' ⟨⟨r, hr, rfl⟩, hc', hv', hf⟩
  have HR := Lib.hid (show -1 ≤ r ∧ r ≤ 102 by omega)
  have HC := Lib.hid hc'
  have HV := Lib.hid hv'
  have HF := Lib.hid hf
  clear hr hc' hf hc hv hv'
  go_wp2
  go_ret
  exact ⟨⟨_, HR.out, rfl⟩, HC.out, HV.out, HF.out⟩
theorem anyElem_any (w : World) (C K : Nat) (V : Value) (p : Int) (hc : CurOK w C V K) (hv : Bytes w C V) (hK : K ≤ 100000000) (h1 : -1 ≤ p) (h2 : p ≤ 101) :
    Calls Tryd.prog 37 #[.pointer (some ⟨C, 0, none⟩), .int .i64 p] w fun e w' => RetI (fun r => -1 ≤ r ∧ r ≤ 102) e ∧ CurOK w' C V (K + 2) ∧ Bytes w' C V ∧ Fr C w w' := by
  go_enter Tryd.func37, Tryd.ntmps37
  go_wp2_with fail
  refine (one_any w C K V 24 hc hv (by omega) (by omega)).mono ?_
  rintro e w1 ⟨⟨t, rfl⟩, hc1, hv1, hf1⟩
  have HF1 := Lib.hid hf1
  clear hc hv hf1
  cases t with
  | true =>
    go_wp2_with fail
    refine (among_any _ C (K + 1) _ _ _ V [-1, p, p + 1] (hc1.alloc _) (hv1.fr (Fr.alloc _ _ _)) (by omega) hc1.size (Lits.alloc w1 _ _) rfl (by simp) (by simp)).mono ?_
    rintro e w' ⟨⟨r, hr, rfl⟩, hc', hv', hf⟩
    have HR := Lib.hid (show -1 ≤ r ∧ r ≤ 102 by simp at hr; omega)
    have HC := Lib.hid hc'
    have HV := Lib.hid hv'
    have HF := Lib.hid ((HF1.out.trans (Fr.alloc C w1 _)).trans hf)
    clear hr hc' hf hc1 hv1 hv'
    go_wp2
    go_ret
    exact ⟨⟨_, HR.out, rfl⟩, HC.out, HV.out, HF.out⟩
  | false =>
    go_wp2_with fail
    refine (elem_any _ C (K + 1) V p hc1 hv1 (by omega) h2).mono ?_
    rintro e w' ⟨⟨r, hr, rfl⟩, hc', hv', hf⟩
    have HR := Lib.hid hr
    have HC := Lib.hid hc'
    have HV := Lib.hid hv'
    have HF := Lib.hid (HF1.out.trans hf)
    clear hr hc' hf hc1 hv1 hv'
    go_wp2
    go_ret
    exact ⟨⟨_, HR.out, rfl⟩, HC.out, HV.out, HF.out⟩
end Go.Proofs.YtoajbnkpognoiaaDoor
