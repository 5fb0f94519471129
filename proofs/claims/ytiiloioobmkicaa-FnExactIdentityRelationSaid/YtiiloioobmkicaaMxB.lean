/- MxMake MxGood MxFuncs MxMul in one text. -/
import Derived.Test.YtiiloioobmkicaaMem
import Derived.Test.YtiiloioobmkicaaMath
import Derived.Test.YtiiloioobmkicaaFdWalks
import Derived.Deep.RegionHeld3
import Derived.Test.YtiiloioobmkicaaFdWalks2
import Derived.StillTailTactics
import Derived.Deep.RegionLaw
/-! Zero matrices and unit matrices: both sides. -/
namespace Go.Proofs.Ytiiloioobmkicaa
set_option maxRecDepth 100000
open Go Go.RowKit Go.Deep

abbrev tM : TypeId := 36
set_option maxHeartbeats 400000 in
theorem zeroRows_any (w : World) (n c : Nat) (hn : n ≤ 1000000) (hc : c ≤ 1000000) :
    Calls Try.prog 18 #[.int .i64 n, .int .i64 c] w (MadeG w (List.replicate n (List.replicate c 0))) := by
  have hmk := make_rows n (by omega)
  have hmk2 := make_ints c (by omega)
  go_enter Try.func18, Try.ntmps18
  go_wp2
  go_loopw [11, 6] (fun i t wr => ∃ (k : Nat) (vs : List Value), k ≤ n ∧ i = .int .i64 k ∧ Hid (Below w.heap.size w wr) ∧ Hid (w.heap.size < wr.heap.size) ∧ Hid (GridAt wr tI tR (fun b => w.heap.size ≤ b ∧ b < wr.heap.size) w.heap.size vs (upd (fun _ _ => List.replicate c 0) k (List.replicate n [])))) (fun i _ _ => n - (intOf i).toNat)
  case atStart => exact ⟨0, _, Nat.zero_le _, rfl, Lib.hid ((Below.refl _ _).alloc (Nat.le_refl _) _), Lib.hid (by rw [nblk_alloc]; omega), Lib.hid (by rw [upd_zero]; exact made_grid w _ _ ⟨Nat.le_refl _, by rw [nblk_alloc]; omega⟩)⟩
  case round =>
    obtain ⟨k, vs, hk, rfl, HB, HS, HG⟩ := hrel
    have HLN := Lib.hid (show (upd (fun _ _ => List.replicate c (0 : Int)) k (List.replicate n [])).length = n by rw [upd_len, List.length_replicate])
    by_cases hlt : k < n
    · have hg : w.heap.size < wr.heap.size := HS.out
      have hcell : ∀ o, (wr.alloc o).cell? ⟨w.heap.size, k, none⟩ = some (vs.getD k .nilFunc) := fun o => (World.cell?_of_block (w := wr) (blk_alloc_lt wr o _ hg)).trans (HG.out.cell (by rw [HLN.out]; exact hlt))
      have hf : ∀ o, (wr.alloc o).frozen? ⟨w.heap.size, k, none⟩ = false := fun o => (World.frozen?_of_block (w := wr) (blk_alloc_lt wr o _ hg)).trans (HG.out.outer.frozen k)
      have HP := Lib.hid (HG.out.putNew (fun q h => h.2) (r := k) (by rw [HLN.out]; exact hlt) (cs := madeCells #[.int .i64 0] c) (xs := List.replicate c 0) (n := c) (c := c) (by rw [toList_madeCells_one]; simp [icells]) (by simp))
      generalize vs.getD k Value.nilFunc = u at hcell
      go_wp2
      go_roundw
      case rel => exact ⟨k + 1, _, by omega, by go_num, Lib.hid ((HB.out.setCell (p := ⟨w.heap.size, k, none⟩) (Nat.le_refl _) _).alloc (by rw [nblk_setCell]; exact HB.out.size) _), Lib.hid (by rw [nblk_alloc, nblk_setCell]; have := HS.out; omega), Lib.hid (by
        have := HP.out
        rw [upd_step (fun _ _ => List.replicate c (0 : Int)) (by rw [List.length_replicate]; exact hlt) []] at this
        exact this.mono (T := fun b => w.heap.size ≤ b ∧ b < _) (fun q h hq => ⟨by have := HS.out; omega, hq⟩))⟩
      case measure => simp [intOf]; omega
    · go_wp2
      go_ret
      refine ⟨_, rfl, HB.out, some ⟨w.heap.size, 0, none⟩, n, by simp, by simp, Or.inr ⟨_, vs, rfl, ?_⟩⟩
      have := HG.out
      rw [upd_all _ (by rw [List.length_replicate]; omega), upd_repl] at this
      exact this.mono (fun q h _ => h.1)
set_option maxHeartbeats 400000 in
theorem identityRows_any (w : World) (n : Nat) (hn : n ≤ 1000000) :
    Calls Try.prog 13 #[.int .i64 n] w (MadeG w (idRows n)) := by
  go_enter Try.func13, Try.ntmps13
  go_wp2_with fail
  refine (zeroRows_any _ n n hn hn).mono ?_
  rintro e w1 ⟨v, rfl, hb, ho⟩
  obtain ⟨A, c, rfl⟩ := ho.len
  rw [List.length_replicate]
  have HB := Lib.hid hb
  have HO := Lib.hid ho
  clear hb ho
  go_wp2
  go_loopw [11, 4, 5] (fun i _ _ wr => ∃ k : Nat, k ≤ n ∧ i = .int .i64 k ∧ Hid (Below w.heap.size w wr) ∧ Hid (OwG wr tI tR (fun b => w.heap.size ≤ b) (.slice A n c) (upd (fun i r => r.set i 1) k (List.replicate n (List.replicate n 0))))) (fun i _ _ _ => n - (intOf i).toNat)
  case atStart => exact ⟨0, Nat.zero_le _, rfl, HB, Lib.hid (by rw [upd_zero]; rw [← List.length_replicate (n := n) (a := List.replicate n (0 : Int))]; simpa using HO.out)⟩
  case round =>
    obtain ⟨k, hk, rfl, HB2, HR⟩ := hrel
    by_cases hlt : k < n
    · have HLN := Lib.hid (show (upd (fun i (r : List Int) => r.set i 1) k (List.replicate n (List.replicate n 0))).length = n by rw [upd_len, List.length_replicate])
      have HGD := Lib.hid (show (upd (fun i (r : List Int) => r.set i 1) k (List.replicate n (List.replicate n 0))).getD k [] = List.replicate n 0 by rw [upd_getD _ (Nat.le_refl k), repl_getD' _ _ _ _ hlt])
      obtain ⟨g, c1, b, c2, e, hg, hgl, hc1, hbS, hbl, -, hc2, hf, hset⟩ := HR.out.at (r := k) (j := k) (by rw [HLN.out]; exact hlt) (by rw [HGD.out, List.length_replicate]; exact hlt)
      obtain ⟨rfl, -, rfl⟩ := sliceEq e
      rw [HGD.out, List.length_replicate] at hc1
      rw [HGD.out, repl_getD] at hc2
      have HSET := Lib.hid (hset 1)
      have HBS := Lib.hid hbS
      clear hset e hg hbS
      go_wp2
      go_roundw
      case rel => exact ⟨k + 1, by omega, by go_num, Lib.hid (HB2.out.setCell HBS.out _), Lib.hid (by
        rw [← upd_put _ (by rw [List.length_replicate]; exact hlt) []]
        exact HSET.out)⟩
      case measure => simp [intOf]; omega
    · go_wp2
      go_ret
      refine ⟨_, rfl, HB2.out, ?_⟩
      have := HR.out
      rw [upd_all _ (by rw [List.length_replicate]; omega)] at this
      exact this
/-- Two cells of a box of the call's own, behind a call. -/
theorem box2 {w w1 : World} (hb : Below (w.heap.size + 1) (w.alloc (.cells #[.int .i64 0, .slice none 0 0] tM)) w1) :
    w1.cell? ⟨w.heap.size, 0, none⟩ = some (.int .i64 0) ∧ w1.cell? ⟨w.heap.size, 1, none⟩ = some (.slice none 0 0) ∧ w1.frozen? ⟨w.heap.size, 0, none⟩ = false ∧ w1.frozen? ⟨w.heap.size, 1, none⟩ = false ∧ w.heap.size < w1.heap.size :=
  ((cellsAt_new w #[.int .i64 0, .slice none 0 0] tM).below hb (by simp)).two
end Go.Proofs.Ytiiloioobmkicaa

/-! Whether a matrix is one over the field: both sides. -/
namespace Go.Proofs.Ytiiloioobmkicaa
open Go Go.RowKit Go.Deep

def rowB (p cols : Int) (r : List Int) : Bool := decide ((r.length : Int) = cols) && r.all (el p)
theorem isMat_head {p cols : Int} {rows : List (List Int)} (h : fld p = false ∨ cols < 0 ∨ 24 < cols ∨ 24 < rows.length) : isMat p cols rows = false := by
  cases e : isMat p cols rows with
  | false => rfl
  | true =>
    obtain ⟨h1, h2, c, h3, h4, h5⟩ := (isMat_iff _ _ _).1 e
    rw [h1] at h
    simp at h
    omega
theorem isMat_bad {p cols : Int} {rows : List (List Int)} {j : Nat} (hj : j < rows.length) (h : rowB p cols (rows.getD j []) = false) : isMat p cols rows = false := by
  cases e : isMat p cols rows with
  | false => rfl
  | true =>
    unfold isMat at e
    simp only [Bool.and_eq_true, List.all_eq_true] at e
    have := e.2 _ (getD_mem' hj [])
    unfold rowB at h
    simp only [Bool.and_eq_false_iff] at h this
    rcases h with h | h
    · rw [this.1] at h; cases h
    · rw [List.all_eq_true.2 this.2] at h; cases h
theorem isMat_good {p cols : Int} {rows : List (List Int)} (h1 : fld p = true) (h2 : 0 ≤ cols) (h3 : cols ≤ 24) (h4 : rows.length ≤ 24) (h : ∀ j, j < rows.length → rowB p cols (rows.getD j []) = true) : isMat p cols rows = true := by
  unfold isMat
  simp only [Bool.and_eq_true, decide_eq_true_eq, List.all_eq_true]
  refine ⟨⟨⟨⟨h1, h2⟩, h3⟩, h4⟩, fun r hr => ?_⟩
  obtain ⟨i, hi, rfl⟩ := List.getElem_of_mem hr
  have := h i hi
  rw [List.getD_eq_getElem?_getD, List.getElem?_eq_getElem hi] at this
  unfold rowB at this
  simp only [Option.getD_some, Bool.and_eq_true, decide_eq_true_eq, List.all_eq_true] at this
  exact ⟨this.1, this.2⟩

def between (lo hi : Int) (x : Int) : Bool := decide (lo ≤ x) && decide (x ≤ hi)
theorem between_el (p x : Int) : between 0 (p - 1) x = el p x := by
  rw [Bool.eq_iff_iff, el_iff]
  simp [between]
  omega
theorem all_false {f : Int → Bool} {xs : List Int} {k : Nat} (hk : k < xs.length) (h : f (xs.getD k 0) = false) : xs.all f = false := by
  cases e : xs.all f with
  | false => rfl
  | true => rw [List.all_eq_true.1 e _ (getD_mem' hk 0)] at h; cases h
theorem all_true {f : Int → Bool} {xs : List Int} (h : ∀ j, j < xs.length → f (xs.getD j 0) = true) : xs.all f = true := by
  rw [List.all_eq_true]
  intro x hx
  obtain ⟨i, hi, rfl⟩ := List.getElem_of_mem hx
  have := h i hi
  rwa [List.getD_eq_getElem?_getD, List.getElem?_eq_getElem hi] at this
/-- A struct was boxed; the answer is b. -/
def SaysB (w : World) (b : Bool) (e : Ending) (w' : World) : Prop := e = .returned (.bool b) ∧ Below w.heap.size w w'
/-- A field, and rows of n elements of it. -/
def areL (p n : Int) (rows : List (List Int)) : Bool := fld p && rows.all (rowB p n)
theorem areL_bad {p n : Int} {rows : List (List Int)} {j : Nat} (hj : j < rows.length) (h : rowB p n (rows.getD j []) = false) : areL p n rows = false := by
  cases e : areL p n rows with
  | false => rfl
  | true =>
    unfold areL at e
    simp only [Bool.and_eq_true, List.all_eq_true] at e
    rw [e.2 _ (getD_mem' hj [])] at h
    cases h
theorem areL_good {p n : Int} {rows : List (List Int)} (hf : fld p = true) (h : ∀ j, j < rows.length → rowB p n (rows.getD j []) = true) : areL p n rows = true := by
  unfold areL
  rw [hf, Bool.true_and, List.all_eq_true]
  intro r hr
  obtain ⟨i, hi, rfl⟩ := List.getElem_of_mem hr
  have := h i hi
  rwa [List.getD_eq_getElem?_getD, List.getElem?_eq_getElem hi] at this
theorem isMat_areL (p cols : Int) (rows : List (List Int)) : isMat p cols rows = (decide (0 ≤ cols) && decide (cols ≤ 24) && decide (rows.length ≤ 24) && areL p cols rows) := by
  unfold isMat areL rowB
  cases fld p <;> simp
end Go.Proofs.Ytiiloioobmkicaa

/-! Sums, products, copies, transposed matrices: both sides. -/
namespace Go.Proofs.Ytiiloioobmkicaa
open Go Go.RowKit Go.Deep

/-- A row was changed in place. -/
def Wrote (w : World) (T : Nat → Prop) (v : Value) (ys : List Int) (e : Ending) (w' : World) : Prop := e = .returned (.tuple #[]) ∧ Touch T w w' ∧ OwR w' tI T v ys
end Go.Proofs.Ytiiloioobmkicaa

/-! Products: both sides. -/
namespace Go.Proofs.Ytiiloioobmkicaa
open Go Go.RowKit Go.Deep

theorem upd_end {α : Type} (g : Nat → α → α) {k : Nat} {xs : List α} (h : xs.length ≤ k) : upd g k xs = xs.mapIdx g := upd_all g h
theorem OwR.drew {w : World} {ti : TypeId} {S : Nat → Prop} {v : Value} {xs : List Int} (h : OwR w ti S v xs) : OwR w.drew ti S v xs := h.blocks fun _ _ _ _ _ => rfl
theorem made_grid' (w : World) (n : Nat) (b : Nat) (hb : b = w.heap.size) {S : Nat → Prop} (hs : S b) : GridAt (w.alloc (.cells (madeCells #[.slice none 0 0] n) 39)) tI tR S b (List.replicate n (.slice none 0 0)) (List.replicate n []) := by
  subst hb
  exact made_grid w n S hs
def prodS (p : Int) (c : Nat) (a b : List (List Int)) (k : Nat) : List (List Int) := upd (fun j _ => vmul p c (a.getD j []) b) k (List.replicate a.length [])
theorem prodS_len (p : Int) (c : Nat) (a b : List (List Int)) (k : Nat) : (prodS p c a b k).length = a.length := by unfold prodS; rw [upd_len, List.length_replicate]
theorem prodS_end {p : Int} {c : Nat} {a b : List (List Int)} {k : Nat} (h : a.length ≤ k) : prodS p c a b k = mmul p c a b := by
  unfold prodS mmul
  rw [upd_all _ (by rw [List.length_replicate]; exact h)]
  refine ext_getD [] (by simp) fun i hi => ?_
  rw [List.length_mapIdx, List.length_replicate] at hi
  rw [mapIdx_getD _ _ _ (by simpa using hi) [], mapIdx_getD _ _ _ hi []]
end Go.Proofs.Ytiiloioobmkicaa
