/- MxMake MxGood MxFuncs MxMul in one text. -/
import Derived.Test.YthnhholeaiojjaaDoorMem
import Derived.Test.YthnhholeaiojjaaDoorMath
import Derived.Test.YthnhholeaiojjaaDoorFdWalks
import Derived.Deep.RegionHeld3
import Derived.Test.YthnhholeaiojjaaDoorFdWalks2
import Derived.StillTailTactics
import Derived.Deep.RegionLaw
/-! Zero matrices and unit matrices: both sides. -/
namespace Go.Proofs.YthnhholeaiojjaaDoor
set_option maxRecDepth 100000
open Go Go.RowKit Go.Deep

end Go.Proofs.YthnhholeaiojjaaDoor

/-! Whether a matrix is one over the field: both sides. -/
namespace Go.Proofs.YthnhholeaiojjaaDoor
open Go Go.RowKit Go.Deep

def rowB (p cols : Int) (r : List Int) : Bool := decide ((r.length : Int) = cols) && r.all (el p)
theorem isMat_head {p cols : Int} {rows : List (List Int)} (h : fld p = false ∨ cols < 0 ∨ 24 < cols ∨ 24 < rows.length) : isMat p cols rows = false := by
  cases e : isMat p cols rows with
  | false => rfl
  | true =>
    obtain ⟨h1, h2, c, h3, h4, h5⟩ := (isMat_iff _ _ _).1 e
    rw [h1] at h
    simp at h
    omega
theorem isMat_bad {p cols : Int} {rows : List (List Int)} {j : Nat} (hj : j < rows.length) (h : rowB p cols (rows.getD j []) = false) : isMat p cols rows = false := by
  cases e : isMat p cols rows with
  | false => rfl
  | true =>
    unfold isMat at e
    simp only [Bool.and_eq_true, List.all_eq_true] at e
    have := e.2 _ (getD_mem' hj [])
    unfold rowB at h
    simp only [Bool.and_eq_false_iff] at h this
    rcases h with h | h
    · rw [this.1] at h; cases h
    · rw [List.all_eq_true.2 this.2] at h; cases h
theorem isMat_good {p cols : Int} {rows : List (List Int)} (h1 : fld p = true) (h2 : 0 ≤ cols) (h3 : cols ≤ 24) (h4 : rows.length ≤ 24) (h : ∀ j, j < rows.length → rowB p cols (rows.getD j []) = true) : isMat p cols rows = true := by
  unfold isMat
  simp only [Bool.and_eq_true, decide_eq_true_eq, List.all_eq_true]
  refine ⟨⟨⟨⟨h1, h2⟩, h3⟩, h4⟩, fun r hr => ?_⟩
  obtain ⟨i, hi, rfl⟩ := List.getElem_of_mem hr
  have := h i hi
  rw [List.getD_eq_getElem?_getD, List.getElem?_eq_getElem hi] at this
  unfold rowB at this
  simp only [Option.getD_some, Bool.and_eq_true, decide_eq_true_eq, List.all_eq_true] at this
  exact ⟨this.1, this.2⟩

def between (lo hi : Int) (x : Int) : Bool := decide (lo ≤ x) && decide (x ≤ hi)
theorem between_el (p x : Int) : between 0 (p - 1) x = el p x := by
  rw [Bool.eq_iff_iff, el_iff]
  simp [between]
  omega
theorem all_false {f : Int → Bool} {xs : List Int} {k : Nat} (hk : k < xs.length) (h : f (xs.getD k 0) = false) : xs.all f = false := by
  cases e : xs.all f with
  | false => rfl
  | true => rw [List.all_eq_true.1 e _ (getD_mem' hk 0)] at h; cases h
theorem all_true {f : Int → Bool} {xs : List Int} (h : ∀ j, j < xs.length → f (xs.getD j 0) = true) : xs.all f = true := by
  rw [List.all_eq_true]
  intro x hx
  obtain ⟨i, hi, rfl⟩ := List.getElem_of_mem hx
  have := h i hi
  rwa [List.getD_eq_getElem?_getD, List.getElem?_eq_getElem hi] at this
set_option maxHeartbeats 400000 in
theorem l1All_any (w : World) (B : Nat) (v : Value) (xs : List Int) (lo hi : Int) (hv : RdS w (fun b => b < B) v xs) (hl : xs.length ≤ 9223372036854775807) :
    Calls Tryd.prog 32 #[v, .int .i64 lo, .int .i64 hi] w fun e w' => e = .returned (.bool (xs.all (between lo hi))) ∧ w = w' := by
  obtain ⟨A, c, rfl, kc_c, hv⟩ := hv
  have HV := Lib.hid hv
  clear hv
  go_enter Tryd.func32, Tryd.ntmps32
  go_wp2
  go_loop [11] (fun t => ∃ k : Nat, k ≤ xs.length ∧ t = .int .i64 k ∧ Hid (∀ j, j < k → between lo hi (xs.getD j 0) = true)) (fun t => xs.length - (intOf t).toNat)
  case atStart => exact ⟨0, Nat.zero_le _, rfl, Lib.hid (fun j hj => absurd hj (Nat.not_lt_zero j))⟩
  case round =>
    obtain ⟨k, hk, rfl, he⟩ := hrel
    by_cases hlt : k < xs.length
    · obtain ⟨b, o, rfl, hb, hc⟩ := HV.out k hlt
      generalize hz : xs.getD k 0 = z at hc
      have HZ := Lib.hid hz
      clear hz
      by_cases h0 : lo ≤ z ∧ z ≤ hi
      · obtain ⟨h1, h2⟩ := h0
        have H := Lib.hid (show between lo hi z = true by simp [between, h1, h2])
        go_wp2_with (go_at_call 31; refine (l1In_t _ _ _ _ h1 h2).mono ?_; rintro e w' ⟨rfl, rfl⟩)
        go_round
        case rel => exact ⟨k + 1, by omega, by go_num, Lib.hid (fun j hj => by
          by_cases c : j = k
          · rw [c, HZ.out]; exact H.out
          · exact he.out j (by omega))⟩
        case measure => simp [intOf]; omega
      · have h1 : z < lo ∨ hi < z := by omega
        have H := Lib.hid (show xs.all (between lo hi) = false from all_false hlt (by rw [HZ.out]; simp [between]; omega))
        clear h0
        go_wp2_with (go_at_call 31; refine (l1In_f _ _ _ _ h1).mono ?_; rintro e w' ⟨rfl, rfl⟩)
        go_ret
        rw [H.out]
        exact ⟨rfl, rfl⟩
    · have H := Lib.hid (show xs.all (between lo hi) = true from all_true fun j hj => he.out j (by omega))
      go_wp2
      go_ret
      rw [H.out]
      exact ⟨rfl, rfl⟩
set_option maxHeartbeats 400000 in
theorem areElements_rd (w : World) (B : Nat) (v : Value) (p : Int) (zs : List Int) (ht : Tab w) (hv : RdS w (fun b => b < B) v zs) (hl : zs.length ≤ 9223372036854775807) (hf : fld p = true) :
    Calls Tryd.prog 28 #[.int .i64 p, v] w fun e w' => e = .returned (.bool (zs.all (el p))) ∧ w = w' := by
  obtain ⟨A, c, rfl, kc_c, hv⟩ := hv
  have HT := Lib.hid ht
  have HR := Lib.hid hv
  have hb := fld_bd hf
  have HF := Lib.hid hf
  clear hf ht hv
  obtain ⟨hb1, hb2⟩ := hb
  go_enter Tryd.func28, Tryd.ntmps28
  go_wp2_with fail
  refine (isField_any p w HT.out).mono ?_
  rintro e w' ⟨rfl, rfl⟩
  rw [HF.out]
  go_wp2
  go_loop [12] (fun t => ∃ k : Nat, k ≤ zs.length ∧ t = .int .i64 k ∧ Hid (∀ j, j < k → el p (zs.getD j 0) = true)) (fun t => zs.length - (intOf t).toNat)
  case atStart => exact ⟨0, Nat.zero_le _, rfl, Lib.hid (fun j hj => absurd hj (Nat.not_lt_zero j))⟩
  case round =>
    obtain ⟨k, hk, rfl, he⟩ := hrel
    by_cases hlt : k < zs.length
    · obtain ⟨b, o, rfl, hbB, hc⟩ := HR.out k hlt
      generalize hz : zs.getD k 0 = z at hc
      have HZ := Lib.hid hz
      clear hz
      by_cases h0 : z < 0
      · have H := Lib.hid (show zs.all (el p) = false from all_false hlt (by rw [HZ.out, el_not]; omega))
        go_wp2
        go_ret
        rw [H.out]
        exact ⟨rfl, rfl⟩
      · by_cases h1 : p ≤ z
        · have H := Lib.hid (show zs.all (el p) = false from all_false hlt (by rw [HZ.out, el_not]; omega))
          go_wp2
          go_ret
          rw [H.out]
          exact ⟨rfl, rfl⟩
        · go_wp2
          go_round
          case rel => exact ⟨k + 1, by omega, by go_num, Lib.hid (fun j hj => by
            by_cases c : j = k
            · rw [c, HZ.out, el_iff]; omega
            · exact he.out j (by omega))⟩
          case measure => simp [intOf]; omega
    · have H := Lib.hid (show zs.all (el p) = true from all_true fun j hj => he.out j (by omega))
      go_wp2
      go_ret
      rw [H.out]
      exact ⟨rfl, rfl⟩
/-- A struct was boxed; the answer is b. -/
def SaysB (w : World) (b : Bool) (e : Ending) (w' : World) : Prop := e = .returned (.bool b) ∧ Below w.heap.size w w'
/-- A field, and rows of n elements of it. -/
def areL (p n : Int) (rows : List (List Int)) : Bool := fld p && rows.all (rowB p n)
theorem areL_bad {p n : Int} {rows : List (List Int)} {j : Nat} (hj : j < rows.length) (h : rowB p n (rows.getD j []) = false) : areL p n rows = false := by
  cases e : areL p n rows with
  | false => rfl
  | true =>
    unfold areL at e
    simp only [Bool.and_eq_true, List.all_eq_true] at e
    rw [e.2 _ (getD_mem' hj [])] at h
    cases h
theorem areL_good {p n : Int} {rows : List (List Int)} (hf : fld p = true) (h : ∀ j, j < rows.length → rowB p n (rows.getD j []) = true) : areL p n rows = true := by
  unfold areL
  rw [hf, Bool.true_and, List.all_eq_true]
  intro r hr
  obtain ⟨i, hi, rfl⟩ := List.getElem_of_mem hr
  have := h i hi
  rwa [List.getD_eq_getElem?_getD, List.getElem?_eq_getElem hi] at this
theorem isMat_areL (p cols : Int) (rows : List (List Int)) : isMat p cols rows = (decide (0 ≤ cols) && decide (cols ≤ 24) && decide (rows.length ≤ 24) && areL p cols rows) := by
  unfold isMat areL rowB
  cases fld p <;> simp
end Go.Proofs.YthnhholeaiojjaaDoor

/-! Sums, products, copies, transposed matrices: both sides. -/
namespace Go.Proofs.YthnhholeaiojjaaDoor
open Go Go.RowKit Go.Deep

/-- A row was changed in place. -/
def Wrote (w : World) (T : Nat → Prop) (v : Value) (ys : List Int) (e : Ending) (w' : World) : Prop := e = .returned (.tuple #[]) ∧ Touch T w w' ∧ OwR w' tI T v ys
end Go.Proofs.YthnhholeaiojjaaDoor

/-! Products: both sides. -/
namespace Go.Proofs.YthnhholeaiojjaaDoor
open Go Go.RowKit Go.Deep

theorem upd_end {α : Type} (g : Nat → α → α) {k : Nat} {xs : List α} (h : xs.length ≤ k) : upd g k xs = xs.mapIdx g := upd_all g h
theorem OwR.drew {w : World} {ti : TypeId} {S : Nat → Prop} {v : Value} {xs : List Int} (h : OwR w ti S v xs) : OwR w.drew ti S v xs := h.blocks fun _ _ _ _ _ => rfl
theorem made_grid' (w : World) (n : Nat) (b : Nat) (hb : b = w.heap.size) {S : Nat → Prop} (hs : S b) : GridAt (w.alloc (.cells (madeCells #[.slice none 0 0] n) 23)) tI tR S b (List.replicate n (.slice none 0 0)) (List.replicate n []) := by
  subst hb
  exact made_grid w n S hs
def prodS (p : Int) (c : Nat) (a b : List (List Int)) (k : Nat) : List (List Int) := upd (fun j _ => vmul p c (a.getD j []) b) k (List.replicate a.length [])
theorem prodS_len (p : Int) (c : Nat) (a b : List (List Int)) (k : Nat) : (prodS p c a b k).length = a.length := by unfold prodS; rw [upd_len, List.length_replicate]
theorem prodS_end {p : Int} {c : Nat} {a b : List (List Int)} {k : Nat} (h : a.length ≤ k) : prodS p c a b k = mmul p c a b := by
  unfold prodS mmul
  rw [upd_all _ (by rw [List.length_replicate]; exact h)]
  refine ext_getD [] (by simp) fun i hi => ?_
  rw [List.length_mapIdx, List.length_replicate] at hi
  rw [mapIdx_getD _ _ _ (by simpa using hi) [], mapIdx_getD _ _ _ hi []]
end Go.Proofs.YthnhholeaiojjaaDoor
