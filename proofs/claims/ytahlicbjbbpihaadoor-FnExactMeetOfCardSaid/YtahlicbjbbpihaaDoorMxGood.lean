/- Whether a matrix is one over the field: both sides. -/
import Derived.Test.YtahlicbjbbpihaaDoorMatK
import Derived.Test.YtahlicbjbbpihaaDoorRed
import Derived.Test.YtahlicbjbbpihaaDoorFdWalks2
namespace Go.Proofs.YtahlicbjbbpihaaDoor
set_option maxRecDepth 100000
open Go Go.RowKit Go.Deep

def rowB (p cols : Int) (r : List Int) : Bool := decide ((r.length : Int) = cols) && r.all (el p)
theorem isMat_head {p cols : Int} {rows : List (List Int)} (h : fld p = false ∨ cols < 0 ∨ 24 < cols ∨ 24 < rows.length) : isMat p cols rows = false := by
  cases e : isMat p cols rows with
  | false => rfl
  | true =>
    obtain ⟨h1, h2, c, h3, h4, h5⟩ := (isMat_iff _ _ _).1 e
    rw [h1] at h
    simp at h
    omega
theorem isMat_bad {p cols : Int} {rows : List (List Int)} {j : Nat} (hj : j < rows.length) (h : rowB p cols (rows.getD j []) = false) : isMat p cols rows = false := by
  cases e : isMat p cols rows with
  | false => rfl
  | true =>
    unfold isMat at e
    simp only [Bool.and_eq_true, List.all_eq_true] at e
    have := e.2 _ (getD_mem' hj [])
    unfold rowB at h
    simp only [Bool.and_eq_false_iff] at h this
    rcases h with h | h
    · rw [this.1] at h; cases h
    · rw [List.all_eq_true.2 this.2] at h; cases h
theorem isMat_good {p cols : Int} {rows : List (List Int)} (h1 : fld p = true) (h2 : 0 ≤ cols) (h3 : cols ≤ 24) (h4 : rows.length ≤ 24) (h : ∀ j, j < rows.length → rowB p cols (rows.getD j []) = true) : isMat p cols rows = true := by
  unfold isMat
  simp only [Bool.and_eq_true, decide_eq_true_eq, List.all_eq_true]
  refine ⟨⟨⟨⟨h1, h2⟩, h3⟩, h4⟩, fun r hr => ?_⟩
  obtain ⟨i, hi, rfl⟩ := List.getElem_of_mem hr
  have := h i hi
  rw [List.getD_eq_getElem?_getD, List.getElem?_eq_getElem hi] at this
  unfold rowB at this
  simp only [Option.getD_some, Bool.and_eq_true, decide_eq_true_eq, List.all_eq_true] at this
  exact ⟨this.1, this.2⟩

def between (lo hi : Int) (x : Int) : Bool := decide (lo ≤ x) && decide (x ≤ hi)
theorem between_el (p x : Int) : between 0 (p - 1) x = el p x := by
  rw [Bool.eq_iff_iff, el_iff]
  simp [between]
  omega
theorem all_false {f : Int → Bool} {xs : List Int} {k : Nat} (hk : k < xs.length) (h : f (xs.getD k 0) = false) : xs.all f = false := by
  cases e : xs.all f with
  | false => rfl
  | true => rw [List.all_eq_true.1 e _ (getD_mem' hk 0)] at h; cases h
theorem all_true {f : Int → Bool} {xs : List Int} (h : ∀ j, j < xs.length → f (xs.getD j 0) = true) : xs.all f = true := by
  rw [List.all_eq_true]
  intro x hx
  obtain ⟨i, hi, rfl⟩ := List.getElem_of_mem hx
  have := h i hi
  rwa [List.getD_eq_getElem?_getD, List.getElem?_eq_getElem hi] at this
set_option maxHeartbeats 400000 in
theorem l1All_any (w : World) (B : Nat) (v : Value) (xs : List Int) (lo hi : Int) (hv : RdS w (fun b => b < B) v xs) (hl : xs.length ≤ 9223372036854775807) :
    Calls Tryd.prog 90 #[v, .int .i64 lo, .int .i64 hi] w fun e w' => e = .returned (.bool (xs.all (between lo hi))) ∧ w = w' := by
  obtain ⟨A, c, rfl, hv⟩ := hv
  have HV := Lib.hid hv
  clear hv
  go_enter Tryd.func90, Tryd.ntmps90
  go_wp2
  go_loop [11] (fun t => ∃ k : Nat, k ≤ xs.length ∧ t = .int .i64 k ∧ Hid (∀ j, j < k → between lo hi (xs.getD j 0) = true)) (fun t => xs.length - (intOf t).toNat)
  case atStart => exact ⟨0, Nat.zero_le _, rfl, Lib.hid (fun j hj => absurd hj (Nat.not_lt_zero j))⟩
  case round =>
    obtain ⟨k, hk, rfl, he⟩ := hrel
    by_cases hlt : k < xs.length
    · obtain ⟨b, o, rfl, hb, hc⟩ := HV.out k hlt
      generalize hz : xs.getD k 0 = z at hc
      have HZ := Lib.hid hz
      clear hz
      by_cases h0 : lo ≤ z ∧ z ≤ hi
      · obtain ⟨h1, h2⟩ := h0
        have H := Lib.hid (show between lo hi z = true by simp [between, h1, h2])
        go_wp2_with (go_at_call 119; refine (l1In_t _ _ _ _ h1 h2).mono ?_; rintro e w' ⟨rfl, rfl⟩)
        go_round
        case rel => exact ⟨k + 1, by omega, by go_num, Lib.hid (fun j hj => by
          by_cases c : j = k
          · rw [c, HZ.out]; exact H.out
          · exact he.out j (by omega))⟩
        case measure => simp [intOf]; omega
      · have h1 : z < lo ∨ hi < z := by omega
        have H := Lib.hid (show xs.all (between lo hi) = false from all_false hlt (by rw [HZ.out]; simp [between]; omega))
        clear h0
        go_wp2_with (go_at_call 119; refine (l1In_f _ _ _ _ h1).mono ?_; rintro e w' ⟨rfl, rfl⟩)
        go_ret
        rw [H.out]
        exact ⟨rfl, rfl⟩
    · have H := Lib.hid (show xs.all (between lo hi) = true from all_true fun j hj => he.out j (by omega))
      go_wp2
      go_ret
      rw [H.out]
      exact ⟨rfl, rfl⟩
theorem fdIn_any (w : World) (B : Nat) (v : Value) (p : Int) (xs : List Int) (hv : RdS w (fun b => b < B) v xs) (hl : xs.length ≤ 9223372036854775807) (h1 : 2 ≤ p) (h2 : p ≤ 97) :
    Calls Tryd.prog 108 #[.int .i64 p, v] w fun e w' => e = .returned (.bool (xs.all (el p))) ∧ w = w' := by
  have HV := Lib.hid hv
  obtain ⟨A, c, rfl, hv⟩ := hv
  have HE := Lib.hid (show xs.all (between 0 (p - 1)) = xs.all (el p) by congr 1; funext x; exact between_el p x)
  clear hv
  go_enter Tryd.func108, Tryd.ntmps108
  go_wp2_with fail
  refine (l1All_any w B _ xs _ _ HV.out hl).mono ?_
  rintro e w' ⟨rfl, rfl⟩
  rw [HE.out]
  go_wp2
  go_ret
  exact ⟨rfl, rfl⟩
set_option maxHeartbeats 400000 in
theorem areElements_rd (w : World) (B : Nat) (v : Value) (p : Int) (zs : List Int) (ht : Tab w) (hv : RdS w (fun b => b < B) v zs) (hl : zs.length ≤ 9223372036854775807) (hf : fld p = true) :
    Calls Tryd.prog 129 #[.int .i64 p, v] w fun e w' => e = .returned (.bool (zs.all (el p))) ∧ w = w' := by
  obtain ⟨A, c, rfl, hv⟩ := hv
  have HT := Lib.hid ht
  have HR := Lib.hid hv
  have hb := fld_bd hf
  have HF := Lib.hid hf
  clear hf ht hv
  obtain ⟨hb1, hb2⟩ := hb
  go_enter Tryd.func129, Tryd.ntmps129
  go_wp2_with fail
  refine (isField_any p w HT.out).mono ?_
  rintro e w' ⟨rfl, rfl⟩
  rw [HF.out]
  go_wp2
  go_loop [12] (fun t => ∃ k : Nat, k ≤ zs.length ∧ t = .int .i64 k ∧ Hid (∀ j, j < k → el p (zs.getD j 0) = true)) (fun t => zs.length - (intOf t).toNat)
  case atStart => exact ⟨0, Nat.zero_le _, rfl, Lib.hid (fun j hj => absurd hj (Nat.not_lt_zero j))⟩
  case round =>
    obtain ⟨k, hk, rfl, he⟩ := hrel
    by_cases hlt : k < zs.length
    · obtain ⟨b, o, rfl, hbB, hc⟩ := HR.out k hlt
      generalize hz : zs.getD k 0 = z at hc
      have HZ := Lib.hid hz
      clear hz
      by_cases h0 : z < 0
      · have H := Lib.hid (show zs.all (el p) = false from all_false hlt (by rw [HZ.out, el_not]; omega))
        go_wp2
        go_ret
        rw [H.out]
        exact ⟨rfl, rfl⟩
      · by_cases h1 : p ≤ z
        · have H := Lib.hid (show zs.all (el p) = false from all_false hlt (by rw [HZ.out, el_not]; omega))
          go_wp2
          go_ret
          rw [H.out]
          exact ⟨rfl, rfl⟩
        · go_wp2
          go_round
          case rel => exact ⟨k + 1, by omega, by go_num, Lib.hid (fun j hj => by
            by_cases c : j = k
            · rw [c, HZ.out, el_iff]; omega
            · exact he.out j (by omega))⟩
          case measure => simp [intOf]; omega
    · have H := Lib.hid (show zs.all (el p) = true from all_true fun j hj => he.out j (by omega))
      go_wp2
      go_ret
      rw [H.out]
      exact ⟨rfl, rfl⟩
/-- A struct was boxed; the answer is b. -/
def SaysB (w : World) (b : Bool) (e : Ending) (w' : World) : Prop := e = .returned (.bool b) ∧ Below w.heap.size w w'
set_option maxHeartbeats 800000 in
theorem mxGood_any (w : World) (B : Nat) (v : Value) (p cols : Int) (rows : List (List Int)) (hv : RdG w B v rows) (hB : B ≤ w.heap.size) (hn : rows.length ≤ 9223372036854775807) (hr : ∀ r, r < rows.length → (rows.getD r []).length ≤ 9223372036854775807) :
    Calls Tryd.prog 84 #[.int .i64 p, .agg #[.int .i64 cols, v]] w (SaysB w (isMat p cols rows)) := by
  obtain ⟨A, cp, rfl, hv⟩ := hv
  have HV := Lib.hid hv
  have HR := Lib.hid hr
  have HB := Lib.hid hB
  clear hv hr hB
  cases hf : fld p with
  | false =>
    have H := Lib.hid (isMat_head (p := p) (cols := cols) (rows := rows) (Or.inl hf))
    have HF := Lib.hid hf
    clear hf
    go_enter Tryd.func84, Tryd.ntmps84
    go_wp2_with fail
    refine (fdGood_any p _).mono ?_
    rintro e w' ⟨rfl, rfl⟩
    rw [HF.out]
    go_wp2
    go_ret
    rw [H.out]
    exact ⟨rfl, (Below.refl _ _).alloc (Nat.le_refl _) _⟩
  | true =>
    have HF := Lib.hid hf
    obtain ⟨h2, h97⟩ := fld_bd hf
    clear hf
    by_cases hc : cols < 0 ∨ 24 < cols
    · have H := Lib.hid (isMat_head (p := p) (cols := cols) (rows := rows) (by omega))
      go_enter Tryd.func84, Tryd.ntmps84
      go_wp2_with fail
      refine (fdGood_any p _).mono ?_
      rintro e w' ⟨rfl, rfl⟩
      rw [HF.out]
      go_wp2_with fail
      refine (l1In_f _ _ _ _ (by omega)).mono ?_
      rintro e w' ⟨rfl, rfl⟩
      go_wp2
      go_ret
      rw [H.out]
      exact ⟨rfl, (Below.refl _ _).alloc (Nat.le_refl _) _⟩
    · by_cases hlen : 24 < rows.length
      · have H := Lib.hid (isMat_head (p := p) (cols := cols) (rows := rows) (by omega))
        go_enter Tryd.func84, Tryd.ntmps84
        go_wp2_with fail
        refine (fdGood_any p _).mono ?_
        rintro e w' ⟨rfl, rfl⟩
        rw [HF.out]
        go_wp2_with fail
        refine (l1In_t _ _ _ _ (by omega) (by omega)).mono ?_
        rintro e w' ⟨rfl, rfl⟩
        go_wp2
        go_ret
        rw [H.out]
        exact ⟨rfl, (Below.refl _ _).alloc (Nat.le_refl _) _⟩
      · have hlen2 : rows.length ≤ 24 := by omega
        have hc0 : 0 ≤ cols := by omega
        have hc24 : cols ≤ 24 := by omega
        clear hc hlen
        go_enter Tryd.func84, Tryd.ntmps84
        go_wp2_with fail
        refine (fdGood_any p _).mono ?_
        rintro e w' ⟨rfl, rfl⟩
        rw [HF.out]
        go_wp2_with fail
        refine (l1In_t _ _ _ _ (by omega) (by omega)).mono ?_
        rintro e w' ⟨rfl, rfl⟩
        go_wp2
        go_loop [25, 6] (fun t r => ∃ k : Nat, k ≤ rows.length ∧ t = .int .i64 k ∧ Hid (∀ j, j < k → rowB p cols (rows.getD j []) = true)) (fun t _ => rows.length - (intOf t).toNat)
        case atStart => exact ⟨0, Nat.zero_le _, rfl, Lib.hid (fun j hj => absurd hj (Nat.not_lt_zero j))⟩
        case round =>
          obtain ⟨k, hk, rfl, he⟩ := hrel
          by_cases hlt : k < rows.length
          · obtain ⟨b, o, u, rfl, hbB, hcell, hrow⟩ := HV.out k hlt
            have hbN : b < w.heap.size := Nat.lt_of_lt_of_le hbB HB.out
            have hcell2 : ∀ ob, (w.alloc ob).cell? ⟨b, o + k, none⟩ = some u := fun ob => (((Below.refl _ w).alloc (Nat.le_refl _) ob).cell (p := ⟨b, o + k, none⟩) hbN).trans hcell
            have HROW : Hid (∀ ob, RdS (w.alloc ob) (fun b => b < B) u (rows.getD k [])) := Lib.hid fun ob => hrow.below ((Below.refl _ w).alloc (Nat.le_refl _) ob) HB.out
            have hrl := HR.out k hlt
            clear hcell
            obtain ⟨A2, c2, rfl, hrr⟩ := hrow
            clear hrr
            generalize hy : rows.getD k [] = xk at hcell2 HROW hrl
            have HY := Lib.hid hy
            clear hy
            by_cases hcl : (xk.length : Int) = cols
            · have hq : ((xk.length : Int) != cols) = false := by simp [hcl]
              have HCL := Lib.hid hcl
              clear hcl
              cases hall : xk.all (el p) with
              | true =>
                have HALL := Lib.hid hall
                have HG := Lib.hid (show rowB p cols xk = true by unfold rowB; rw [hall, HCL.out]; simp)
                clear hall
                go_wp2_with fail
                refine (fdIn_any _ B _ p xk (HROW.out _) hrl h2 h97).mono ?_
                rintro e w' ⟨rfl, rfl⟩
                rw [HALL.out]
                go_wp2
                go_round
                case rel => exact ⟨k + 1, by omega, by go_num, Lib.hid (fun j hj => by
                  by_cases c : j = k
                  · rw [c, HY.out]; exact HG.out
                  · exact he.out j (by omega))⟩
                case measure => simp [intOf]; omega
              | false =>
                have HALL := Lib.hid hall
                have HG := Lib.hid (isMat_bad hlt (show rowB p cols (rows.getD k []) = false by rw [HY.out]; unfold rowB; rw [hall]; simp))
                clear hall
                go_wp2_with fail
                refine (fdIn_any _ B _ p xk (HROW.out _) hrl h2 h97).mono ?_
                rintro e w' ⟨rfl, rfl⟩
                rw [HALL.out]
                go_wp2
                go_ret
                rw [HG.out]
                exact ⟨rfl, (Below.refl _ _).alloc (Nat.le_refl _) _⟩
            · have hq : ((xk.length : Int) != cols) = true := by simp [hcl]
              have HG := Lib.hid (isMat_bad hlt (show rowB p cols (rows.getD k []) = false by rw [HY.out]; unfold rowB; simp [hcl]))
              clear hcl
              go_wp2
              go_ret
              rw [HG.out]
              exact ⟨rfl, (Below.refl _ _).alloc (Nat.le_refl _) _⟩
          · have H := Lib.hid (isMat_good HF.out hc0 hc24 hlen2 fun j hj => he.out j (by omega))
            go_wp2
            go_ret
            rw [H.out]
            exact ⟨rfl, (Below.refl _ _).alloc (Nat.le_refl _) _⟩

/-- A field, and rows of n elements of it. -/
def areL (p n : Int) (rows : List (List Int)) : Bool := fld p && rows.all (rowB p n)
theorem areL_bad {p n : Int} {rows : List (List Int)} {j : Nat} (hj : j < rows.length) (h : rowB p n (rows.getD j []) = false) : areL p n rows = false := by
  cases e : areL p n rows with
  | false => rfl
  | true =>
    unfold areL at e
    simp only [Bool.and_eq_true, List.all_eq_true] at e
    rw [e.2 _ (getD_mem' hj [])] at h
    cases h
theorem areL_good {p n : Int} {rows : List (List Int)} (hf : fld p = true) (h : ∀ j, j < rows.length → rowB p n (rows.getD j []) = true) : areL p n rows = true := by
  unfold areL
  rw [hf, Bool.true_and, List.all_eq_true]
  intro r hr
  obtain ⟨i, hi, rfl⟩ := List.getElem_of_mem hr
  have := h i hi
  rwa [List.getD_eq_getElem?_getD, List.getElem?_eq_getElem hi] at this
theorem isMat_areL (p cols : Int) (rows : List (List Int)) : isMat p cols rows = (decide (0 ≤ cols) && decide (cols ≤ 24) && decide (rows.length ≤ 24) && areL p cols rows) := by
  unfold isMat areL rowB
  cases fld p <;> simp
set_option maxHeartbeats 800000 in
theorem areLists_any (w : World) (B : Nat) (v : Value) (p n : Int) (rows : List (List Int)) (ht : Tab w) (hv : RdG w B v rows) (hn : rows.length ≤ 9223372036854775807) (hr : ∀ r, r < rows.length → (rows.getD r []).length ≤ 9223372036854775807) :
    Calls Tryd.prog 111 #[.int .i64 p, .int .i64 n, v] w fun e w' => e = .returned (.bool (areL p n rows)) ∧ w = w' := by
  obtain ⟨A, cp, rfl, hv⟩ := hv
  have HV := Lib.hid hv
  have HR := Lib.hid hr
  have HT := Lib.hid ht
  clear hv hr ht
  cases hf : fld p with
  | false =>
    have H := Lib.hid (show areL p n rows = false by unfold areL; rw [hf]; rfl)
    have HF := Lib.hid hf
    clear hf
    go_enter Tryd.func111, Tryd.ntmps111
    go_wp2_with fail
    refine (isField_any p _ HT.out).mono ?_
    rintro e w' ⟨rfl, rfl⟩
    rw [HF.out]
    go_wp2
    go_ret
    rw [H.out]
    exact ⟨rfl, rfl⟩
  | true =>
    have HF := Lib.hid hf
    clear hf
    go_enter Tryd.func111, Tryd.ntmps111
    go_wp2_with fail
    refine (isField_any p _ HT.out).mono ?_
    rintro e w' ⟨rfl, rfl⟩
    rw [HF.out]
    go_wp2
    go_loop [14, 8] (fun t r => ∃ k : Nat, k ≤ rows.length ∧ t = .int .i64 k ∧ Hid (∀ j, j < k → rowB p n (rows.getD j []) = true)) (fun t _ => rows.length - (intOf t).toNat)
    case atStart => exact ⟨0, Nat.zero_le _, rfl, Lib.hid (fun j hj => absurd hj (Nat.not_lt_zero j))⟩
    case round =>
      obtain ⟨k, hk, rfl, he⟩ := hrel
      by_cases hlt : k < rows.length
      · obtain ⟨b, o, u, rfl, hbB, hcell, hrow⟩ := HV.out k hlt
        have HROW := Lib.hid hrow
        have hrl := HR.out k hlt
        obtain ⟨A2, c2, rfl, hrr⟩ := hrow
        clear hrr
        generalize hy : rows.getD k [] = xk at hcell HROW hrl
        have HY := Lib.hid hy
        clear hy
        by_cases hcl : (xk.length : Int) = n
        · have hq : ((xk.length : Int) != n) = false := by simp [hcl]
          have HCL := Lib.hid hcl
          clear hcl
          cases hall : xk.all (el p) with
          | true =>
            have HALL := Lib.hid hall
            have HG := Lib.hid (show rowB p n xk = true by unfold rowB; rw [hall, HCL.out]; simp)
            clear hall
            go_wp2_with fail
            refine (areElements_rd _ B _ p xk HT.out HROW.out hrl HF.out).mono ?_
            rintro e w' ⟨rfl, rfl⟩
            rw [HALL.out]
            go_wp2
            go_round
            case rel => exact ⟨k + 1, by omega, by go_num, Lib.hid (fun j hj => by
              by_cases c : j = k
              · rw [c, HY.out]; exact HG.out
              · exact he.out j (by omega))⟩
            case measure => simp [intOf]; omega
          | false =>
            have HALL := Lib.hid hall
            have HG := Lib.hid (areL_bad hlt (show rowB p n (rows.getD k []) = false by rw [HY.out]; unfold rowB; rw [hall]; simp))
            clear hall
            go_wp2_with fail
            refine (areElements_rd _ B _ p xk HT.out HROW.out hrl HF.out).mono ?_
            rintro e w' ⟨rfl, rfl⟩
            rw [HALL.out]
            go_wp2
            go_ret
            rw [HG.out]
            exact ⟨rfl, rfl⟩
        · have hq : ((xk.length : Int) != n) = true := by simp [hcl]
          have HG := Lib.hid (areL_bad hlt (show rowB p n (rows.getD k []) = false by rw [HY.out]; unfold rowB; simp [hcl]))
          clear hcl
          go_wp2
          go_ret
          rw [HG.out]
          exact ⟨rfl, rfl⟩
      · have H := Lib.hid (areL_good HF.out fun j hj => he.out j (by omega))
        go_wp2
        go_ret
        rw [H.out]
        exact ⟨rfl, rfl⟩
set_option maxHeartbeats 800000 in
theorem implIsMatrix_any (w : World) (B : Nat) (v : Value) (p cols : Int) (rows : List (List Int)) (ht : Tab w) (hv : RdG w B v rows) (hB : B ≤ w.heap.size) (hn : rows.length ≤ 9223372036854775807) (hr : ∀ r, r < rows.length → (rows.getD r []).length ≤ 9223372036854775807) :
    Calls Tryd.prog 87 #[.int .i64 p, .agg #[.int .i64 cols, v]] w (SaysB w (isMat p cols rows)) := by
  obtain ⟨A, cp, rfl⟩ := hv.len
  have HV := Lib.hid hv
  have HR := Lib.hid hr
  have HB := Lib.hid hB
  have HT : Hid (∀ ob, Tab (w.alloc ob)) := Lib.hid fun ob => ht.below ((Below.refl _ w).alloc (Nat.le_refl _) ob)
  have HE := Lib.hid (isMat_areL p cols rows)
  clear hv hr hB ht
  by_cases h0 : 0 ≤ cols
  · by_cases h1 : cols ≤ 24
    · by_cases h2 : rows.length ≤ 24
      · have H := Lib.hid (show isMat p cols rows = areL p cols rows by rw [HE.out]; simp [h0, h1, h2])
        have h2' : (rows.length : Int) ≤ 24 := by omega
        go_enter Tryd.func87, Tryd.ntmps87
        go_wp2_with fail
        refine (areLists_any _ B _ p cols rows (HT.out _) (HV.out.below ((Below.refl _ w).alloc (Nat.le_refl _) _) HB.out) hn HR.out).mono ?_
        rintro e w' ⟨rfl, rfl⟩
        rw [← H.out]
        go_wp2
        go_ret
        exact ⟨rfl, (Below.refl _ _).alloc (Nat.le_refl _) _⟩
      · have H := Lib.hid (isMat_head (p := p) (cols := cols) (rows := rows) (by omega))
        have h2' : ¬ (rows.length : Int) ≤ 24 := by omega
        go_enter Tryd.func87, Tryd.ntmps87
        go_wp2
        go_ret
        rw [H.out]
        exact ⟨rfl, (Below.refl _ _).alloc (Nat.le_refl _) _⟩
    · have H := Lib.hid (isMat_head (p := p) (cols := cols) (rows := rows) (by omega))
      go_enter Tryd.func87, Tryd.ntmps87
      go_wp2
      go_ret
      rw [H.out]
      exact ⟨rfl, (Below.refl _ _).alloc (Nat.le_refl _) _⟩
  · have H := Lib.hid (isMat_head (p := p) (cols := cols) (rows := rows) (by omega))
    go_enter Tryd.func87, Tryd.ntmps87
    go_wp2
    go_ret
    rw [H.out]
    exact ⟨rfl, (Below.refl _ _).alloc (Nat.le_refl _) _⟩
end Go.Proofs.YtahlicbjbbpihaaDoor
