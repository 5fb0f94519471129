/- MxMake MxGood MxFuncs MxMul in one text. -/
import Derived.Test.YtdjgkcnhmfkjoaaDoorMem
import Derived.Test.YtdjgkcnhmfkjoaaDoorMath
import Derived.Test.YtdjgkcnhmfkjoaaDoorFdWalks
import Derived.Deep.RegionHeld3
import Derived.Test.YtdjgkcnhmfkjoaaDoorFdWalks2
import Derived.StillTailTactics
import Derived.Deep.RegionLaw
/-! Zero matrices and unit matrices: both sides. -/
namespace Go.Proofs.YtdjgkcnhmfkjoaaDoor
set_option maxRecDepth 100000
open Go Go.RowKit Go.Deep

set_option maxHeartbeats 400000 in
theorem zeroRows_any (w : World) (n c : Nat) (hn : n ≤ 1000000) (hc : c ≤ 1000000) :
    Calls Tryd.prog 55 #[.int .i64 n, .int .i64 c] w (MadeG w (List.replicate n (List.replicate c 0))) := by
  have hmk := make_rows n (by omega)
  have hmk2 := make_ints c (by omega)
  go_enter Tryd.func55, Tryd.ntmps55
  go_wp2
  go_loopw [11, 6] (fun i t wr => ∃ (k : Nat) (vs : List Value), k ≤ n ∧ i = .int .i64 k ∧ Hid (Below w.heap.size w wr) ∧ Hid (w.heap.size < wr.heap.size) ∧ Hid (GridAt wr tI tR (fun b => w.heap.size ≤ b ∧ b < wr.heap.size) w.heap.size vs (upd (fun _ _ => List.replicate c 0) k (List.replicate n [])))) (fun i _ _ => n - (intOf i).toNat)
  case atStart => exact ⟨0, _, Nat.zero_le _, rfl, Lib.hid ((Below.refl _ _).alloc (Nat.le_refl _) _), Lib.hid (by rw [nblk_alloc]; omega), Lib.hid (by rw [upd_zero]; exact made_grid w _ _ ⟨Nat.le_refl _, by rw [nblk_alloc]; omega⟩)⟩
  case round =>
    obtain ⟨k, vs, hk, rfl, HB, HS, HG⟩ := hrel
    have HLN := Lib.hid (show (upd (fun _ _ => List.replicate c (0 : Int)) k (List.replicate n [])).length = n by rw [upd_len, List.length_replicate])
    by_cases hlt : k < n
    · have hg : w.heap.size < wr.heap.size := HS.out
      have hcell : ∀ o, (wr.alloc o).cell? ⟨w.heap.size, k, none⟩ = some (vs.getD k .nilFunc) := fun o => (World.cell?_of_block (w := wr) (blk_alloc_lt wr o _ hg)).trans (HG.out.cell (by rw [HLN.out]; exact hlt))
      have hf : ∀ o, (wr.alloc o).frozen? ⟨w.heap.size, k, none⟩ = false := fun o => (World.frozen?_of_block (w := wr) (blk_alloc_lt wr o _ hg)).trans (HG.out.outer.frozen k)
      have HP := Lib.hid (HG.out.putNew (fun q h => h.2) (r := k) (by rw [HLN.out]; exact hlt) (cs := madeCells #[.int .i64 0] c) (xs := List.replicate c 0) (n := c) (c := c) (by rw [toList_madeCells_one]; simp [icells]) (by simp))
      generalize vs.getD k Value.nilFunc = u at hcell
      go_wp2
      go_roundw
      case rel => exact ⟨k + 1, _, by omega, by go_num, Lib.hid ((HB.out.setCell (p := ⟨w.heap.size, k, none⟩) (Nat.le_refl _) _).alloc (by rw [nblk_setCell]; exact HB.out.size) _), Lib.hid (by rw [nblk_alloc, nblk_setCell]; have := HS.out; omega), Lib.hid (by
        have := HP.out
        rw [upd_step (fun _ _ => List.replicate c (0 : Int)) (by rw [List.length_replicate]; exact hlt) []] at this
        exact this.mono (T := fun b => w.heap.size ≤ b ∧ b < _) (fun q h hq => ⟨by have := HS.out; omega, hq⟩))⟩
      case measure => simp [intOf]; omega
    · go_wp2
      go_ret
      refine ⟨_, rfl, HB.out, some ⟨w.heap.size, 0, none⟩, n, by simp, by simp, Or.inr ⟨_, vs, rfl, ?_⟩⟩
      have := HG.out
      rw [upd_all _ (by rw [List.length_replicate]; omega), upd_repl] at this
      exact this.mono (fun q h _ => h.1)
end Go.Proofs.YtdjgkcnhmfkjoaaDoor

/-! Whether a matrix is one over the field: both sides. -/
namespace Go.Proofs.YtdjgkcnhmfkjoaaDoor
open Go Go.RowKit Go.Deep

def rowB (p cols : Int) (r : List Int) : Bool := decide ((r.length : Int) = cols) && r.all (el p)
theorem isMat_head {p cols : Int} {rows : List (List Int)} (h : fld p = false ∨ cols < 0 ∨ 24 < cols ∨ 24 < rows.length) : isMat p cols rows = false := by
  cases e : isMat p cols rows with
  | false => rfl
  | true =>
    obtain ⟨h1, h2, c, h3, h4, h5⟩ := (isMat_iff _ _ _).1 e
    rw [h1] at h
    simp at h
    omega
theorem isMat_bad {p cols : Int} {rows : List (List Int)} {j : Nat} (hj : j < rows.length) (h : rowB p cols (rows.getD j []) = false) : isMat p cols rows = false := by
  cases e : isMat p cols rows with
  | false => rfl
  | true =>
    unfold isMat at e
    simp only [Bool.and_eq_true, List.all_eq_true] at e
    have := e.2 _ (getD_mem' hj [])
    unfold rowB at h
    simp only [Bool.and_eq_false_iff] at h this
    rcases h with h | h
    · rw [this.1] at h; cases h
    · rw [List.all_eq_true.2 this.2] at h; cases h
theorem isMat_good {p cols : Int} {rows : List (List Int)} (h1 : fld p = true) (h2 : 0 ≤ cols) (h3 : cols ≤ 24) (h4 : rows.length ≤ 24) (h : ∀ j, j < rows.length → rowB p cols (rows.getD j []) = true) : isMat p cols rows = true := by
  unfold isMat
  simp only [Bool.and_eq_true, decide_eq_true_eq, List.all_eq_true]
  refine ⟨⟨⟨⟨h1, h2⟩, h3⟩, h4⟩, fun r hr => ?_⟩
  obtain ⟨i, hi, rfl⟩ := List.getElem_of_mem hr
  have := h i hi
  rw [List.getD_eq_getElem?_getD, List.getElem?_eq_getElem hi] at this
  unfold rowB at this
  simp only [Option.getD_some, Bool.and_eq_true, decide_eq_true_eq, List.all_eq_true] at this
  exact ⟨this.1, this.2⟩

def between (lo hi : Int) (x : Int) : Bool := decide (lo ≤ x) && decide (x ≤ hi)
theorem between_el (p x : Int) : between 0 (p - 1) x = el p x := by
  rw [Bool.eq_iff_iff, el_iff]
  simp [between]
  omega
theorem all_false {f : Int → Bool} {xs : List Int} {k : Nat} (hk : k < xs.length) (h : f (xs.getD k 0) = false) : xs.all f = false := by
  cases e : xs.all f with
  | false => rfl
  | true => rw [List.all_eq_true.1 e _ (getD_mem' hk 0)] at h; cases h
theorem all_true {f : Int → Bool} {xs : List Int} (h : ∀ j, j < xs.length → f (xs.getD j 0) = true) : xs.all f = true := by
  rw [List.all_eq_true]
  intro x hx
  obtain ⟨i, hi, rfl⟩ := List.getElem_of_mem hx
  have := h i hi
  rwa [List.getD_eq_getElem?_getD, List.getElem?_eq_getElem hi] at this
set_option maxHeartbeats 400000 in
theorem l1All_any (w : World) (B : Nat) (v : Value) (xs : List Int) (lo hi : Int) (hv : RdS w (fun b => b < B) v xs) (hl : xs.length ≤ 9223372036854775807) :
    Calls Tryd.prog 72 #[v, .int .i64 lo, .int .i64 hi] w fun e w' => e = .returned (.bool (xs.all (between lo hi))) ∧ w = w' := by
  obtain ⟨A, c, rfl, kc_c, hv⟩ := hv
  have HV := Lib.hid hv
  clear hv
  go_enter Tryd.func72, Tryd.ntmps72
  go_wp2
  go_loop [11] (fun t => ∃ k : Nat, k ≤ xs.length ∧ t = .int .i64 k ∧ Hid (∀ j, j < k → between lo hi (xs.getD j 0) = true)) (fun t => xs.length - (intOf t).toNat)
  case atStart => exact ⟨0, Nat.zero_le _, rfl, Lib.hid (fun j hj => absurd hj (Nat.not_lt_zero j))⟩
  case round =>
    obtain ⟨k, hk, rfl, he⟩ := hrel
    by_cases hlt : k < xs.length
    · obtain ⟨b, o, rfl, hb, hc⟩ := HV.out k hlt
      generalize hz : xs.getD k 0 = z at hc
      have HZ := Lib.hid hz
      clear hz
      by_cases h0 : lo ≤ z ∧ z ≤ hi
      · obtain ⟨h1, h2⟩ := h0
        have H := Lib.hid (show between lo hi z = true by simp [between, h1, h2])
        go_wp2_with (go_at_call 22; refine (l1In_t _ _ _ _ h1 h2).mono ?_; rintro e w' ⟨rfl, rfl⟩)
        go_round
        case rel => exact ⟨k + 1, by omega, by go_num, Lib.hid (fun j hj => by
          by_cases c : j = k
          · rw [c, HZ.out]; exact H.out
          · exact he.out j (by omega))⟩
        case measure => simp [intOf]; omega
      · have h1 : z < lo ∨ hi < z := by omega
        have H := Lib.hid (show xs.all (between lo hi) = false from all_false hlt (by rw [HZ.out]; simp [between]; omega))
        clear h0
        go_wp2_with (go_at_call 22; refine (l1In_f _ _ _ _ h1).mono ?_; rintro e w' ⟨rfl, rfl⟩)
        go_ret
        rw [H.out]
        exact ⟨rfl, rfl⟩
    · have H := Lib.hid (show xs.all (between lo hi) = true from all_true fun j hj => he.out j (by omega))
      go_wp2
      go_ret
      rw [H.out]
      exact ⟨rfl, rfl⟩
theorem fdIn_any (w : World) (B : Nat) (v : Value) (p : Int) (xs : List Int) (hv : RdS w (fun b => b < B) v xs) (hl : xs.length ≤ 9223372036854775807) (h1 : 2 ≤ p) (h2 : p ≤ 97) :
    Calls Tryd.prog 60 #[.int .i64 p, v] w fun e w' => e = .returned (.bool (xs.all (el p))) ∧ w = w' := by
  have HV := Lib.hid hv
  obtain ⟨A, c, rfl, kc_c, hv⟩ := hv
  have HE := Lib.hid (show xs.all (between 0 (p - 1)) = xs.all (el p) by congr 1; funext x; exact between_el p x)
  clear hv
  go_enter Tryd.func60, Tryd.ntmps60
  go_wp2_with fail
  refine (l1All_any w B _ xs _ _ HV.out hl).mono ?_
  rintro e w' ⟨rfl, rfl⟩
  rw [HE.out]
  go_wp2
  go_ret
  exact ⟨rfl, rfl⟩
set_option maxHeartbeats 400000 in
theorem areElements_rd (w : World) (B : Nat) (v : Value) (p : Int) (zs : List Int) (ht : Tab w) (hv : RdS w (fun b => b < B) v zs) (hl : zs.length ≤ 9223372036854775807) (hf : fld p = true) :
    Calls Tryd.prog 66 #[.int .i64 p, v] w fun e w' => e = .returned (.bool (zs.all (el p))) ∧ w = w' := by
  obtain ⟨A, c, rfl, kc_c, hv⟩ := hv
  have HT := Lib.hid ht
  have HR := Lib.hid hv
  have hb := fld_bd hf
  have HF := Lib.hid hf
  clear hf ht hv
  obtain ⟨hb1, hb2⟩ := hb
  go_enter Tryd.func66, Tryd.ntmps66
  go_wp2_with fail
  refine (isField_any p w HT.out).mono ?_
  rintro e w' ⟨rfl, rfl⟩
  rw [HF.out]
  go_wp2
  go_loop [12] (fun t => ∃ k : Nat, k ≤ zs.length ∧ t = .int .i64 k ∧ Hid (∀ j, j < k → el p (zs.getD j 0) = true)) (fun t => zs.length - (intOf t).toNat)
  case atStart => exact ⟨0, Nat.zero_le _, rfl, Lib.hid (fun j hj => absurd hj (Nat.not_lt_zero j))⟩
  case round =>
    obtain ⟨k, hk, rfl, he⟩ := hrel
    by_cases hlt : k < zs.length
    · obtain ⟨b, o, rfl, hbB, hc⟩ := HR.out k hlt
      generalize hz : zs.getD k 0 = z at hc
      have HZ := Lib.hid hz
      clear hz
      by_cases h0 : z < 0
      · have H := Lib.hid (show zs.all (el p) = false from all_false hlt (by rw [HZ.out, el_not]; omega))
        go_wp2
        go_ret
        rw [H.out]
        exact ⟨rfl, rfl⟩
      · by_cases h1 : p ≤ z
        · have H := Lib.hid (show zs.all (el p) = false from all_false hlt (by rw [HZ.out, el_not]; omega))
          go_wp2
          go_ret
          rw [H.out]
          exact ⟨rfl, rfl⟩
        · go_wp2
          go_round
          case rel => exact ⟨k + 1, by omega, by go_num, Lib.hid (fun j hj => by
            by_cases c : j = k
            · rw [c, HZ.out, el_iff]; omega
            · exact he.out j (by omega))⟩
          case measure => simp [intOf]; omega
    · have H := Lib.hid (show zs.all (el p) = true from all_true fun j hj => he.out j (by omega))
      go_wp2
      go_ret
      rw [H.out]
      exact ⟨rfl, rfl⟩
/-- A struct was boxed; the answer is b. -/
def SaysB (w : World) (b : Bool) (e : Ending) (w' : World) : Prop := e = .returned (.bool b) ∧ Below w.heap.size w w'
/-- A field, and rows of n elements of it. -/
def areL (p n : Int) (rows : List (List Int)) : Bool := fld p && rows.all (rowB p n)
theorem areL_bad {p n : Int} {rows : List (List Int)} {j : Nat} (hj : j < rows.length) (h : rowB p n (rows.getD j []) = false) : areL p n rows = false := by
  cases e : areL p n rows with
  | false => rfl
  | true =>
    unfold areL at e
    simp only [Bool.and_eq_true, List.all_eq_true] at e
    rw [e.2 _ (getD_mem' hj [])] at h
    cases h
theorem areL_good {p n : Int} {rows : List (List Int)} (hf : fld p = true) (h : ∀ j, j < rows.length → rowB p n (rows.getD j []) = true) : areL p n rows = true := by
  unfold areL
  rw [hf, Bool.true_and, List.all_eq_true]
  intro r hr
  obtain ⟨i, hi, rfl⟩ := List.getElem_of_mem hr
  have := h i hi
  rwa [List.getD_eq_getElem?_getD, List.getElem?_eq_getElem hi] at this
theorem isMat_areL (p cols : Int) (rows : List (List Int)) : isMat p cols rows = (decide (0 ≤ cols) && decide (cols ≤ 24) && decide (rows.length ≤ 24) && areL p cols rows) := by
  unfold isMat areL rowB
  cases fld p <;> simp
set_option maxHeartbeats 800000 in
theorem areLists_any (w : World) (B : Nat) (v : Value) (p n : Int) (rows : List (List Int)) (ht : Tab w) (hv : RdG w B v rows) (hn : rows.length ≤ 9223372036854775807) (hr : ∀ r, r < rows.length → (rows.getD r []).length ≤ 9223372036854775807) :
    Calls Tryd.prog 50 #[.int .i64 p, .int .i64 n, v] w fun e w' => e = .returned (.bool (areL p n rows)) ∧ w = w' := by
  obtain ⟨A, cp, rfl, kc_cp, hv⟩ := hv
  have HV := Lib.hid hv
  have HR := Lib.hid hr
  have HT := Lib.hid ht
  clear hv hr ht
  cases hf : fld p with
  | false =>
    have H := Lib.hid (show areL p n rows = false by unfold areL; rw [hf]; rfl)
    have HF := Lib.hid hf
    clear hf
    go_enter Tryd.func50, Tryd.ntmps50
    go_wp2_with fail
    refine (isField_any p _ HT.out).mono ?_
    rintro e w' ⟨rfl, rfl⟩
    rw [HF.out]
    go_wp2
    go_ret
    rw [H.out]
    exact ⟨rfl, rfl⟩
  | true =>
    have HF := Lib.hid hf
    clear hf
    go_enter Tryd.func50, Tryd.ntmps50
    go_wp2_with fail
    refine (isField_any p _ HT.out).mono ?_
    rintro e w' ⟨rfl, rfl⟩
    rw [HF.out]
    go_wp2
    go_loop [14, 8] (fun t r => ∃ k : Nat, k ≤ rows.length ∧ t = .int .i64 k ∧ Hid (∀ j, j < k → rowB p n (rows.getD j []) = true)) (fun t _ => rows.length - (intOf t).toNat)
    case atStart => exact ⟨0, Nat.zero_le _, rfl, Lib.hid (fun j hj => absurd hj (Nat.not_lt_zero j))⟩
    case round =>
      obtain ⟨k, hk, rfl, he⟩ := hrel
      by_cases hlt : k < rows.length
      · obtain ⟨b, o, u, rfl, hbB, hcell, hrow⟩ := HV.out k hlt
        have HROW := Lib.hid hrow
        have hrl := HR.out k hlt
        obtain ⟨A2, c2, rfl, kc_c2, hrr⟩ := hrow
        clear hrr
        generalize hy : rows.getD k [] = xk at hcell HROW hrl
        have HY := Lib.hid hy
        clear hy
        by_cases hcl : (xk.length : Int) = n
        · have hq : ((xk.length : Int) != n) = false := by simp [hcl]
          have HCL := Lib.hid hcl
          clear hcl
          cases hall : xk.all (el p) with
          | true =>
            have HALL := Lib.hid hall
            have HG := Lib.hid (show rowB p n xk = true by unfold rowB; rw [hall, HCL.out]; simp)
            clear hall
            go_wp2_with fail
            refine (areElements_rd _ B _ p xk HT.out HROW.out hrl HF.out).mono ?_
            rintro e w' ⟨rfl, rfl⟩
            rw [HALL.out]
            go_wp2
            go_round
            case rel => exact ⟨k + 1, by omega, by go_num, Lib.hid (fun j hj => by
              by_cases c : j = k
              · rw [c, HY.out]; exact HG.out
              · exact he.out j (by omega))⟩
            case measure => simp [intOf]; omega
          | false =>
            have HALL := Lib.hid hall
            have HG := Lib.hid (areL_bad hlt (show rowB p n (rows.getD k []) = false by rw [HY.out]; unfold rowB; rw [hall]; simp))
            clear hall
            go_wp2_with fail
            refine (areElements_rd _ B _ p xk HT.out HROW.out hrl HF.out).mono ?_
            rintro e w' ⟨rfl, rfl⟩
            rw [HALL.out]
            go_wp2
            go_ret
            rw [HG.out]
            exact ⟨rfl, rfl⟩
        · have hq : ((xk.length : Int) != n) = true := by simp [hcl]
          have HG := Lib.hid (areL_bad hlt (show rowB p n (rows.getD k []) = false by rw [HY.out]; unfold rowB; simp [hcl]))
          clear hcl
          go_wp2
          go_ret
          rw [HG.out]
          exact ⟨rfl, rfl⟩
      · have H := Lib.hid (areL_good HF.out fun j hj => he.out j (by omega))
        go_wp2
        go_ret
        rw [H.out]
        exact ⟨rfl, rfl⟩
end Go.Proofs.YtdjgkcnhmfkjoaaDoor

/-! Sums, products, copies, transposed matrices: both sides. -/
namespace Go.Proofs.YtdjgkcnhmfkjoaaDoor
open Go Go.RowKit Go.Deep

/-- A row was changed in place. -/
def Wrote (w : World) (T : Nat → Prop) (v : Value) (ys : List Int) (e : Ending) (w' : World) : Prop := e = .returned (.tuple #[]) ∧ Touch T w w' ∧ OwR w' tI T v ys
set_option maxHeartbeats 400000 in
theorem addToRow_any (w : World) (T : Nat → Prop) (vt vs : Value) (p f : Int) (ts xs : List Int) (h1 : 2 ≤ p) (h2 : p ≤ 97) (ho : OwR w tI T vt ts) (hs : RdS w (fun b => ¬ T b) vs xs) (hl : xs.length = ts.length) (hn : ts.length ≤ 1000000)
    (hbt : ∀ x, x ∈ ts → 0 ≤ x ∧ x < p) (hbs : ∀ x, x ∈ xs → 0 ≤ x ∧ x < p) (hf0 : 0 ≤ f) (hf1 : f < p) :
    Calls Tryd.prog 69 #[.int .i64 p, vt, .int .i64 f, vs] w (Wrote w T vt (axpy p ts f xs)) := by
  obtain ⟨A, c, rfl⟩ := ho.len
  obtain ⟨A2, c2, rfl, kc_c2, hsc⟩ := hs
  have HS := Lib.hid (show RdS w (fun b => ¬ T b) (.slice A2 xs.length c2) xs from ⟨A2, c2, rfl, kc_c2, hsc⟩)
  have HO := Lib.hid ho
  have HL := Lib.hid hl
  have HBT := Lib.hid hbt
  have HBS := Lib.hid hbs
  have hxn : xs.length ≤ 1000000 := by omega
  clear ho hsc hbt hbs hl
  go_enter Tryd.func69, Tryd.ntmps69
  go_wp2
  go_loopw [12, 8, 9] (fun i _ _ wr => ∃ k : Nat, k ≤ xs.length ∧ i = .int .i64 k ∧ Hid (Touch T w wr) ∧ Hid (OwR wr tI T (.slice A ts.length c) (upd (fun j x => (x + f * xs.getD j 0) % p) k ts))) (fun i _ _ _ => xs.length - (intOf i).toNat)
  case atStart => exact ⟨0, Nat.zero_le _, rfl, Lib.hid (Touch.refl _ _), Lib.hid (by rw [upd_zero]; exact HO.out)⟩
  case round =>
    obtain ⟨k, hk, rfl, HT, HR⟩ := hrel
    by_cases hlt : k < xs.length
    · have HLT := Lib.hid (show k < ts.length by rw [← HL.out]; exact hlt)
      obtain ⟨b0, o0, rfl, hb0, hc0⟩ := (HS.out.touch HT.out (fun _ h => h)).at hlt
      obtain ⟨b1, c1, e1, hb1, hs1, hc1, hf1, hset⟩ := HR.out.at (j := k) (by rw [upd_len]; exact HLT.out)
      rw [upd_len] at e1
      obtain ⟨rfl, rfl⟩ : A = some ⟨b1, 0, none⟩ ∧ c = c1 := by simpa using e1
      have HSET := Lib.hid hset
      have HT1 := Lib.hid hb1
      have HXV := Lib.hid (upd_getD (fun j x => (x + f * xs.getD j 0) % p) (Nat.le_refl k) ts 0)
      rw [HXV.out] at hc1
      have hz := HBS.out _ (getD_mem' hlt 0)
      have hy := HBT.out _ (getD_mem' HLT.out 0)
      have HG := Lib.hid (show ((ts.getD k 0) + f * xs.getD k 0) % p = (fun j x => (x + f * xs.getD j 0) % p) k (ts.getD k 0) from rfl)
      clear hset hb1 hb0 e1
      generalize xs.getD k 0 = z at hc0 hz HG
      generalize ts.getD k 0 = y at hc1 hy HG HXV
      obtain ⟨hz0, hz1⟩ := hz
      obtain ⟨hy0, hy1⟩ := hy
      have hm0 : 0 ≤ f * z := Int.mul_nonneg hf0 hz0
      have hm1 : f * z ≤ 97 * 97 := Int.mul_le_mul (by omega) (by omega) hz0 (by omega)
      go_wp2
      go_roundw
      case rel => exact ⟨k + 1, by omega, by go_num, Lib.hid (HT.out.setCell (Or.inl HT1.out) _), Lib.hid (by
        have := HSET.out ((y + f * z) % p)
        rw [HG.out, ← HXV.out, upd_getD _ (Nat.le_refl k), upd_step _ HLT.out 0] at this
        rw [HG.out, ← HXV.out, upd_getD _ (Nat.le_refl k)]
        exact this)⟩
      case measure => simp [intOf]; omega
    · go_wp2
      go_end0
      refine ⟨rfl, HT.out, ?_⟩
      have := HR.out
      rw [upd_all _ (by rw [← HL.out]; omega)] at this
      exact this
end Go.Proofs.YtdjgkcnhmfkjoaaDoor

/-! Products: both sides. -/
namespace Go.Proofs.YtdjgkcnhmfkjoaaDoor
open Go Go.RowKit Go.Deep

theorem upd_end {α : Type} (g : Nat → α → α) {k : Nat} {xs : List α} (h : xs.length ≤ k) : upd g k xs = xs.mapIdx g := upd_all g h
theorem OwR.drew {w : World} {ti : TypeId} {S : Nat → Prop} {v : Value} {xs : List Int} (h : OwR w ti S v xs) : OwR w.drew ti S v xs := h.blocks fun _ _ _ _ _ => rfl
theorem made_grid' (w : World) (n : Nat) (b : Nat) (hb : b = w.heap.size) {S : Nat → Prop} (hs : S b) : GridAt (w.alloc (.cells (madeCells #[.slice none 0 0] n) 40)) tI tR S b (List.replicate n (.slice none 0 0)) (List.replicate n []) := by
  subst hb
  exact made_grid w n S hs
set_option maxHeartbeats 800000 in
theorem combineRows_any (w : World) (B : Nat) (v u : Value) (p : Int) (c : Nat) (fs : List Int) (rows : List (List Int)) (hv : RdS w (fun b => b < B) v fs) (hu : RdG w B u rows) (hB : B ≤ w.heap.size) (h1 : 2 ≤ p) (h2 : p ≤ 97) (hc : c ≤ 1000000) (hn : fs.length ≤ 1000000)
    (hl : fs.length ≤ rows.length) (hf : ∀ x, x ∈ fs → 0 ≤ x ∧ x < p) (hm : ∀ r, r ∈ rows → r.length = c ∧ ∀ x, x ∈ r → 0 ≤ x ∧ x < p) :
    Calls Tryd.prog 53 #[.int .i64 p, .int .i64 c, v, u] w (MadeR w (vmul p c fs rows)) := by
  have hmk := make_ints c (by omega)
  obtain ⟨A, cv, rfl, kc_cv, hv'⟩ := hv
  obtain ⟨Au, cu, rfl⟩ := hu.len
  have HV := Lib.hid (show RdS w (fun b => b < B) (.slice A fs.length cv) fs from ⟨A, cv, rfl, kc_cv, hv'⟩)
  have HU := Lib.hid hu
  have HB := Lib.hid hB
  have HL := Lib.hid hl
  have HF := Lib.hid hf
  have HM := Lib.hid hm
  clear hv' hu hB hl hf hm
  go_enter Tryd.func53, Tryd.ntmps53
  go_wp2
  go_loopw [16, 10, 11] (fun i _ _ wr => ∃ (k : Nat) (acc : List Int), k ≤ fs.length ∧ i = .int .i64 k ∧ Hid (Below w.heap.size w wr) ∧ Hid (acc.length = c) ∧ Hid (∀ x, x ∈ acc → 0 ≤ x ∧ x < p) ∧ Hid (comb p acc (fs.drop k) (rows.drop k) = vmul p c fs rows) ∧ Hid (OwR wr tI (fun b => w.heap.size ≤ b) (.slice (some ⟨w.heap.size, 0, none⟩) c c) acc)) (fun i _ _ _ => fs.length - (intOf i).toNat)
  case atStart => exact ⟨0, List.replicate c 0, Nat.zero_le _, rfl, Lib.hid ((Below.refl _ _).alloc (Nat.le_refl _) _), Lib.hid (by simp), Lib.hid (zeros_bd h1 c), Lib.hid (by rw [List.drop_zero, List.drop_zero]; rfl), Lib.hid (owR_at (Nat.le_refl _) (made_ints w c) (by simp))⟩
  case round =>
    obtain ⟨k, acc, hk, rfl, HB2, HA, HE, HC, HO⟩ := hrel
    by_cases hlt : k < fs.length
    · obtain ⟨b, o, rfl, hb, hc1⟩ := (HV.out.below HB2.out HB.out).at hlt
      have HK := Lib.hid (show k < rows.length by have := HL.out; omega)
      obtain ⟨b2, o2, A3, c3, rfl, hb2, hc2, hrd⟩ := (HU.out.below HB2.out HB.out).at HK.out
      have hku : (k : Int) < (rows.length : Int) := by have := HK.out; omega
      have HRD := Lib.hid hrd
      have hz := HF.out _ (getD_mem' hlt 0)
      have HZ := Lib.hid (show comb p (axpy p acc (fs.getD k 0) (rows.getD k [])) (fs.drop (k + 1)) (rows.drop (k + 1)) = vmul p c fs rows by rw [← comb_step hlt HK.out]; exact HC.out)
      have HMK := Lib.hid (HM.out _ (getD_mem' HK.out []))
      clear hrd hb hb2
      generalize fs.getD k 0 = z at hc1 hz HZ
      generalize rows.getD k [] = xr at hc2 HRD HZ HMK
      obtain ⟨hz0, hz1⟩ := hz
      go_wp2_with fail
      have e1 := HA.out
      refine (addToRow_any _ (fun b => w.heap.size ≤ b) _ _ p z acc xr h1 h2 ?_ ?_ (by rw [HMK.out.1, HA.out]) (by rw [HA.out]; omega) HE.out HMK.out.2 hz0 hz1).mono ?_
      · exact HO.out
      · exact HRD.out.mono (fun q hq => by have := HB.out; omega)
      rintro e w3 ⟨rfl, t3, o3⟩
      have HT := Lib.hid t3
      have HO3 := Lib.hid o3
      clear t3 o3 e1
      go_wp2
      go_roundw
      case rel => exact ⟨k + 1, _, by omega, by go_num, Lib.hid (HB2.out.trans (HT.out.below HB2.out.size (fun q hq => hq))), Lib.hid (by rw [axpy_len]; exact HA.out), Lib.hid (axpy_bd h1), HZ, HO3⟩
      case measure => simp [intOf]; omega
    · have HZ := Lib.hid (show acc = vmul p c fs rows by rw [← HC.out, comb_end (by omega)])
      go_wp2
      go_ret
      refine ⟨_, rfl, HB2.out, ?_⟩
      rw [← HZ.out]
      exact HO.out
def prodS (p : Int) (c : Nat) (a b : List (List Int)) (k : Nat) : List (List Int) := upd (fun j _ => vmul p c (a.getD j []) b) k (List.replicate a.length [])
theorem prodS_len (p : Int) (c : Nat) (a b : List (List Int)) (k : Nat) : (prodS p c a b k).length = a.length := by unfold prodS; rw [upd_len, List.length_replicate]
theorem prodS_end {p : Int} {c : Nat} {a b : List (List Int)} {k : Nat} (h : a.length ≤ k) : prodS p c a b k = mmul p c a b := by
  unfold prodS mmul
  rw [upd_all _ (by rw [List.length_replicate]; exact h)]
  refine ext_getD [] (by simp) fun i hi => ?_
  rw [List.length_mapIdx, List.length_replicate] at hi
  rw [mapIdx_getD _ _ _ (by simpa using hi) [], mapIdx_getD _ _ _ hi []]
end Go.Proofs.YtdjgkcnhmfkjoaaDoor
