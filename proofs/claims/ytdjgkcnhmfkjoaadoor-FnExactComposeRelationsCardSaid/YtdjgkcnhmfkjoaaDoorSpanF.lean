/- Spans and relations from rows: both sides. -/
import Derived.Test.YtdjgkcnhmfkjoaaDoorSpA
import Derived.Test.YtdjgkcnhmfkjoaaDoorRdList
import Derived.Test.YtdjgkcnhmfkjoaaDoorRetSpaceB
import Derived.Test.YtdjgkcnhmfkjoaaDoorRetRelationB
namespace Go.Proofs.YtdjgkcnhmfkjoaaDoor
set_option maxRecDepth 100000
open Go Go.RowKit Go.Deep

abbrev tSp : TypeId := 44
abbrev tRl : TypeId := 26
theorem rows_bad {p n : Int} {rows : List (List Int)} {j : Nat} (hj : j < rows.length) (h : rowB p n (rows.getD j []) = false) : rows.all (rowB p n) = false := by
  cases e : rows.all (rowB p n) with
  | false => rfl
  | true =>
    have := List.all_eq_true.1 e _ (getD_mem' hj [])
    rw [h] at this
    cases this
theorem rows_good {p n : Int} {rows : List (List Int)} (h : ∀ j, j < rows.length → rowB p n (rows.getD j []) = true) : rows.all (rowB p n) = true := by
  refine List.all_eq_true.2 fun r hr => ?_
  obtain ⟨i, hi, rfl⟩ := List.getElem_of_mem hr
  have := h i hi
  rwa [List.getD_eq_getElem?_getD, List.getElem?_eq_getElem hi] at this
theorem rows_mat {p : Int} {c : Nat} {rows : List (List Int)} (h : rows.all (rowB p c) = true) : Mat p rows.length c rows := by
  refine ⟨rfl, fun r hr => ?_⟩
  have h2 := List.all_eq_true.1 h r hr
  unfold rowB at h2
  simp only [Bool.and_eq_true, decide_eq_true_eq, List.all_eq_true, el_iff] at h2
  exact ⟨by omega, h2.2⟩
set_option maxHeartbeats 800000 in
theorem spRows_any (w : World) (B : Nat) (v : Value) (p n : Int) (rows : List (List Int)) (hv : RdG w B v rows) (hn : rows.length ≤ 9223372036854775807) (hr : ∀ r, r < rows.length → (rows.getD r []).length ≤ 9223372036854775807) (hf : fld p = true) :
    Calls Tryd.prog 46 #[.int .i64 p, .int .i64 n, v] w fun e w' => e = .returned (.bool (rows.all (rowB p n))) ∧ w = w' := by
  obtain ⟨A, cp, rfl, kc_cp, hv⟩ := hv
  have HV := Lib.hid hv
  have HR := Lib.hid hr
  obtain ⟨h2, h97⟩ := fld_bd hf
  clear hv hr hf
  go_enter Tryd.func46, Tryd.ntmps46
  go_wp2
  go_loop [11, 8] (fun t _ => ∃ k : Nat, k ≤ rows.length ∧ t = .int .i64 k ∧ Hid (∀ j, j < k → rowB p n (rows.getD j []) = true)) (fun t _ => rows.length - (intOf t).toNat)
  case atStart => exact ⟨0, Nat.zero_le _, rfl, Lib.hid (fun j hj => absurd hj (Nat.not_lt_zero j))⟩
  case round =>
    obtain ⟨k, hk, rfl, he⟩ := hrel
    by_cases hlt : k < rows.length
    · obtain ⟨b, o, u, rfl, hbB, hcell, hrow⟩ := HV.out k hlt
      have HROW := Lib.hid hrow
      have hrl := HR.out k hlt
      obtain ⟨A2, c2, rfl, kc_c2, hrr⟩ := hrow
      clear hrr
      generalize hy : rows.getD k [] = xk at hcell HROW hrl
      have HY := Lib.hid hy
      clear hy
      by_cases hcl : (xk.length : Int) = n
      · have hq : ((xk.length : Int) != n) = false := by simp [hcl]
        have HCL := Lib.hid hcl
        clear hcl
        cases hall : xk.all (el p) with
        | true =>
          have HALL := Lib.hid hall
          have HG := Lib.hid (show rowB p n xk = true by unfold rowB; rw [hall, HCL.out]; simp)
          clear hall
          go_wp2_with fail
          refine (fdIn_any _ B _ p xk HROW.out hrl h2 h97).mono ?_
          rintro e w' ⟨rfl, rfl⟩
          rw [HALL.out]
          go_wp2
          go_round
          case rel => exact ⟨k + 1, by omega, by go_num, Lib.hid (fun j hj => by
            by_cases c : j = k
            · rw [c, HY.out]; exact HG.out
            · exact he.out j (by omega))⟩
          case measure => simp [intOf]; omega
        | false =>
          have HALL := Lib.hid hall
          have HG := Lib.hid (rows_bad hlt (show rowB p n (rows.getD k []) = false by rw [HY.out]; unfold rowB; rw [hall]; simp))
          clear hall
          go_wp2_with fail
          refine (fdIn_any _ B _ p xk HROW.out hrl h2 h97).mono ?_
          rintro e w' ⟨rfl, rfl⟩
          rw [HALL.out]
          go_wp2
          go_ret
          rw [HG.out]
          exact ⟨rfl, rfl⟩
      · have hq : ((xk.length : Int) != n) = true := by simp [hcl]
        have HG := Lib.hid (rows_bad hlt (show rowB p n (rows.getD k []) = false by rw [HY.out]; unfold rowB; simp [hcl]))
        clear hcl
        go_wp2
        go_ret
        rw [HG.out]
        exact ⟨rfl, rfl⟩
    · have H := Lib.hid (rows_good fun j hj => he.out j (by omega))
      go_wp2
      go_ret
      rw [H.out]
      exact ⟨rfl, rfl⟩
theorem areL_rows (p n : Int) (rows : List (List Int)) (hf : fld p = true) : areL p n rows = rows.all (rowB p n) := by unfold areL; rw [hf]; rfl
theorem mat_sz {p : Int} {n c : Nat} {m : List (List Int)} (hn : n ≤ 24) (hc : c ≤ 24) (h : Mat p n c m) : szG m ≤ 1099511627776 := by
  have h3 : tot m = n * c := by rw [tot_const (c := c) (fun r hr => (h.2 r hr).1), h.1]
  have h4 : n * c ≤ 24 * 24 := Nat.mul_le_mul hn hc
  unfold szG
  rw [h3, h.1]
  omega
theorem rref_sz {p : Int} (hf : fld p = true) {n c : Nat} {rows : List (List Int)} (hc : c ≤ 24) (h : Mat p n c rows) : szG (rref p rows c) ≤ 1099511627776 := by
  have h2 := rref_mat hf h
  have h3 := rref_le hf h
  exact mat_sz (by omega) hc h2

/-- SpanOf: whether it succeeds, and what it returns. -/
def spanOk (p n : Int) (rows : List (List Int)) : Bool := fld p && decide (0 ≤ n) && decide (n ≤ 24) && decide (rows.length ≤ 48) && rows.all (rowB p n)
def spanC (p n : Int) (rows : List (List Int)) : Int := if spanOk p n rows then n else 0
def spanR (p n : Int) (rows : List (List Int)) : List (List Int) := if spanOk p n rows then rref p rows n.toNat else []
theorem span_no {p n : Int} {rows : List (List Int)} (h : spanOk p n rows = false) : spanC p n rows = 0 ∧ spanR p n rows = [] := by simp [spanC, spanR, h]
theorem span_yes {p : Int} {c : Nat} {rows : List (List Int)} (h : spanOk p c rows = true) : spanC p c rows = c ∧ spanR p c rows = rref p rows c := by simp [spanC, spanR, h]
/-- RelationFrom. -/
def relOk (p l r : Int) (rows : List (List Int)) : Bool := fld p && decide (0 ≤ l) && decide (0 ≤ r) && decide (r ≤ 24 - l) && decide (rows.length ≤ 48) && rows.all (rowB p (l + r))
def relL (p l r : Int) (rows : List (List Int)) : Int := if relOk p l r rows then l else 0
def relG (p l r : Int) (rows : List (List Int)) : Int := if relOk p l r rows then r else 0
def relR (p l r : Int) (rows : List (List Int)) : List (List Int) := if relOk p l r rows then rref p rows (l + r).toNat else []
theorem rel_no {p l r : Int} {rows : List (List Int)} (h : relOk p l r rows = false) : relL p l r rows = 0 ∧ relG p l r rows = 0 ∧ relR p l r rows = [] := by simp [relL, relG, relR, h]
theorem rel_yes {p : Int} {l r : Nat} {rows : List (List Int)} (h : relOk p l r rows = true) : relL p l r rows = l ∧ relG p l r rows = r ∧ relR p l r rows = rref p rows (l + r) := by
  refine ⟨by simp [relL, h], by simp [relG, h], ?_⟩
  unfold relR
  rw [if_pos h, show ((l : Int) + (r : Int)).toNat = l + r by omega]
def sidesB (l r : Int) : Bool := decide (0 ≤ l) && decide (0 ≤ r) && decide (r ≤ 24 - l)
theorem areSides_any (w : World) (l r : Int) (hb : l ≤ 9223372036854775807) : Calls Tryd.prog 16 #[.int .i64 l, .int .i64 r] w fun e w' => e = .returned (.bool (sidesB l r)) ∧ w = w' := by
  by_cases h1 : l < 0
  · have H := Lib.hid (show sidesB l r = false by simp [sidesB]; omega)
    have hd : decide (0 ≤ l) = false := by simp; omega
    go_enter Tryd.func16, Tryd.ntmps16
    go_wp2
    go_ret
    rw [H.out]
    exact ⟨rfl, rfl⟩
  · by_cases h2 : r < 0
    · have H := Lib.hid (show sidesB l r = false by simp [sidesB]; omega)
      have h1' : 0 ≤ l := by omega
      have hd : decide (0 ≤ r) = false := by simp; omega
      go_enter Tryd.func16, Tryd.ntmps16
      go_wp2
      go_ret
      rw [H.out]
      exact ⟨rfl, rfl⟩
    · by_cases h3 : r ≤ 24 - l
      · have H := Lib.hid (show sidesB l r = true by simp [sidesB]; omega)
        have h1' : 0 ≤ l := by omega
        have h2' : 0 ≤ r := by omega
        go_enter Tryd.func16, Tryd.ntmps16
        go_wp2
        go_ret
        rw [H.out]
        exact ⟨rfl, rfl⟩
      · have H := Lib.hid (show sidesB l r = false by simp [sidesB]; omega)
        have h1' : 0 ≤ l := by omega
        have h2' : 0 ≤ r := by omega
        go_enter Tryd.func16, Tryd.ntmps16
        go_wp2
        go_ret
        rw [H.out]
        exact ⟨rfl, rfl⟩
theorem CellsAt.three {w : World} {b : Nat} {ty : TypeId} {v0 v1 v2 : Value} (h : CellsAt w b ty [v0, v1, v2]) : w.cell? ⟨b, 0, none⟩ = some v0 ∧ w.cell? ⟨b, 1, none⟩ = some v1 ∧ w.cell? ⟨b, 2, none⟩ = some v2 ∧ w.frozen? ⟨b, 0, none⟩ = false ∧ w.frozen? ⟨b, 1, none⟩ = false ∧ w.frozen? ⟨b, 2, none⟩ = false ∧ b < w.heap.size :=
  ⟨h.cell (i := 0) (by simp), h.cell (i := 1) (by simp), h.cell (i := 2) (by simp), h.frozen 0, h.frozen 1, h.frozen 2, h.lt⟩
/-- A call made a space. -/
def MadeSp (w : World) (c : Int) (rows : List (List Int)) (e : Ending) (w' : World) : Prop := ∃ v, e = .returned (.agg #[.int .i64 c, v]) ∧ Below w.heap.size w w' ∧ OwG w' tI tR (fun b => w.heap.size ≤ b) v rows
/-- A call made a relation. -/
def MadeRl (w : World) (l r : Int) (rows : List (List Int)) (e : Ending) (w' : World) : Prop := ∃ v, e = .returned (.agg #[.int .i64 l, .int .i64 r, v]) ∧ Below w.heap.size w w' ∧ OwG w' tI tR (fun b => w.heap.size ≤ b) v rows
set_option maxHeartbeats 800000 in
theorem rlOf_any (w : World) (B : Nat) (v : Value) (p : Int) (n l r : Nat) (rows : List (List Int)) (hv : RdG w B v rows) (hB : B ≤ w.heap.size) (hf : fld p = true) (hm : Mat p n (l + r) rows) (hn : n ≤ 1000000) (hc : (l + r) ≤ 1000000) :
    Calls Tryd.prog 28 #[.int .i64 p, .int .i64 l, .int .i64 r, v] w (MadeRl w l r (rref p rows (l + r))) := by
  obtain ⟨A, cp, rfl⟩ := hv.len
  have HVB := Lib.hid (show Below w.heap.size w (w.alloc (.cells #[.int .i64 0, .int .i64 0, .slice none 0 0] tRl)) from (Below.refl _ _).alloc (Nat.le_refl _) _)
  have HV := Lib.hid (hv.below HVB.out hB)
  have HB := Lib.hid (show B ≤ (w.alloc (.cells #[.int .i64 0, .int .i64 0, .slice none 0 0] tRl)).heap.size by rw [nblk_alloc]; omega)
  have HX0 := Lib.hid (cellsAt_new w #[.int .i64 0, .int .i64 0, .slice none 0 0] tRl)
  have HF := Lib.hid hf
  have HM := Lib.hid hm
  clear hv hB hf hm
  go_enter Tryd.func28, Tryd.ntmps28
  go_wp2_with fail
  refine (spReduce_any _ B _ p n (l + r) rows HV.out HB.out HF.out HM.out hn hc).mono ?_
  rintro e w2 ⟨v2, rfl, b2, o2⟩
  obtain ⟨A2, c2, rfl⟩ := OwG.len o2
  have HX := Lib.hid (HX0.out.below b2 (by rw [nblk_alloc]; omega))
  have HBN := Lib.hid (HVB.out.trans (b2.mono (by rw [nblk_alloc]; omega)))
  have HO := Lib.hid (o2.mono (T := fun k => w.heap.size + 1 ≤ k) (fun k h1 _ => by rw [nblk_alloc] at h1; omega))
  clear b2 o2
  obtain ⟨hx0, hx1, hx2, hxf0, hxf1, hxf2, hxs⟩ := HX.out.three
  go_wp2
  refine bodyPost_ret (v := .agg #[.int .i64 l, .int .i64 r, .slice A2 (rref p rows (l + r)).length c2]) (by simp [results, Tryd.results28, go_sem, hx0, hx1, hx2]) rfl ?_
  refine ⟨_, rfl, (by refine Below.trans HBN.out ?_; repeat' (first | exact Below.refl _ _ | apply Below.drew | apply Below.setCell | apply Below.alloc | (simp; done) | omega | (simp; omega))), (HO.out.blocks (fun k hk _ => ?_)).mono (fun k hk _ => by omega)⟩
  repeat rw [blk_setCell_other _ _ _ _ (by dsimp only; omega)]
end Go.Proofs.YtdjgkcnhmfkjoaaDoor
