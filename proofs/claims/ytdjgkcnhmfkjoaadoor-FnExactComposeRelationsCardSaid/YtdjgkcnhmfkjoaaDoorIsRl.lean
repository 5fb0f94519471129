/- IsRelation: both sides. -/
import Derived.Test.YtdjgkcnhmfkjoaaDoorSpI
import Derived.Test.YtdjgkcnhmfkjoaaDoorRetB
namespace Go.Proofs.YtdjgkcnhmfkjoaaDoor
set_option maxRecDepth 100000
open Go Go.RowKit Go.Deep

/-- Whether a relation is valid. -/
def isRl (p l r : Int) (rows : List (List Int)) : Bool := sidesB l r && isSp p (l + r) rows
theorem isRl_sides {p l r : Int} {rows : List (List Int)} (h : sidesB l r = false) : isRl p l r rows = false := by simp [isRl, h]
theorem isRl_sp {p l r : Int} {rows : List (List Int)} (h : sidesB l r = true) : isRl p l r rows = isSp p (l + r) rows := by simp [isRl, h]
theorem sides_parts {l r : Int} (h : sidesB l r = true) : 0 ≤ l ∧ 0 ≤ r ∧ l + r ≤ 24 := by
  unfold sidesB at h
  simp only [Bool.and_eq_true, decide_eq_true_eq] at h
  omega
theorem sides_no {l r : Int} (h : l < 0 ∨ r < 0 ∨ 24 < l + r) : sidesB l r = false := by
  cases e : sidesB l r with
  | false => rfl
  | true => have := sides_parts e; omega
theorem sides_yes {l r : Int} (h0 : 0 ≤ l) (h1 : 0 ≤ r) (h2 : l + r ≤ 24) : sidesB l r = true := by
  unfold sidesB
  simp only [Bool.and_eq_true, decide_eq_true_eq]
  omega
theorem isRl_parts {p l r : Int} {rows : List (List Int)} (h : isRl p l r rows = true) : fld p = true ∧ ∃ a b : Nat, l = a ∧ r = b ∧ a + b ≤ 24 ∧ rows.length ≤ a + b ∧ IsRed p rows.length (a + b) rows := by
  unfold isRl at h
  rw [Bool.and_eq_true] at h
  obtain ⟨h1, h2⟩ := h
  obtain ⟨h3, h4, h5⟩ := sides_parts h1
  obtain ⟨hf, n, e, hn, hl, hr, -⟩ := isSp_parts h2
  obtain ⟨a, rfl⟩ : ∃ a : Nat, l = a := ⟨l.toNat, by omega⟩
  obtain ⟨b, rfl⟩ : ∃ b : Nat, r = b := ⟨r.toNat, by omega⟩
  obtain rfl : n = a + b := by omega
  exact ⟨hf, a, b, rfl, rfl, hn, hl, hr⟩
set_option maxHeartbeats 1600000 in
theorem rlGood_any (w : World) (B : Nat) (v : Value) (p l r : Int) (rows : List (List Int)) (hv : LfG w B v rows) (hB : B ≤ w.heap.size) :
    Calls Tryd.prog 12 #[.int .i64 p, .agg #[.int .i64 l, .int .i64 r, v]] w (SaysB w (isRl p l r rows)) := by
  obtain ⟨A, cp, rfl⟩ := hv.len
  have HVB := Lib.hid (show Below w.heap.size w (w.alloc (.cells #[.int .i64 l, .int .i64 r, .slice A rows.length cp] tRl)) from (Below.refl _ _).alloc (Nat.le_refl _) _)
  have HV := Lib.hid (hv.below HVB.out hB)
  have hB0 : B ≤ (w.alloc (.cells #[.int .i64 l, .int .i64 r, .slice A rows.length cp] tRl)).heap.size := Nat.le_trans hB HVB.out.size
  clear hv hB
  by_cases hl : l < 0 ∨ 24 < l
  · by_cases hl2 : l < 0
    · have HOK := Lib.hid (isRl_sides (p := p) (rows := rows) (sides_no (l := l) (r := r) (by omega)))
      go_enter Tryd.func12, Tryd.ntmps12
      go_wp2_with fail
      refine (l1In_f l 0 24 _ hl).mono ?_
      rintro e w' ⟨rfl, rfl⟩
      go_wp2
      go_ret
      rw [HOK.out]
      exact ⟨rfl, HVB.out⟩
    · by_cases hr : r < 0
      · have HOK := Lib.hid (isRl_sides (p := p) (rows := rows) (sides_no (l := l) (r := r) (by omega)))
        go_enter Tryd.func12, Tryd.ntmps12
        go_wp2_with fail
        refine (l1In_f l 0 24 _ hl).mono ?_
        rintro e w' ⟨rfl, rfl⟩
        go_wp2
        go_ret
        rw [HOK.out]
        exact ⟨rfl, HVB.out⟩
      · have HOK := Lib.hid (isRl_sides (p := p) (rows := rows) (sides_no (l := l) (r := r) (by omega)))
        go_enter Tryd.func12, Tryd.ntmps12
        go_wp2_with fail
        refine (l1In_f l 0 24 _ hl).mono ?_
        rintro e w' ⟨rfl, rfl⟩
        go_wp2
        go_ret
        rw [HOK.out]
        exact ⟨rfl, HVB.out⟩
  · have hl0 : 0 ≤ l := by omega
    have hl1 : l ≤ 24 := by omega
    clear hl
    by_cases hr : r < 0 ∨ 24 - l < r
    · have HOK := Lib.hid (isRl_sides (p := p) (rows := rows) (sides_no (l := l) (r := r) (by omega)))
      go_enter Tryd.func12, Tryd.ntmps12
      go_wp2_with fail
      refine (l1In_t l 0 24 _ hl0 hl1).mono ?_
      rintro e w' ⟨rfl, rfl⟩
      go_wp2_with fail
      refine (l1In_f r 0 (24 - l) _ hr).mono ?_
      rintro e w' ⟨rfl, rfl⟩
      go_wp2
      go_ret
      rw [HOK.out]
      exact ⟨rfl, HVB.out⟩
    · have hr0 : 0 ≤ r := by omega
      have hr1 : r ≤ 24 - l := by omega
      have HOK := Lib.hid (isRl_sp (p := p) (rows := rows) (sides_yes hl0 hr0 (by omega)))
      clear hr
      go_enter Tryd.func12, Tryd.ntmps12
      go_wp2_with fail
      refine (l1In_t l 0 24 _ hl0 hl1).mono ?_
      rintro e w' ⟨rfl, rfl⟩
      go_wp2_with fail
      refine (l1In_t r 0 (24 - l) _ hr0 hr1).mono ?_
      rintro e w' ⟨rfl, rfl⟩
      go_wp2_with fail
      refine (spGood_any _ B _ p (l + r) rows HV.out hB0).mono ?_
      rintro e w2 ⟨rfl, b2⟩
      have HB2 := Lib.hid (HVB.out.trans (b2.mono HVB.out.size))
      clear b2
      go_wp2
      go_ret
      rw [HOK.out]
      exact ⟨rfl, HB2.out⟩
/-! ### The program -/
theorem pairs_any (w : World) (A : Option Addr) (n c : Nat) (l r : Int) (hl : 0 ≤ l) (hr : 0 ≤ r) (h : l + r ≤ 24) :
    Calls Tryd.prog 31 #[.agg #[.int .i64 l, .int .i64 r, .slice A n c]] w fun e w' => e = .returned (.agg #[.int .i64 (l + r), .slice A n c]) ∧ Below w.heap.size w w' := by
  go_enter Tryd.func31, Tryd.ntmps31
  go_wp2
  refine bodyPost_ret (v := .agg #[.int .i64 (l + r), .slice A n c]) (by simp [results, Tryd.results31, go_sem]) rfl ?_
  exact ⟨rfl, by repeat' (first | exact Below.refl _ _ | apply Below.drew | apply Below.setCell | apply Below.alloc | (simp; done) | omega | (simp; omega))⟩
set_option maxHeartbeats 1600000 in
theorem implIsRelation_any (w : World) (B : Nat) (v : Value) (p l r : Int) (rows : List (List Int)) (ht : Tab w) (hv : LfG w B v rows) (hB : B ≤ w.heap.size) (hb : l ≤ 9223372036854775807) :
    Calls Tryd.prog 15 #[.int .i64 p, .agg #[.int .i64 l, .int .i64 r, v]] w (SaysB w (isRl p l r rows)) := by
  obtain ⟨A, cp, rfl⟩ := hv.len
  have HVB := Lib.hid (show Below w.heap.size w (w.alloc (.cells #[.int .i64 l, .int .i64 r, .slice A rows.length cp] tRl)) from (Below.refl _ _).alloc (Nat.le_refl _) _)
  have HV := Lib.hid (hv.below HVB.out hB)
  have hB0 : B ≤ (w.alloc (.cells #[.int .i64 l, .int .i64 r, .slice A rows.length cp] tRl)).heap.size := Nat.le_trans hB HVB.out.size
  have HT := Lib.hid (ht.below HVB.out)
  clear hv hB ht
  cases hs : sidesB l r with
  | false =>
    have HS := Lib.hid hs
    have HOK := Lib.hid (isRl_sides (p := p) (rows := rows) hs)
    clear hs
    go_enter Tryd.func15, Tryd.ntmps15
    go_wp2_with fail
    refine (areSides_any _ l r hb).mono ?_
    rintro e w' ⟨rfl, rfl⟩
    rw [HS.out]
    go_wp2
    go_ret
    rw [HOK.out]
    exact ⟨rfl, HVB.out⟩
  | true =>
    obtain ⟨h0, h1, h2⟩ := sides_parts hs
    have HS := Lib.hid hs
    have HOK := Lib.hid (isRl_sp (p := p) (rows := rows) hs)
    clear hs
    go_enter Tryd.func15, Tryd.ntmps15
    go_wp2_with fail
    refine (areSides_any _ l r hb).mono ?_
    rintro e w' ⟨rfl, rfl⟩
    rw [HS.out]
    go_wp2_with fail
    refine (pairs_any _ _ _ _ l r h0 h1 h2).mono ?_
    rintro e w2 ⟨rfl, b2⟩
    have HV2 := Lib.hid (HV.out.below b2 hB0)
    have hB2 : B ≤ w2.heap.size := Nat.le_trans hB0 b2.size
    have HT2 := Lib.hid (HT.out.below b2)
    have HB2 := Lib.hid (HVB.out.trans (b2.mono HVB.out.size))
    clear b2
    go_wp2_with fail
    refine (implIsSpace_any w2 B _ p (l + r) rows HT2.out HV2.out hB2).mono ?_
    rintro e w3 ⟨rfl, b3⟩
    have HB3 := Lib.hid (HB2.out.trans (b3.mono HB2.out.size))
    clear b3
    go_wp2
    go_ret
    rw [HOK.out]
    exact ⟨rfl, HB3.out⟩
end Go.Proofs.YtdjgkcnhmfkjoaaDoor
