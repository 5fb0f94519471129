/- The parts of a pair: first, second, exchanged. -/
import Derived.Test.YtdjgkcnhmfkjoaaDoorMapR
import Derived.Test.YtdjgkcnhmfkjoaaDoorRowCat
import Derived.Test.YtdjgkcnhmfkjoaaDoorSpanF
import Derived.Test.YtdjgkcnhmfkjoaaDoorMath
namespace Go.Proofs.YtdjgkcnhmfkjoaaDoor
set_option maxRecDepth 100000
open Go Go.RowKit Go.Deep

theorem rdS_take {w : World} {S : Nat → Prop} {A : Option Addr} {n c l : Nat} {xs : List Int} (h : RdS w S (.slice A n c) xs) (hl : l ≤ xs.length) : RdS w S (.slice A l c) (xs.take l) := by
  obtain ⟨A', c', e, kc, h⟩ := h
  obtain ⟨rfl, -, rfl⟩ := sliceEq e
  have hlen : (xs.take l).length = l := by rw [List.length_take]; omega
  refine ⟨A, c, by rw [hlen], by omega, fun k hk => ?_⟩
  rw [hlen] at hk
  obtain ⟨b, o, e2, hs, hc⟩ := h k (by omega)
  refine ⟨b, o, e2, hs, ?_⟩
  have : (xs.take l).getD k 0 = xs.getD k 0 := by rw [List.getD_eq_getElem?_getD, List.getD_eq_getElem?_getD, List.getElem?_take_of_lt hk]
  rw [this]
  exact hc
theorem rdS_drop {w : World} {S : Nat → Prop} {A : Option Addr} {n c l : Nat} {xs : List Int} (h : RdS w S (.slice A n c) xs) (hl : l ≤ xs.length) : RdS w S (.slice (A.map (·.add l)) (xs.length - l) (c - l)) (xs.drop l) := by
  obtain ⟨A', c', e, kc, h⟩ := h
  obtain ⟨rfl, -, rfl⟩ := sliceEq e
  refine ⟨_, c - l, by rw [List.length_drop], by rw [List.length_drop]; omega, fun k hk => ?_⟩
  rw [List.length_drop] at hk
  obtain ⟨b, o, rfl, hs, hc⟩ := h (l + k) (by omega)
  refine ⟨b, o + l, by simp [Addr.add], hs, ?_⟩
  have : (xs.drop l).getD k 0 = xs.getD (l + k) 0 := by rw [List.getD_eq_getElem?_getD, List.getD_eq_getElem?_getD, List.getElem?_drop]
  rw [this, Nat.add_assoc]
  exact hc
theorem rdS_none {w : World} {S : Nat → Prop} {A : Option Addr} {c : Nat} {xs : List Int} (h : xs = []) : RdS w S (.slice A 0 c) xs := by
  subst h
  exact ⟨A, c, rfl, Nat.zero_le c, fun k hk => absurd hk (Nat.not_lt_zero k)⟩
set_option maxHeartbeats 400000 in
theorem first_any (w : World) (B : Nat) (vb u : Value) (l : Nat) (r : Int) (xs : List Int) (hu : RdS w (fun b => b < B) u xs) (hB : B ≤ w.heap.size) (hl : l ≤ xs.length) :
    Calls Tryd.prog 36 #[.agg #[.int .i64 l, .int .i64 r, vb], u] w fun e w' => ∃ v, e = .returned v ∧ Below w.heap.size w w' ∧ RdS w' (fun b => b < B) v (xs.take l) := by
  obtain ⟨A, c, rfl⟩ := rdS_len hu
  have hc : xs.length ≤ c := by
    obtain ⟨A', c', e, kc, _⟩ := hu
    obtain ⟨-, -, rfl⟩ := sliceEq e
    exact kc
  have hlc : (l : Int) ≤ (c : Int) := by omega
  have hlc2 : l ≤ c := by omega
  have HT := Lib.hid (rdS_take hu hl)
  clear hu hc hl
  go_enter Tryd.func36, Tryd.ntmps36
  go_wp2
  go_ret
  have hb : Below w.heap.size w (w.alloc (.cells #[.int .i64 l, .int .i64 r, vb] tRl)) := (Below.refl _ _).alloc (Nat.le_refl _) _
  exact ⟨_, rfl, hb, HT.out.below hb hB⟩
set_option maxHeartbeats 400000 in
theorem second_any (w : World) (B : Nat) (vb u : Value) (l : Nat) (r : Int) (xs : List Int) (hu : RdS w (fun b => b < B) u xs) (hB : B ≤ w.heap.size) (hl : l ≤ xs.length) :
    Calls Tryd.prog 35 #[.agg #[.int .i64 l, .int .i64 r, vb], u] w fun e w' => ∃ v, e = .returned v ∧ Below w.heap.size w w' ∧ RdS w' (fun b => b < B) v (xs.drop l) := by
  obtain ⟨A, c, rfl⟩ := rdS_len hu
  have hc : xs.length ≤ c := by
    obtain ⟨A', c', e, kc, _⟩ := hu
    obtain ⟨-, -, rfl⟩ := sliceEq e
    exact kc
  have HT := Lib.hid (rdS_drop hu hl)
  have HE := Lib.hid (fun (h : c = l) => show xs.length = l by omega)
  have hlc : (l : Int) ≤ (xs.length : Int) := by omega
  have hlc2 : (xs.length : Int) ≤ (c : Int) := by omega
  clear hu hl
  have hb : Below w.heap.size w (w.alloc (.cells #[.int .i64 l, .int .i64 r, vb] tRl)) := (Below.refl _ _).alloc (Nat.le_refl _) _
  have HBB := Lib.hid hb
  clear hb
  by_cases hcl : c = l
  · have HX := Lib.hid (show xs.drop l = [] by rw [← HE.out hcl]; exact List.drop_length)
    have HL := Lib.hid (HE.out hcl)
    go_enter Tryd.func35, Tryd.ntmps35
    go_wp2
    go_ret
    refine ⟨_, rfl, HBB.out, ?_⟩
    rw [HX.out]
    have h0 : xs.length - l = 0 := by have := HL.out; omega
    exact ⟨A, 0, by simp [h0], by simp, fun k hk => absurd hk (Nat.not_lt_zero k)⟩
  · go_enter Tryd.func35, Tryd.ntmps35
    go_wp2
    go_ret
    exact ⟨_, rfl, HBB.out, HT.out.below HBB.out hB⟩
theorem rows_len' {p : Int} {n c : Nat} {R : List (List Int)} (h : Mat p n c R) {l : Nat} (hl : l ≤ c) : ∀ j, j < R.length → l ≤ (R.getD j []).length := fun j hj => by
  rw [(h.row (by rw [← h.1]; exact hj)).1]
  exact hl
/-- The first parts of all rows. -/
theorem mapFirst_any (w : World) (B : Nat) (v vb : Value) (l : Nat) (r : Int) (R : List (List Int)) (hv : RdG w B v R) (hB : B ≤ w.heap.size) (hn : R.length ≤ 1000000) (hl : ∀ j, j < R.length → l ≤ (R.getD j []).length) :
    Calls Tryd.prog 32 #[v, .func (.func 36) #[.agg #[.int .i64 l, .int .i64 r, vb]] #[]] w (MapB w (firsts l R)) :=
  map_first w B v R (firsts l R) _ hv hB hn (firsts_len l R) fun W j u hb hs hj hu => by
    rw [firsts_row hj]
    exact (first_any W B vb u l r _ hu (by omega) (hl j hj)).mono fun e w' ⟨v', he, hb', hr⟩ => ⟨v', he, hb', hr.mono fun q hq => ⟨by omega, by have := hb'.size; omega⟩⟩
/-- The second parts of all rows. -/
theorem mapSecond_any (w : World) (B : Nat) (v vb : Value) (l : Nat) (r : Int) (R : List (List Int)) (hv : RdG w B v R) (hB : B ≤ w.heap.size) (hn : R.length ≤ 1000000) (hl : ∀ j, j < R.length → l ≤ (R.getD j []).length) :
    Calls Tryd.prog 32 #[v, .func (.func 35) #[.agg #[.int .i64 l, .int .i64 r, vb]] #[]] w (MapB w (seconds l R)) :=
  map_second w B v R (seconds l R) _ hv hB hn (seconds_len l R) fun W j u hb hs hj hu => by
    rw [seconds_row hj]
    exact (second_any W B vb u l r _ hu (by omega) (hl j hj)).mono fun e w' ⟨v', he, hb', hr⟩ => ⟨v', he, hb', hr.mono fun q hq => ⟨by omega, by have := hb'.size; omega⟩⟩
end Go.Proofs.YtdjgkcnhmfkjoaaDoor
