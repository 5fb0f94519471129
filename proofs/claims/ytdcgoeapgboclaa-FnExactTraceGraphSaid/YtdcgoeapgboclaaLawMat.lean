/- Arguments of the laws that are matrices: opened. -/
import Derived.Test.YtdcgoeapgboclaaLawCommon
import Derived.Test.YtdcgoeapgboclaaMem
import Derived.Lib.SmallJoins
import Derived.Deep.Matrix
namespace Go.Proofs.Ytdcgoeapgboclaa
set_option maxRecDepth 100000
open Go Go.RowKit Go.WideShapes Go.ChangeShapes Go.Deep Go.Joins

section
variable {H : Type} {enc : TypeId × Value → H} {P : Program} {W : World}
/-- A slice of slices of ints that came in. -/
theorem open_grid {t e q : TypeId} {fuel : Nat} {v : Value} {x : DataW H × List MemPlace} (ht : P.underlying t = some (.slice e)) (he : P.underlying e = some (.slice q)) (hq : P.underlying q = some (.int .i64))
    (ce : P.cellsOf e = 1) (cq : P.cellsOf q = 1) (h : DataW.trod enc P W 0 (fun _ => true) true fuel t [v] = some x) (hlt : ∀ p ∈ x.2, p.block < W.heap.size) :
    ∃ rows : List (List Int), RdG W W.heap.size v rows ∧ rows.length ≤ 9223372036854775807 ∧ ∀ r, r < rows.length → (rows.getD r []).length ≤ 9223372036854775807 := by
  rcases open_int_rows ht he hq ce cq h with ⟨hcs, hx⟩ | ⟨a, len, cap, A, L, C, Z, hcs, _, hl, hm, hx, hrow⟩
  · simp only [List.cons.injEq, and_true] at hcs
    subst hcs
    exact ⟨[], ⟨none, 0, rfl, Nat.le_refl 0, fun r hr => absurd hr (Nat.not_lt_zero r)⟩, by simp, fun r hr => absurd hr (Nat.not_lt_zero r)⟩
  · simp only [List.cons.injEq, and_true] at hcs
    subst hcs
    subst hx
    have hget : ∀ r, r < len → ((List.range len).map fun r => (Z r).take (L r)).getD r [] = (Z r).take (L r) := fun r hr => by
      rw [List.getD_eq_getElem?_getD]
      simp [hr]
    have hlen : ∀ r, r < len → ((Z r).take (L r)).length = L r := fun r hr => by
      obtain ⟨_, h1, _, h2, _⟩ := hrow r (by omega)
      rw [List.length_take]
      omega
    refine ⟨(List.range len).map fun r => (Z r).take (L r), ⟨some a, cap, by simp, by simp; omega, fun r hr => ?_⟩, by simp; unfold maxLen at hm; omega, fun r hr => ?_⟩
    · rw [List.length_map, List.length_range] at hr
      obtain ⟨hc, h1, h2, h3, _, h4, h5⟩ := hrow r (by omega)
      obtain ⟨b, off, spot⟩ := a
      have hspot : spot = none := by simpa [Addr.add] using World.cell?_spot (hrow 0 (by omega)).1
      subst hspot
      refine ⟨b, off, _, rfl, hlt (.cell b off) (List.mem_append_left _ (MemPlace.mem_row.2 ⟨0, by omega, by simp⟩)), by rw [← add_plain]; exact hc, ?_⟩
      rw [hget r hr]
      refine ⟨A r, C r, by rw [hlen r hr], by rw [hlen r hr]; omega, fun k hk => ?_⟩
      rw [hlen r hr] at hk
      cases hA : A r with
      | none => have := h4 hA; omega
      | some a' =>
        obtain ⟨_, hcc⟩ := h5 a' hA
        obtain ⟨b', off', spot'⟩ := a'
        have hc0 := hcc k (by omega)
        have hspot' : spot' = none := by
          have := World.cell?_spot (hcc 0 (by omega))
          simpa [Addr.add] using this
        subst hspot'
        refine ⟨b', off', rfl, hlt (.cell b' off') (List.mem_append_right _ (List.mem_flatMap.2 ⟨r, List.mem_range.2 (by omega), by rw [hA]; exact MemPlace.mem_row.2 ⟨0, by omega, by simp⟩⟩)), ?_⟩
        rw [← add_plain, hc0, List.getD_eq_getElem?_getD, List.getD_eq_getElem?_getD, List.getElem?_take_of_lt hk]
    · rw [List.length_map, List.length_range] at hr
      obtain ⟨_, h1, h2, _⟩ := hrow r (by omega)
      rw [hget r hr, hlen r hr]
      unfold maxLen at h2
      omega
end
section
variable {H : Type} {enc : TypeId × Value → H} {W : World} {base : Nat}
/-- The arguments are opened one by one. -/
def Rest (enc : TypeId × Value → H) (W : World) (base : Nat) (ts : List TypeId) (vs : List Value) : Prop :=
  (∀ (j : Nat) t v, ts[j]? = some t → vs[j]? = some v → Value.okWide Try.prog W .any base t v) ∧ ∃ ds ps, DataW.TrodAll enc Try.prog W 0 (fun _ => true) true ts vs ds ps ∧ ∀ x ∈ ps, x.block < W.heap.size
theorem Rest.nil {vs : List Value} (h : Rest enc W base [] vs) : vs = [] := by
  obtain ⟨_, ds, ps, h, _⟩ := h
  cases vs with
  | nil => rfl
  | cons v vs => cases ds <;> cases h
theorem Rest.cons {t : TypeId} {ts : List TypeId} {vs : List Value} (h : Rest enc W base (t :: ts) vs) :
    ∃ v vs' d ps, vs = v :: vs' ∧ Value.okWide Try.prog W .any base t v ∧ DataW.Trod enc Try.prog W 0 (fun _ => true) true t v d ps ∧ (∀ x ∈ ps, x.block < W.heap.size) ∧ Rest enc W base ts vs' := by
  obtain ⟨hval, ds, ps, h, hlt⟩ := h
  match vs, ds, h with
  | v :: vs, d :: ds, h =>
    obtain ⟨p, q, h1, h2, rfl⟩ := h
    exact ⟨v, vs, d, p, rfl, hval 0 t v rfl rfl, h1, fun x hx => hlt x (List.mem_append_left _ hx), fun j t v ht hv => hval (j + 1) t v (by simpa using ht) (by simpa using hv), ds, q, h2, fun x hx => hlt x (List.mem_append_right _ hx)⟩
theorem Rest.int {ts : List TypeId} {vs : List Value} (h : Rest enc W base (3 :: ts) vs) : ∃ n vs', vs = .int .i64 n :: vs' ∧ Rest enc W base ts vs' := by
  obtain ⟨v, vs', d, ps, rfl, hv, h1, _, h2⟩ := h.cons
  obtain ⟨n, rfl, _⟩ := open_int Try.underlying3 hv h1
  exact ⟨n, vs', rfl, h2⟩
theorem Rest.row {ts : List TypeId} {vs : List Value} (h : Rest enc W base (23 :: ts) vs) : ∃ (u : Value) (xs : List Int) (vs' : List Value), vs = u :: vs' ∧ RdS W (fun b => b < W.heap.size) u xs ∧ xs.length ≤ 9223372036854775807 ∧ Rest enc W base ts vs' := by
  obtain ⟨v, vs', d, ps, rfl, hv, h1, hlt, h2⟩ := h.cons
  obtain ⟨A, zs, c, rfl, ⟨h3, kc_c⟩, _, h4⟩ := open_row Try.underlying23 Try.underlying3 (by kernel_rfl) hv h1 hlt
  exact ⟨_, zs, vs', rfl, ⟨A, c, rfl, kc_c, h4⟩, h3, h2⟩
theorem Rest.of {f : Func} {args : Array Value} {ds : List (DataW H)} {ps qs : List MemPlace} (hval : ∀ (j : Nat) t v, f.params[j]? = some t → args[j]? = some v → Value.okWide Try.prog W .any base t v)
    (h : DataW.TrodAll enc Try.prog W 0 (fun _ => true) true f.params.toList args.toList ds ps) (hlt : ∀ x ∈ ps ++ qs, x.block < W.heap.size) : Rest enc W base f.params.toList args.toList :=
  ⟨fun j t v ht hv => hval j t v (by simpa using ht) (by simpa using hv), ds, ps, h, fun x hx => hlt x (List.mem_append_left _ hx)⟩
theorem args_eq {args : Array Value} {l : List Value} (h : args.toList = l) : args = l.toArray := by rw [← h]
end
end Go.Proofs.Ytdcgoeapgboclaa
