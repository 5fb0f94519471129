/- Arguments of the laws, opened: structs of ints, rows and grids. -/
import Derived.Test.YtdcgoeapgboclaaLawMat
import Derived.Test.YtdcgoeapgboclaaLeaf
namespace Go.Proofs.Ytdcgoeapgboclaa
set_option maxRecDepth 100000
open Go Go.RowKit Go.WideShapes Go.ChangeShapes Go.Deep Go.Joins

theorem bi_wf {n : Int} (h : (Lit.int .i64 n).wf = true) : Bi n := bounds_i64 h
theorem Rest.intB {H : Type} {enc : TypeId × Value → H} {W : World} {base : Nat} {ts : List TypeId} {vs : List Value} (h : Rest enc W base (3 :: ts) vs) : ∃ n vs', vs = .int .i64 n :: vs' ∧ Bi n ∧ Rest enc W base ts vs' := by
  obtain ⟨v, vs', d, ps, rfl, hv, h1, _, h2⟩ := h.cons
  obtain ⟨n, rfl, _, _, hw⟩ := open_int Try.underlying3 hv h1
  exact ⟨n, vs', rfl, bi_wf hw, h2⟩
theorem open_rowF {H : Type} {enc : TypeId × Value → H} {P : Program} {W : World} {t e : TypeId} {fuel : Nat} {v : Value} {x : DataW H × List MemPlace} (ht : P.underlying t = some (.slice e)) (he : P.underlying e = some (.int .i64)) (hc : P.cellsOf e = 1)
    (h : DataW.trod enc P W 0 (fun _ => true) true fuel t [v] = some x) (hlt : ∀ p ∈ x.2, p.block < W.heap.size) : ∃ xs : List Int, LfR W W.heap.size v xs := by
  rcases open_ints ht he hc h with ⟨hcs, hx⟩ | ⟨a, n, c, zs, hcs, _, hl, hm, hz, hx, hcell, hwz⟩
  · simp only [List.cons.injEq, and_true] at hcs
    subst hcs
    exact ⟨[], ⟨none, 0, rfl, Nat.le_refl 0, fun k hk => absurd hk (Nat.not_lt_zero k)⟩, by simp⟩
  · simp only [List.cons.injEq, and_true] at hcs
    subst hcs
    subst hx
    simp only [if_true] at hz
    have hlen : (zs.take n).length = n := by rw [List.length_take]; omega
    refine ⟨zs.take n, ⟨some a, c, by rw [hlen], by rw [hlen]; omega, fun j hj => ?_⟩, by rw [hlen]; unfold maxLen at hm; omega⟩
    rw [hlen] at hj
    obtain ⟨b, off, spot⟩ := a
    have hspot : spot = none := by simpa [Addr.add] using World.cell?_spot (hcell 0 (by omega))
    subst hspot
    refine ⟨b, off, rfl, hlt (.cell b off) (MemPlace.mem_row.2 ⟨0, by omega, by simp⟩), ?_⟩
    have e1 : (zs.take n).getD j 0 = zs.getD j 0 := by
      rw [List.getD_eq_getElem?_getD, List.getD_eq_getElem?_getD, List.getElem?_take_of_lt hj]
    rw [e1, ← add_plain]
    exact hcell j (by omega)
theorem Rest.lfR {H : Type} {enc : TypeId × Value → H} {W : World} {base : Nat} {ts : List TypeId} {vs : List Value} (h : Rest enc W base (23 :: ts) vs) : ∃ (u : Value) (xs : List Int) (vs' : List Value), vs = u :: vs' ∧ LfR W W.heap.size u xs ∧ Rest enc W base ts vs' := by
  obtain ⟨u, xs, vs', e, h1, h2, h3⟩ := h.row
  exact ⟨u, xs, vs', e, ⟨h1, h2⟩, h3⟩
theorem Rest.lfG {H : Type} {enc : TypeId × Value → H} {W : World} {base : Nat} {ts : List TypeId} {vs : List Value} (h : Rest enc W base (96 :: ts) vs) : ∃ (u : Value) (rows : List (List Int)) (vs' : List Value), vs = u :: vs' ∧ LfG W W.heap.size u rows ∧ Rest enc W base ts vs' := by
  obtain ⟨v, vs', d, ps, rfl, hv, h1, hlt, h2⟩ := h.cons
  obtain ⟨A, n, c, rfl⟩ := okWide_slice Try.underlying96 hv
  obtain ⟨fuel, hf⟩ := h1
  obtain ⟨rows, hr⟩ := open_grid (t := 96) (e := 23) (q := 3) Try.underlying96 Try.underlying23 Try.underlying3 (by kernel_rfl) (by kernel_rfl) hf hlt
  exact ⟨_, rows, vs', rfl, hr, h2⟩
end Go.Proofs.Ytdcgoeapgboclaa
