/- Arguments of the laws, opened: a graph (a struct of an int, a slice of edges and two slices of ints; an edge is two ints and two slices of ints). -/
import Derived.Test.YtdcgoeapgboclaaLawG
import Derived.Test.YtdcgoeapgboclaaLeafE
import Derived.Deep.Slices
import Derived.ChangeSame
namespace Go.Proofs.Ytdcgoeapgboclaa
set_option maxRecDepth 100000
open Go Go.RowKit Go.WideShapes Go.ChangeShapes Go.Deep Go.Joins

theorem open_edges {H : Type} {enc : TypeId × Value → H} {P : Program} {W : World} {t e q : TypeId} {f0 f1 f2 f3 : Field} {fuel : Nat} {v : Value} {x : DataW H × List MemPlace} (ht : P.underlying t = some (.slice e)) (he : P.underlying e = some (.struct #[f0, f1, f2, f3]))
    (ce : P.cellsOf e = 4) (o0 : f0.offset = 0) (o1 : f1.offset = 1) (o2 : f2.offset = 2) (o3 : f3.offset = 3) (c0 : P.cellsOf f0.type = 1) (c1 : P.cellsOf f1.type = 1) (c2 : P.cellsOf f2.type = 1) (c3 : P.cellsOf f3.type = 1)
    (i0 : P.underlying f0.type = some (.int .i64)) (i1 : P.underlying f1.type = some (.int .i64)) (i2 : P.underlying f2.type = some (.slice q)) (i3 : P.underlying f3.type = some (.slice q)) (iq : P.underlying q = some (.int .i64)) (cq : P.cellsOf q = 1)
    (h : DataW.trod enc P W 0 (fun _ => true) true fuel t [v] = some x) (hlt : ∀ p ∈ x.2, p.block < W.heap.size) : ∃ xs : List Ed, LfE W W.heap.size v xs := by
  rcases open_slice ht h with ⟨hcs, -⟩ | ⟨a, len, cap, m, n, D, Pl, hcs, hb, hl, hm, hmm, rfl, hx⟩
  · simp only [List.cons.injEq, and_true] at hcs
    subst hcs
    exact ⟨[], ⟨none, 0, rfl, Nat.le_refl 0, fun k hk => absurd hk (Nat.not_lt_zero k)⟩, by simp, fun k hk => absurd hk (Nat.not_lt_zero k)⟩
  · simp only [List.cons.injEq, and_true] at hcs
    subst hcs
    have hlm : len ≤ m := by rw [hmm]; split <;> omega
    have each : ∀ i, i < len → ∃ d : Ed, W.cell? (a.add (i * 4)) = some (.int .i64 d.k) ∧ W.cell? (a.add (i * 4 + 1)) = some (.int .i64 d.v) ∧ ∃ u2 u3, W.cell? (a.add (i * 4 + 2)) = some u2 ∧ W.cell? (a.add (i * 4 + 3)) = some u3 ∧ LfR W W.heap.size u2 d.i ∧ LfR W W.heap.size u3 d.o := by
      intro i hi
      obtain ⟨cs', h1, h2⟩ := hx i (by omega)
      rw [ce] at h1
      obtain ⟨_, hlen, hcell⟩ := World.cells?_some h1
      obtain ⟨xs, k, hk, hxy, _, hxl, hf⟩ := DataW.trod_struct he h2
      have hpl : ∀ p ∈ Pl i, p.block < W.heap.size := fun p hp => hlt p (List.mem_append_right _ (List.mem_flatMap.2 ⟨i, List.mem_range.2 (by omega), hp⟩))
      simp only [Prod.mk.injEq] at hxy
      rw [hxy.2] at hpl
      match xs, hxl, cs', hlen with
      | [y0, y1, y2, y3], _, [v0, v1, v2, v3], _ =>
        have g0 := hf 0 f0 rfl
        have g1 := hf 1 f1 rfl
        have g2 := hf 2 f2 rfl
        have g3 := hf 3 f3 rfl
        simp [o0, o1, o2, o3, c0, c1, c2, c3] at g0 g1 g2 g3
        have e0 := hcell 0 (by omega)
        have e1 := hcell 1 (by omega)
        have e2 := hcell 2 (by omega)
        have e3 := hcell 3 (by omega)
        rw [add_add] at e0 e1 e2 e3
        obtain ⟨d0, hd0⟩ := DataW.trod_int i0 g0
        obtain ⟨hd0, -⟩ := hd0
        obtain ⟨d1, hd1⟩ := DataW.trod_int i1 g1
        obtain ⟨hd1, -⟩ := hd1
        obtain ⟨d2, hr2⟩ := open_rowF i2 iq cq g2 (fun p hp => hpl p (by simp [hp]))
        obtain ⟨d3, hr3⟩ := open_rowF i3 iq cq g3 (fun p hp => hpl p (by simp [hp]))
        simp at hd0 hd1
        subst hd0
        subst hd1
        exact ⟨⟨d0, d1, d2, d3⟩, by simpa using e0, by simpa using e1, v2, v3, by simpa using e2, by simpa using e3, hr2, hr3⟩
    haveI : Inhabited Ed := ⟨ed0⟩
    obtain ⟨q, hq⟩ := choose_lt each
    have hg : ∀ k, k < len → ((List.range len).map q).getD k ed0 = q k := by
      intro k hk
      simp [List.getD_eq_getElem?_getD, hk]
    refine ⟨(List.range len).map q, ⟨some a, cap, by simp, by simpa using hl, fun k hk => ?_⟩, by unfold maxLen at hm; simp; omega, fun k hk => ?_⟩
    · have hk' : k < len := by simpa using hk
      rw [hg k hk']
      obtain ⟨z0, z1, u2, u3, z2, z3, r2, r3⟩ := hq k hk'
      obtain ⟨b, off, spot⟩ := a
      have hspot : spot = none := by simpa [Addr.add] using World.cell?_spot (hq 0 (by omega)).1
      subst hspot
      obtain ⟨A2, c2, e2⟩ := r2.len
      obtain ⟨A3, c3, e3⟩ := r3.len
      rw [e2] at z2 r2
      rw [e3] at z3 r3
      refine ⟨b, off, A2, c2, A3, c3, rfl, hlt (.cell b off) (List.mem_append_left _ (MemPlace.mem_row.2 ⟨0, by rw [ce]; omega, by simp⟩)), ?_, ?_, ?_, ?_, r2.1, r3.1⟩
      · rw [← add_plain]; exact z0
      · rw [Nat.add_assoc, ← add_plain]; exact z1
      · rw [Nat.add_assoc, ← add_plain]; exact z2
      · rw [Nat.add_assoc, ← add_plain]; exact z3
    · have hk' : k < len := by simpa using hk
      rw [hg k hk']
      obtain ⟨-, -, u2, u3, -, -, r2, r3⟩ := hq k hk'
      exact ⟨r2.2, r3.2⟩
theorem structEdge : ∃ f0 f1 f2 f3, Try.prog.underlying 77 = some (.struct #[f0, f1, f2, f3]) ∧ Try.prog.cellsOf 77 = 4 ∧ f0.offset = 0 ∧ f1.offset = 1 ∧ f2.offset = 2 ∧ f3.offset = 3 ∧ Try.prog.cellsOf f0.type = 1 ∧ Try.prog.cellsOf f1.type = 1 ∧ Try.prog.cellsOf f2.type = 1 ∧ Try.prog.cellsOf f3.type = 1 ∧
    Try.prog.underlying f0.type = some (.int .i64) ∧ Try.prog.underlying f1.type = some (.int .i64) ∧ Try.prog.underlying f2.type = some (.slice 3) ∧ Try.prog.underlying f3.type = some (.slice 3) := by
  refine ⟨_, _, _, _, Try.underlying77, by kernel_rfl, rfl, rfl, rfl, rfl, by kernel_rfl, by kernel_rfl, by kernel_rfl, by kernel_rfl, Try.underlying3, Try.underlying3, Try.underlying23, Try.underlying23⟩
theorem structGraph : ∃ f0 f1 f2 f3, Try.prog.underlying 25 = some (.struct #[f0, f1, f2, f3]) ∧ f0.type = 3 ∧ f1.type = 22 ∧ f2.type = 23 ∧ f3.type = 23 ∧ oneCellFields Try.prog #[f0, f1, f2, f3] = true := by
  refine ⟨_, _, _, _, Try.underlying25, rfl, rfl, rfl, rfl, by kernel_rfl⟩
theorem Rest.sGraph {H : Type} {enc : TypeId × Value → H} {W : World} {base : Nat} {ts : List TypeId} {vs : List Value} (h : Rest enc W base (25 :: ts) vs) : ∃ (d0 : Int) (u1 : Value) (d1 : List Ed) (u2 : Value) (d2 : List Int) (u3 : Value) (d3 : List Int) (vs' : List Value), vs = .agg #[.int .i64 d0, u1, u2, u3] :: vs' ∧ LfE W W.heap.size u1 d1 ∧ LfR W W.heap.size u2 d2 ∧ LfR W W.heap.size u3 d3 ∧ Rest enc W base ts vs' := by
  obtain ⟨v, vs', d, ps, rfl, hv, h1, hlt, h2⟩ := h.cons
  obtain ⟨f0, f1, f2, f3, hs, e0, e1, e2, e3, hone⟩ := structGraph
  obtain ⟨v0, v1, v2, v3, y0, y1, y2, y3, n, rfl, _, rfl, g0, g1, g2, g3⟩ := open_agg4 hs hone (by kernel_rfl) hv h1
  obtain ⟨p0, p1, p2, p3, hn, ce, q0, q1, q2, q3, k0, k1, k2, k3, i0, i1, i2, i3⟩ := structEdge
  rw [e0] at g0
  obtain ⟨d0, hd0⟩ := DataW.trod_int Try.underlying3 g0
  obtain ⟨hd0, -⟩ := hd0
  rw [e1] at g1
  obtain ⟨d1, hr1⟩ := open_edges (t := 22) (e := 77) Try.underlying22 hn ce q0 q1 q2 q3 k0 k1 k2 k3 i0 i1 i2 i3 Try.underlying3 (by kernel_rfl) g1 (fun p hp => hlt p (List.mem_append_right _ (List.mem_append_left _ hp)))
  rw [e2] at g2
  obtain ⟨d2, hr2⟩ := open_rowF (t := 23) (e := 3) Try.underlying23 Try.underlying3 (by kernel_rfl) g2 (fun p hp => hlt p (List.mem_append_right _ (List.mem_append_right _ (List.mem_append_left _ hp))))
  rw [e3] at g3
  obtain ⟨d3, hr3⟩ := open_rowF (t := 23) (e := 3) Try.underlying23 Try.underlying3 (by kernel_rfl) g3 (fun p hp => hlt p (List.mem_append_right _ (List.mem_append_right _ (List.mem_append_right _ hp))))
  simp at hd0
  exact ⟨d0, v1, d1, v2, d2, v3, d3, vs', by rw [hd0], hr1, hr2, hr3, h2⟩
end Go.Proofs.Ytdcgoeapgboclaa
