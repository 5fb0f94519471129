/- Arguments of the laws, opened: a term (a struct of one field, a slice of structs of three one-cell fields). -/
import Derived.Test.YtiealgnmhjebeaaLawG
import Derived.Test.YtiealgnmhjebeaaLeafN0
import Derived.Deep.Slices
import Derived.ChangeSame
namespace Go.Proofs.Ytiealgnmhjebeaa
set_option maxRecDepth 100000
open Go Go.RowKit Go.WideShapes Go.ChangeShapes Go.Deep Go.Joins

theorem open_nodes {H : Type} {enc : TypeId × Value → H} {P : Program} {W : World} {t e : TypeId} {f0 f1 f2 : Field} {fuel : Nat} {v : Value} {x : DataW H × List MemPlace} (ht : P.underlying t = some (.slice e)) (he : P.underlying e = some (.struct #[f0, f1, f2]))
    (ce : P.cellsOf e = 3) (o0 : f0.offset = 0) (o1 : f1.offset = 1) (o2 : f2.offset = 2) (c0 : P.cellsOf f0.type = 1) (c1 : P.cellsOf f1.type = 1) (c2 : P.cellsOf f2.type = 1)
    (i0 : P.underlying f0.type = some (.int .i64)) (i1 : P.underlying f1.type = some (.int .i64)) (i2 : P.underlying f2.type = some .string)
    (h : DataW.trod enc P W 0 (fun _ => true) true fuel t [v] = some x) (hlt : ∀ p ∈ x.2, p.block < W.heap.size) : ∃ xs : List Nd, LfN W W.heap.size v xs := by
  rcases open_slice ht h with ⟨hcs, -⟩ | ⟨a, len, cap, m, n, D, Pl, hcs, hb, hl, hm, hmm, rfl, hx⟩
  · simp only [List.cons.injEq, and_true] at hcs
    subst hcs
    exact ⟨[], ⟨none, 0, rfl, Nat.le_refl 0, fun k hk => absurd hk (Nat.not_lt_zero k)⟩, by simp, fun k hk => absurd hk (Nat.not_lt_zero k)⟩
  · simp only [List.cons.injEq, and_true] at hcs
    subst hcs
    have hlm : len ≤ m := by rw [hmm]; split <;> omega
    have each : ∀ i, i < len → ∃ d : Nd, W.cell? (a.add (i * 3)) = some (.int .i64 d.k) ∧ W.cell? (a.add (i * 3 + 1)) = some (.int .i64 d.v) ∧ W.cell? (a.add (i * 3 + 2)) = some (.string d.s) ∧ d.s.size ≤ 9223372036854775807 := by
      intro i hi
      obtain ⟨cs', h1, h2⟩ := hx i (by omega)
      rw [ce] at h1
      obtain ⟨_, hlen, hcell⟩ := World.cells?_some h1
      obtain ⟨xs, k, hk, hxy, _, hxl, hf⟩ := DataW.trod_struct he h2
      match xs, hxl, cs', hlen with
      | [y0, y1, y2], _, [v0, v1, v2], _ =>
        have g0 := hf 0 f0 rfl
        have g1 := hf 1 f1 rfl
        have g2 := hf 2 f2 rfl
        simp [o0, o1, o2, c0, c1, c2] at g0 g1 g2
        have e0 := hcell 0 (by omega)
        have e1 := hcell 1 (by omega)
        have e2 := hcell 2 (by omega)
        rw [add_add] at e0 e1 e2
        obtain ⟨d0, hd0⟩ := DataW.trod_int i0 g0
        obtain ⟨hd0, -⟩ := hd0
        obtain ⟨d1, hd1⟩ := DataW.trod_int i1 g1
        obtain ⟨hd1, -⟩ := hd1
        obtain ⟨d2, hd2, -, hz⟩ := DataW.trod_string i2 g2
        simp at hd0 hd1 hd2
        subst hd0
        subst hd1
        subst hd2
        exact ⟨⟨d0, d1, d2⟩, by simpa using e0, by simpa using e1, by simpa using e2, by unfold maxLen at hz; exact hz⟩
    haveI : Inhabited Nd := ⟨nd0⟩
    obtain ⟨q, hq⟩ := choose_lt each
    have hg : ∀ k, k < len → ((List.range len).map q).getD k nd0 = q k := by
      intro k hk
      simp [List.getD_eq_getElem?_getD, hk]
    refine ⟨(List.range len).map q, ⟨some a, cap, by simp, by simpa using hl, fun k hk => ?_⟩, by unfold maxLen at hm; simp; omega, fun k hk => ?_⟩
    · have hk' : k < len := by simpa using hk
      rw [hg k hk']
      obtain ⟨z0, z1, z2, -⟩ := hq k hk'
      obtain ⟨b, off, spot⟩ := a
      have hspot : spot = none := by simpa [Addr.add] using World.cell?_spot (hq 0 (by omega)).1
      subst hspot
      refine ⟨b, off, rfl, hlt (.cell b off) (List.mem_append_left _ (MemPlace.mem_row.2 ⟨0, by rw [ce]; omega, by simp⟩)), ?_, ?_, ?_⟩
      · rw [← add_plain]; exact z0
      · rw [Nat.add_assoc, ← add_plain]; exact z1
      · rw [Nat.add_assoc, ← add_plain]; exact z2
    · have hk' : k < len := by simpa using hk
      rw [hg k hk']
      exact (hq k hk').2.2.2
theorem structTerm : ∃ f0, Try.prog.underlying 24 = some (.struct #[f0]) ∧ f0.type = 22 ∧ f0.offset = 0 ∧ Try.prog.cellsOf f0.type = 1 ∧ Try.prog.cellsOf 24 = 1 := by
  refine ⟨_, Try.underlying24, rfl, rfl, by kernel_rfl, by kernel_rfl⟩
theorem structNode : ∃ f0 f1 f2, Try.prog.underlying 96 = some (.struct #[f0, f1, f2]) ∧ Try.prog.cellsOf 96 = 3 ∧ f0.offset = 0 ∧ f1.offset = 1 ∧ f2.offset = 2 ∧ Try.prog.cellsOf f0.type = 1 ∧ Try.prog.cellsOf f1.type = 1 ∧ Try.prog.cellsOf f2.type = 1 ∧
    Try.prog.underlying f0.type = some (.int .i64) ∧ Try.prog.underlying f1.type = some (.int .i64) ∧ Try.prog.underlying f2.type = some .string := by
  refine ⟨_, _, _, Try.underlying96, by kernel_rfl, rfl, rfl, rfl, by kernel_rfl, by kernel_rfl, by kernel_rfl, Try.underlying3, Try.underlying3, Try.underlying9⟩
theorem Rest.sTerm {H : Type} {enc : TypeId × Value → H} {W : World} {base : Nat} {ts : List TypeId} {vs : List Value} (h : Rest enc W base (24 :: ts) vs) : ∃ (u : Value) (xs : List Nd) (vs' : List Value), vs = .agg #[u] :: vs' ∧ LfN W W.heap.size u xs ∧ Rest enc W base ts vs' := by
  obtain ⟨v, vs', d, ps, rfl, hv, h1, hlt, h2⟩ := h.cons
  obtain ⟨f0, hs, e0, o0, k0, hC⟩ := structTerm
  obtain ⟨g0, g1, g2, hn, ce, p0, p1, p2, q0, q1, q2, i0, i1, i2⟩ := structNode
  obtain ⟨cs, rfl, hsz⟩ := okWide_struct hs hv
  obtain ⟨fuel, hf⟩ := h1
  obtain ⟨y0, n, hx, _, h0⟩ := trod_struct1 hs hf
  simp only [Prod.mk.injEq] at hx
  match cs, hsz.trans hC with
  | ⟨[c0]⟩, _ =>
    have h3 : DataW.trod enc Try.prog W 0 (fun _ => true) true n f0.type [c0] = some y0 := by simpa [Value.cells, o0, k0] using h0
    rw [e0] at h3
    obtain ⟨xs, hr⟩ := open_nodes (t := 22) (e := 96) Try.underlying22 hn ce p0 p1 p2 q0 q1 q2 i0 i1 i2 h3 (fun p hp => hlt p (by rw [hx.2]; exact hp))
    exact ⟨c0, xs, vs', rfl, hr, h2⟩
end Go.Proofs.Ytiealgnmhjebeaa
