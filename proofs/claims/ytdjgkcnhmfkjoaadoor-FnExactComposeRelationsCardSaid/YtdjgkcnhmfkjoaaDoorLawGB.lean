/- Arguments of the laws, opened: structs with the bounds of their ints. -/
import Derived.Test.YtdjgkcnhmfkjoaaDoorLawG
namespace Go.Proofs.YtdjgkcnhmfkjoaaDoor
set_option maxRecDepth 100000
open Go Go.RowKit Go.WideShapes Go.ChangeShapes Go.Deep Go.Joins

theorem Rest.sRelationB {H : Type} {enc : TypeId × Value → H} {W : World} {base : Nat} {ts : List TypeId} {vs : List Value} (h : Rest enc W base (24 :: ts) vs) : ∃ (d0 : Int) (d1 : Int) (u2 : Value) (d2 : List (List Int)) (vs' : List Value), vs = .agg #[.int .i64 d0, .int .i64 d1, u2] :: vs' ∧ Bi d0 ∧ Bi d1 ∧ LfG W W.heap.size u2 d2 ∧ Rest enc W base ts vs' := by
  obtain ⟨v, vs', d, ps, rfl, hv, h1, hlt, h2⟩ := h.cons
  obtain ⟨f0, f1, f2, hs, e0, e1, e2, hone⟩ := structRelation
  obtain ⟨v0, v1, v2, y0, y1, y2, n, rfl, _, rfl, g0, g1, g2⟩ := open_agg3 hs hone (by kernel_rfl) hv h1
  rw [e0] at g0
  obtain ⟨d0, hd0⟩ := DataW.trod_int Tryd.underlying3 g0
  obtain ⟨hd0, -, hb0⟩ := hd0
  rw [e1] at g1
  obtain ⟨d1, hd1⟩ := DataW.trod_int Tryd.underlying3 g1
  obtain ⟨hd1, -, hb1⟩ := hd1
  rw [e2] at g2
  obtain ⟨d2, hr2⟩ := open_grid (t := 22) (e := 40) (q := 3) Tryd.underlying22 Tryd.underlying40 Tryd.underlying3 (by kernel_rfl) (by kernel_rfl) g2 (fun p hp => hlt p (List.mem_append_right _ (List.mem_append_right _ hp)))
  exact ⟨d0, d1, v2, d2, vs', by simp at hd0 hd1; rw [hd0, hd1], bi_wf hb0, bi_wf hb1, hr2, h2⟩
end Go.Proofs.YtdjgkcnhmfkjoaaDoor
