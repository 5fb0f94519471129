/- A list of edges of one's own in the box of a graph: an edge is pushed, the box is laid. -/
import Derived.Test.YtdcgoeapgboclaaEdA
import Derived.Test.YtdcgoeapgboclaaRegL
import Derived.Test.YtdcgoeapgboclaaLeafF
namespace Go.Proofs.Ytdcgoeapgboclaa
set_option maxRecDepth 100000
open Go Go.RowKit Go.Deep

section
variable {ops : Array Oper} {o : Oper} {a : Act} {Q : Exit → Act → World → Prop}
theorem step_pushE {K : Act → World → Prop} {E : Prop} (hgd : o.guard = none) (s x : Operand) (ho : o.op = .call { callee := .builtin .append, args := #[s, x], argTypes := #[27, 27] }) (w : World) (v : Value) (es : List Ed) (vs : Nat → Value) (b c : Nat) (k0 v0 : Int) (A1 : Option Addr) (n1 c1 : Nat) (A2 : Option Addr) (n2 c2 : Nat)
    (hs : a.eval s = v) (hG : w.ownsRow 0 tEd 4 v es.length (ecells es vs)) (hx : a.eval x = .slice (some ⟨b, 0, none⟩) 1 c) (hc : w.cell? ⟨b, 0, none⟩ = some (.int .i64 k0) ∧ w.cell? ⟨b, 1, none⟩ = some (.int .i64 v0) ∧ w.cell? ⟨b, 2, none⟩ = some (.slice A1 n1 c1) ∧ w.cell? ⟨b, 3, none⟩ = some (.slice A2 n2 c2)) (hn : es.length + 1 ≤ 1000000)
    (h : ∀ g cap w', w'.ownsRow 0 tEd 4 (.slice (some ⟨g, 0, none⟩) (es.length + 1) cap) (es.length + 1) (ecells es vs ++ [.int .i64 k0, .int .i64 v0, .slice A1 n1 c1, .slice A2 n2 c2]) → w.grownBy w' v.ownBlock → (v.ownBlock = some g ∨ g = w.heap.size) → g < w'.heap.size → K (a.put o.dst (.slice (some ⟨g, 0, none⟩) (es.length + 1) cap)) w') : if Region.wanted o (yielded ops a.tmps) = true then Oper.wp Try.prog o a w K Q else E := by
  obtain ⟨i0, hi0, hzz⟩ := Option.map_eq_some_iff.1 infoE
  simp only [Prod.mk.injEq] at hzz
  obtain ⟨hz0, hz1, hz2⟩ := hzz
  refine step_append_lies w hgd s x _ ho 0 tEd i0 _ 4 64 Try.underlying27 hi0 hz0 hz1 hz2 rfl (by omega) v es.length (ecells es vs) hs hG ⟨b, 0, none⟩ 1 c [.int .i64 k0, .int .i64 v0, .slice A1 n1 c1, .slice A2 n2 c2] hx rfl (fun j u hj => ?_) (fun u hu => ?_) (by omega) (by unfold maxLen; omega) (by omega) (Nat.zero_le _) _ rfl h
  · match j, hj with
    | 0, hj => simp at hj; subst hj; simpa [Addr.add] using hc.1
    | 1, hj => simp at hj; subst hj; simpa [Addr.add] using hc.2.1
    | 2, hj => simp at hj; subst hj; simpa [Addr.add] using hc.2.2.1
    | 3, hj => simp at hj; subst hj; simpa [Addr.add] using hc.2.2.2
  · simp at hu
    rcases hu with rfl | rfl | rfl | rfl <;> rfl
end
theorem touch_grows {S : Nat → Prop} {a b c : World} {o : Option Nat} (h : Touch S a b) (hg : b.grownBy c o) (ho : ∀ q, o = some q → a.heap.size ≤ q) : Touch S a c :=
  ⟨hg.os.trans h.os, hg.tape.trans h.tape, hg.output.trans h.output, Nat.le_trans h.size hg.size, fun k hk hs => (hg.block k (Nat.lt_of_lt_of_le hk h.size) fun e => by have := ho k e.symm; omega).trans (h.block k hk hs)⟩
theorem EdA.form {w : World} {S : Nat → Prop} {v : Value} {es : List Ed} {vs : Nat → Value} (h : EdA w S v es vs) : ∃ A c, v = .slice A es.length c := by
  rcases h.outer.2 with ⟨rfl, h0⟩ | ⟨g, cap, cur, hv, _⟩
  · exact ⟨none, 0, by rw [h0]⟩
  · exact ⟨_, _, hv⟩
theorem own_apart {w : World} {S : Nat → Prop} {ob : Nat} {u : Value} {xs : List Int} {zs : List Value} (h : OwR w tI S u xs) (hz : CellsAt w ob 29 zs) : OwR w tI (fun q => S q ∧ q ≠ ob ∧ q < w.heap.size) u xs := by
  obtain ⟨A, c, e, kc, h⟩ := h
  refine ⟨A, c, e, kc, ?_⟩
  rcases h with h | ⟨b, e2, h3, h4⟩
  · exact Or.inl h
  · refine Or.inr ⟨b, e2, ⟨h3, fun hb => ?_, h4.lt⟩, h4⟩
    subst hb
    obtain ⟨c1, g1, -⟩ := h4
    obtain ⟨c2, g2, -⟩ := hz
    rw [g1] at g2
    simp only [Option.some.injEq, Obj.cells.injEq] at g2
    exact absurd g2.2.1 (by decide)
theorem mir_setup {W w4 : World} {ob : Nat} {n : Int} {xi xo : List Int} {A3 A4 : Option Addr} {c3 c4 : Nat} (hz : CellsAt w4 ob 29 [.int .i64 0, .slice none 0 0, .slice none 0 0, .slice none 0 0]) (hB : Below W.heap.size W w4) (hob : W.heap.size ≤ ob) (h3 : OwR w4 tI (fun q => W.heap.size ≤ q) (.slice A3 xo.length c3) xo) (h4 : OwR w4 tI (fun q => W.heap.size ≤ q) (.slice A4 xi.length c4) xi) :
    Hid (CellsAt ((((w4.setCell ⟨ob, 0, none⟩ (.int .i64 n)).setCell ⟨ob, 1, none⟩ (.slice none 0 0)).setCell ⟨ob, 2, none⟩ (.slice A3 xo.length c3)).setCell ⟨ob, 3, none⟩ (.slice A4 xi.length c4)) ob 29 [.int .i64 n, .slice none 0 0, .slice A3 xo.length c3, .slice A4 xi.length c4]) ∧ Hid (Below W.heap.size W ((((w4.setCell ⟨ob, 0, none⟩ (.int .i64 n)).setCell ⟨ob, 1, none⟩ (.slice none 0 0)).setCell ⟨ob, 2, none⟩ (.slice A3 xo.length c3)).setCell ⟨ob, 3, none⟩ (.slice A4 xi.length c4))) ∧ Hid (OwR ((((w4.setCell ⟨ob, 0, none⟩ (.int .i64 n)).setCell ⟨ob, 1, none⟩ (.slice none 0 0)).setCell ⟨ob, 2, none⟩ (.slice A3 xo.length c3)).setCell ⟨ob, 3, none⟩ (.slice A4 xi.length c4)) tI (fun q => W.heap.size ≤ q ∧ q ≠ ob ∧ q < ((((w4.setCell ⟨ob, 0, none⟩ (.int .i64 n)).setCell ⟨ob, 1, none⟩ (.slice none 0 0)).setCell ⟨ob, 2, none⟩ (.slice A3 xo.length c3)).setCell ⟨ob, 3, none⟩ (.slice A4 xi.length c4)).heap.size) (.slice A3 xo.length c3) xo) ∧ Hid (OwR ((((w4.setCell ⟨ob, 0, none⟩ (.int .i64 n)).setCell ⟨ob, 1, none⟩ (.slice none 0 0)).setCell ⟨ob, 2, none⟩ (.slice A3 xo.length c3)).setCell ⟨ob, 3, none⟩ (.slice A4 xi.length c4)) tI (fun q => W.heap.size ≤ q ∧ q ≠ ob ∧ q < ((((w4.setCell ⟨ob, 0, none⟩ (.int .i64 n)).setCell ⟨ob, 1, none⟩ (.slice none 0 0)).setCell ⟨ob, 2, none⟩ (.slice A3 xo.length c3)).setCell ⟨ob, 3, none⟩ (.slice A4 xi.length c4)).heap.size) (.slice A4 xi.length c4) xi) := by
  have hs : ((((w4.setCell ⟨ob, 0, none⟩ (.int .i64 n)).setCell ⟨ob, 1, none⟩ (.slice none 0 0)).setCell ⟨ob, 2, none⟩ (.slice A3 xo.length c3)).setCell ⟨ob, 3, none⟩ (.slice A4 xi.length c4)).heap.size = w4.heap.size := by simp
  refine ⟨Lib.hid ((((hz.set 0 _).set 1 _).set 2 _).set 3 _), Lib.hid (by repeat' (first | exact hB | apply Below.setCell | exact hob)), Lib.hid ?_, Lib.hid ?_⟩
  · rw [hs]
    exact (own_apart h3 hz).blocks fun q hq _ _ _ => by repeat rw [blk_setCell_other _ _ _ _ (by dsimp only; exact hq.2.1)]
  · rw [hs]
    exact (own_apart h4 hz).blocks fun q hq _ _ _ => by repeat rw [blk_setCell_other _ _ _ _ (by dsimp only; exact hq.2.1)]
theorem mir_setup2 {W w4 : World} {ob : Nat} {n : Int} {xi xo : List Int} {A3 A4 : Option Addr} {c3 c4 : Nat} (hob : ob = w4.heap.size) (hB : Below W.heap.size W w4) (h3 : OwR w4 tI (fun q => W.heap.size ≤ q) (.slice A3 xo.length c3) xo) (h4 : OwR w4 tI (fun q => W.heap.size ≤ q) (.slice A4 xi.length c4) xi) :
    Hid (CellsAt (w4.alloc (.cells #[.int .i64 n, .slice none 0 0, .slice A3 xo.length c3, .slice A4 xi.length c4] 29)) ob 29 [.int .i64 n, .slice none 0 0, .slice A3 xo.length c3, .slice A4 xi.length c4]) ∧ Hid (Below W.heap.size W (w4.alloc (.cells #[.int .i64 n, .slice none 0 0, .slice A3 xo.length c3, .slice A4 xi.length c4] 29))) ∧ Hid (OwR (w4.alloc (.cells #[.int .i64 n, .slice none 0 0, .slice A3 xo.length c3, .slice A4 xi.length c4] 29)) tI (fun q => W.heap.size ≤ q ∧ q ≠ ob ∧ q < (w4.alloc (.cells #[.int .i64 n, .slice none 0 0, .slice A3 xo.length c3, .slice A4 xi.length c4] 29)).heap.size) (.slice A3 xo.length c3) xo) ∧ Hid (OwR (w4.alloc (.cells #[.int .i64 n, .slice none 0 0, .slice A3 xo.length c3, .slice A4 xi.length c4] 29)) tI (fun q => W.heap.size ≤ q ∧ q ≠ ob ∧ q < (w4.alloc (.cells #[.int .i64 n, .slice none 0 0, .slice A3 xo.length c3, .slice A4 xi.length c4] 29)).heap.size) (.slice A4 xi.length c4) xi) := by
  subst hob
  have hz := cellsAt_new w4 #[.int .i64 n, .slice none 0 0, .slice A3 xo.length c3, .slice A4 xi.length c4] 29
  refine ⟨Lib.hid hz, Lib.hid (hB.alloc hB.size _), Lib.hid ?_, Lib.hid ?_⟩
  · exact (h3.mono (T := fun q => W.heap.size ≤ q ∧ q ≠ w4.heap.size ∧ q < _) fun q hq hl => ⟨hq, by omega, by simp; omega⟩).blocks fun q _ hl _ _ => blk_alloc_lt _ _ _ hl
  · exact (h4.mono (T := fun q => W.heap.size ≤ q ∧ q ≠ w4.heap.size ∧ q < _) fun q hq hl => ⟨hq, by omega, by simp; omega⟩).blocks fun q _ hl _ _ => blk_alloc_lt _ _ _ hl
end Go.Proofs.Ytdcgoeapgboclaa
