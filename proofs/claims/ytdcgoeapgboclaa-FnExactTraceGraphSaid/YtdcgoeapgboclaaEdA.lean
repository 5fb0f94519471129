/- A list of edges of one's own that grows by append. -/
import Derived.Test.YtdcgoeapgboclaaLeafE
import Derived.Deep.AppendLies
namespace Go.Proofs.Ytdcgoeapgboclaa
set_option maxRecDepth 100000
open Go Go.RowKit Go.Deep

/-- The slice v owns the edges es; list q of them lies at vs q, each in a block of its own. -/
structure EdA (w : World) (S : Nat → Prop) (v : Value) (es : List Ed) (vs : Nat → Value) : Prop where
  outer : w.ownsRow 0 tEd 4 v es.length (ecells es vs)
  inS : ∀ k, v.ownBlock = some k → S k
  row : ∀ r, r < es.length * 2 → OwR w tI S (vs r) (erow es r)
  off : ∀ r, r < es.length * 2 → erow es r ≠ [] → v.ownBlock ≠ some (blkOf (vs r))
  apart : ∀ r s, r < es.length * 2 → s < es.length * 2 → r ≠ s → erow es r ≠ [] → erow es s ≠ [] → blkOf (vs r) ≠ blkOf (vs s)
theorem EdA.nil (w : World) (S : Nat → Prop) (vs : Nat → Value) : EdA w S (.slice none 0 0) [] vs :=
  ⟨World.ownsRow_nil w 0 tEd 4, fun k h => (by cases h), fun r hr => absurd hr (Nat.not_lt_zero r), fun r hr => absurd hr (Nat.not_lt_zero r), fun r s hr => absurd hr (Nat.not_lt_zero r)⟩
section
variable {w w' : World} {S T : Nat → Prop} {v : Value} {es : List Ed} {vs : Nat → Value}
theorem EdA.mono (h : EdA w S v es vs) (hs : ∀ k, S k → k < w.heap.size → T k) : EdA w T v es vs :=
  ⟨h.outer, fun k hk => hs k (h.inS k hk) (h.outer.lt k hk).2, fun r hr => (h.row r hr).mono hs, h.off, h.apart⟩
theorem EdA.blocks (h : EdA w S v es vs) (hb : ∀ k, S k → k < w.heap.size → w'.heap[k]? = w.heap[k]?) : EdA w' S v es vs :=
  ⟨ownsRow_of_block h.outer fun g hg hl => hb g (h.inS g hg) hl, h.inS, fun r hr => (h.row r hr).blocks fun k hk hl _ _ => hb k hk hl, h.off, h.apart⟩
theorem EdA.toOwE (h : EdA w S v es vs) : OwE w S v es := by
  rcases h.outer.2 with ⟨rfl, h0⟩ | ⟨g, cap, cur, hv, _, h4, h5, h6, h7, h8⟩
  · have : es = [] := List.eq_nil_of_length_eq_zero h0
    subst this
    exact ⟨none, 0, rfl, Nat.le_refl 0, Or.inl rfl⟩
  · refine ⟨some ⟨g, 0, none⟩, cap, hv, h5, Or.inr ⟨g, vs, rfl, ?_⟩⟩
    refine ⟨⟨cur, h4, by rw [ecells_len]; omega, fun j hj => ?_⟩, h.inS g (by rw [hv]; rfl), h.row, fun r hr hx => ?_, h.apart⟩
    · rw [ecells_len] at hj
      have e : (ecells es vs)[j]? = (cur.toList.take (es.length * 4))[j]? := by rw [h8]
      rw [e, List.getElem?_take_of_lt (by omega)]
      simp
    · have := h.off r hr hx
      rw [hv] at this
      simp only [Value.ownBlock, ne_eq, Option.some.injEq] at this
      exact fun e => this e.symm
theorem erow_snoc (es : List Ed) (e : Ed) (q : Nat) : erow (es ++ [e]) q = if q = es.length * 2 then e.i else if q = es.length * 2 + 1 then e.o else erow es q := by
  have hg : ∀ k, (es ++ [e]).getD k ed0 = if k = es.length then e else es.getD k ed0 := fun k => by
    by_cases c : k < es.length
    · rw [if_neg (by omega), List.getD_eq_getElem?_getD, List.getElem?_append_left c, ← List.getD_eq_getElem?_getD]
    · by_cases d : k = es.length
      · subst d
        rw [if_pos rfl, List.getD_eq_getElem?_getD]
        simp
      · rw [if_neg d, List.getD_eq_getElem?_getD, List.getElem?_eq_none (by simp; omega), List.getD_eq_getElem?_getD, List.getElem?_eq_none (by omega)]
  unfold erow
  rw [hg]
  by_cases c : q / 2 = es.length
  · rw [if_pos c]
    by_cases d : q % 2 = 0
    · rw [if_pos d, if_pos (by omega)]
    · rw [if_neg d, if_neg (by omega), if_pos (by omega)]
  · rw [if_neg c, if_neg (show ¬ q = es.length * 2 by omega), if_neg (show ¬ q = es.length * 2 + 1 by omega)]
theorem ecells_snoc (es : List Ed) (e : Ed) (vs : Nat → Value) (u1 u2 : Value) : ecells (es ++ [e]) (upV vs es.length u1 u2) = ecells es vs ++ [.int .i64 e.k, .int .i64 e.v, u1, u2] := by
  have hg : ∀ k, k < es.length → (es ++ [e]).getD k ed0 = es.getD k ed0 := fun k c => by
    rw [List.getD_eq_getElem?_getD, List.getElem?_append_left c, ← List.getD_eq_getElem?_getD]
  have hl : (es ++ [e]).getD es.length ed0 = e := by
    rw [List.getD_eq_getElem?_getD]
    simp
  apply List.ext_getElem?
  intro j
  by_cases hj : j < es.length * 4
  · rw [ecells_at _ _ (by simp; omega), List.getElem?_append_left (by rw [ecells_len]; exact hj), ecells_at _ _ hj]
    unfold ecell upV
    rw [hg _ (by omega), if_neg (show ¬ j / 4 * 2 + (j % 4 - 2) = es.length * 2 by omega), if_neg (show ¬ j / 4 * 2 + (j % 4 - 2) = es.length * 2 + 1 by omega)]
  · by_cases hj2 : j < es.length * 4 + 4
    · rw [ecells_at _ _ (by simp; omega), List.getElem?_append_right (by rw [ecells_len]; omega), ecells_len]
      obtain ⟨d, rfl⟩ : ∃ d, j = es.length * 4 + d := ⟨j - es.length * 4, by omega⟩
      rw [Nat.add_sub_cancel_left]
      have hd : d = 0 ∨ d = 1 ∨ d = 2 ∨ d = 3 := by omega
      rcases hd with rfl | rfl | rfl | rfl
      · rw [Nat.add_zero, ecell0, hl]
        rfl
      · rw [ecell1, hl]
        rfl
      · rw [ecell2]
        simp [upV]
      · rw [ecell3]
        simp [upV]
    · rw [List.getElem?_eq_none (by rw [ecells_len]; simp; omega), List.getElem?_eq_none (by simp [ecells_len]; omega)]
/-- An edge appended, its lists in blocks that no other list has. -/
theorem EdA.push (h : EdA w S v es vs) (e : Ed) {u1 u2 : Value} {T1 T2 : Nat → Prop} (h1 : OwR w tI T1 u1 e.i) (h2 : OwR w tI T2 u2 e.o) (d1 : ∀ k, T1 k → ¬ S k) (d2 : ∀ k, T2 k → ¬ S k) (d12 : ∀ k, T1 k → T2 k → False) {g cap : Nat}
    (hown : w'.ownsRow 0 tEd 4 (.slice (some ⟨g, 0, none⟩) (es.length + 1) cap) (es.length + 1) (ecells es vs ++ [.int .i64 e.k, .int .i64 e.v, u1, u2])) (hgrow : w.grownBy w' v.ownBlock) (hat : v.ownBlock = some g ∨ g = w.heap.size) :
    EdA w' (fun k => S k ∨ T1 k ∨ T2 k ∨ k = w.heap.size) (.slice (some ⟨g, 0, none⟩) (es.length + 1) cap) (es ++ [e]) (upV vs es.length u1 u2) := by
  have b1 : e.i ≠ [] → T1 (blkOf u1) ∧ blkOf u1 < w.heap.size := fun hx => h1.blkS hx
  have b2 : e.o ≠ [] → T2 (blkOf u2) ∧ blkOf u2 < w.heap.size := fun hx => h2.blkS hx
  have b0 : ∀ q, q < es.length * 2 → erow es q ≠ [] → S (blkOf (vs q)) ∧ blkOf (vs q) < w.heap.size := fun q hq hx => (h.row q hq).blkS hx
  have kept : ∀ k, k < w.heap.size → v.ownBlock ≠ some k → w'.heap[k]? = w.heap[k]? := fun k hk hn => hgrow.block k hk fun e => hn e.symm
  have hlen : (es ++ [e]).length = es.length + 1 := by simp
  refine ⟨?_, fun k hk => ?_, fun q hq => ?_, fun q hq hx => ?_, fun q s hq hs hqs hx hy => ?_⟩
  · rw [ecells_snoc, hlen]
    exact hown
  · simp only [Value.ownBlock, Option.some.injEq] at hk
    subst hk
    rcases hat with hg | hg
    · exact Or.inl (h.inS _ hg)
    · exact Or.inr (Or.inr (Or.inr hg))
  · rw [erow_snoc]
    unfold upV
    by_cases c1 : q = es.length * 2
    · rw [if_pos c1, if_pos c1]
      exact (h1.mono (T := fun k => S k ∨ T1 k ∨ T2 k ∨ k = w.heap.size) fun k hk _ => Or.inr (Or.inl hk)).blocks fun k _ hl hx e => kept k hl fun hn => d1 k (by rw [e]; exact (b1 hx).1) (h.inS k hn)
    rw [if_neg c1, if_neg c1]
    by_cases c2 : q = es.length * 2 + 1
    · rw [if_pos c2, if_pos c2]
      exact (h2.mono (T := fun k => S k ∨ T1 k ∨ T2 k ∨ k = w.heap.size) fun k hk _ => Or.inr (Or.inr (Or.inl hk))).blocks fun k _ hl hx e => kept k hl fun hn => d2 k (by rw [e]; exact (b2 hx).1) (h.inS k hn)
    rw [if_neg c2, if_neg c2]
    have hq2 : q < es.length * 2 := by rw [hlen] at hq; omega
    exact ((h.row q hq2).mono (T := fun k => S k ∨ T1 k ∨ T2 k ∨ k = w.heap.size) fun k hk _ => Or.inl hk).blocks fun k _ hl hx e => kept k hl fun hn => h.off q hq2 hx (by rw [hn, e])
  · simp only [Value.ownBlock, ne_eq, Option.some.injEq]
    intro hge
    have hne : v.ownBlock ≠ some (blkOf (upV vs es.length u1 u2 q)) ∧ blkOf (upV vs es.length u1 u2 q) < w.heap.size := by
      rw [erow_snoc] at hx
      unfold upV
      by_cases c1 : q = es.length * 2
      · rw [if_pos c1] at hx ⊢
        exact ⟨fun hn => d1 _ (b1 hx).1 (h.inS _ hn), (b1 hx).2⟩
      rw [if_neg c1] at hx ⊢
      by_cases c2 : q = es.length * 2 + 1
      · rw [if_pos c2] at hx ⊢
        exact ⟨fun hn => d2 _ (b2 hx).1 (h.inS _ hn), (b2 hx).2⟩
      rw [if_neg c2] at hx ⊢
      have hq2 : q < es.length * 2 := by rw [hlen] at hq; omega
      exact ⟨h.off q hq2 hx, (b0 q hq2 hx).2⟩
    rcases hat with hg | hg
    · exact hne.1 (by rw [hg, hge])
    · have := hne.2
      omega
  · rw [erow_snoc] at hx hy
    unfold upV
    rw [hlen] at hq hs
    by_cases c1 : q = es.length * 2
    · rw [if_pos c1] at hx ⊢
      rw [if_neg (show ¬ s = es.length * 2 by omega)] at hy ⊢
      intro e1
      have t1 := (b1 hx).1
      rw [e1] at t1
      by_cases c2 : s = es.length * 2 + 1
      · rw [if_pos c2] at hy t1
        exact d12 _ t1 (b2 hy).1
      · rw [if_neg c2] at hy t1
        exact d1 _ t1 (b0 s (by omega) hy).1
    rw [if_neg c1] at hx ⊢
    by_cases c2 : q = es.length * 2 + 1
    · rw [if_pos c2] at hx ⊢
      intro e1
      have t2 := (b2 hx).1
      rw [e1] at t2
      by_cases c3 : s = es.length * 2
      · rw [if_pos c3] at hy t2
        exact d12 _ (b1 hy).1 t2
      · rw [if_neg c3, if_neg (show ¬ s = es.length * 2 + 1 by omega)] at hy t2
        exact d2 _ t2 (b0 s (by omega) hy).1
    rw [if_neg c2] at hx ⊢
    intro e1
    have o1 := (b0 q (by omega) hx).1
    rw [e1] at o1
    by_cases c3 : s = es.length * 2
    · rw [if_pos c3] at hy o1
      exact d1 _ (b1 hy).1 o1
    rw [if_neg c3] at hy o1 e1
    by_cases c4 : s = es.length * 2 + 1
    · rw [if_pos c4] at hy o1
      exact d2 _ (b2 hy).1 o1
    · rw [if_neg c4] at hy e1
      exact h.apart q s (by omega) (by omega) hqs hx hy e1
end
end Go.Proofs.Ytdcgoeapgboclaa
