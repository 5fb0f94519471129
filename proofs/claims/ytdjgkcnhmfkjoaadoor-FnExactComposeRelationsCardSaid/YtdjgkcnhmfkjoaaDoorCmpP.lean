/- Pieces of the rows of a grid, appended to a row of slices of one's own. -/
import Derived.Test.YtdjgkcnhmfkjoaaDoorLeafP
import Derived.Test.YtdjgkcnhmfkjoaaDoorCmpM
import Derived.Test.YtdjgkcnhmfkjoaaDoorJoin1
namespace Go.Proofs.YtdjgkcnhmfkjoaaDoor
set_option maxRecDepth 100000
open Go Go.RowKit Go.Deep

/-- The indices below i of the rows whose first element that isn't 0 is not ahead of place m. -/
def selQ (m : Nat) (Q : List (List Int)) (i : Nat) : List Nat := (List.range i).filter fun k => decide (m ≤ lead0 (Q.getD k []))
theorem selQ_yes {m : Nat} {Q : List (List Int)} {i : Nat} (h : m ≤ lead0 (Q.getD i [])) : selQ m Q (i + 1) = selQ m Q i ++ [i] := by
  unfold selQ
  rw [List.range_succ, List.filter_append, List.filter_cons_of_pos (by simpa using h), List.filter_nil]
theorem selQ_no {m : Nat} {Q : List (List Int)} {i : Nat} (h : ¬ m ≤ lead0 (Q.getD i [])) : selQ m Q (i + 1) = selQ m Q i := by
  unfold selQ
  rw [List.range_succ, List.filter_append, List.filter_cons_of_neg (by simpa using h), List.filter_nil, List.append_nil]
theorem selQ_mem {m : Nat} {Q : List (List Int)} {i k : Nat} (h : k ∈ selQ m Q i) : k < i ∧ m ≤ lead0 (Q.getD k []) := by
  unfold selQ at h
  rw [List.mem_filter, List.mem_range] at h
  exact ⟨h.1, by simpa using h.2⟩
theorem selQ_len (m : Nat) (Q : List (List Int)) (i : Nat) : (selQ m Q i).length ≤ i := by
  unfold selQ
  have := List.length_filter_le (fun k => decide (m ≤ lead0 (Q.getD k []))) (List.range i)
  rwa [List.length_range] at this
theorem selQ_nodup (m : Nat) (Q : List (List Int)) (i : Nat) : (selQ m Q i).Pairwise (· < ·) := List.Pairwise.filter _ List.pairwise_lt_range
theorem range_getD (Q : List (List Int)) : (List.range Q.length).map (fun k => Q.getD k []) = Q := by
  refine List.ext_getElem (by simp) fun i h1 h2 => ?_
  simp [List.getD_eq_getElem?_getD, List.getElem?_eq_getElem h2]
theorem tailR_sel (m : Nat) (Q : List (List Int)) : tailR m Q = (selQ m Q Q.length).map fun k => (Q.getD k []).drop m := by
  have e : Q.filter (fun x => decide (m ≤ lead0 x)) = (selQ m Q Q.length).map fun k => Q.getD k [] := by
    unfold selQ
    conv => lhs; rw [← range_getD Q]
    rw [List.filter_map]
    rfl
  unfold tailR
  rw [e, List.map_map]
  rfl
/-- The slice from place m on. -/
def pieceV (m : Nat) : Value → Value
  | .slice (some ⟨b, o, x⟩) n c => .slice (some ⟨b, o + m, x⟩) (n - m) (c - m)
  | v => v
theorem pieceV_blk (m : Nat) (v : Value) : blkOf (pieceV m v) = blkOf v := by
  unfold pieceV
  split <;> rfl
theorem OwR.piece {w : World} {ti : TypeId} {S : Nat → Prop} {v : Value} {xs : List Int} (h : OwR w ti S v xs) {m : Nat} (hm : m < xs.length) : OwQ w ti S (pieceV m v) (xs.drop m) := by
  rcases h.cases with ⟨h0, _⟩ | ⟨b, c, e, hs, ⟨_, hc⟩, hcells⟩
  · rw [h0] at hm
    exact absurd hm (Nat.not_lt_zero _)
  · subst e
    refine ⟨some ⟨b, 0 + m, none⟩, c - m, by rw [List.length_drop]; rfl, by rw [List.length_drop]; omega, Or.inr ⟨b, 0 + m, xs.take m, rfl, hs, by rw [List.length_take]; omega, ?_⟩⟩
    rw [List.take_append_drop]
    exact hcells
theorem nodup_getD {l : List Nat} (h : l.Pairwise (· < ·)) {a b : Nat} (ha : a < l.length) (hb : b < l.length) (hab : a ≠ b) : l.getD a 0 ≠ l.getD b 0 := by
  rw [List.getD_eq_getElem?_getD, List.getD_eq_getElem?_getD, List.getElem?_eq_getElem ha, List.getElem?_eq_getElem hb]
  simp only [Option.getD_some]
  have h2 := List.pairwise_iff_getElem.1 h
  rcases Nat.lt_or_gt_of_ne hab with c | c
  · have := h2 a b ha hb c
    omega
  · have := h2 b a hb ha c
    omega
theorem selD_mem {l : List Nat} {a : Nat} (ha : a < l.length) : l.getD a 0 ∈ l := by
  rw [List.getD_eq_getElem?_getD, List.getElem?_eq_getElem ha]
  exact List.getElem_mem ha
/-- What the loop has made is a grid of one's own. -/
theorem pieces_own {w : World} {S : Nat → Prop} {g m B : Nat} {Q : List (List Int)} {vsQ : List Value} {v : Value} (hG : GridAt w tI tR S g vsQ Q) (hS : ∀ k, S k → k < B)
    (hown : w.ownsRow B tR 1 v (selQ m Q Q.length).length ((selQ m Q Q.length).map fun k => pieceV m (vsQ.getD k .nilFunc))) (hlt : ∀ k, k ∈ selQ m Q Q.length → m < (Q.getD k []).length) :
    OwGP w tI tR (fun q => S q ∨ B ≤ q) v (tailR m Q) := by
  rw [tailR_sel]
  generalize hL : selQ m Q Q.length = L at hown hlt
  have hmem : ∀ k, k ∈ L → k < Q.length := fun k hk => (selQ_mem (hL ▸ hk)).1
  have hnd : L.Pairwise (· < ·) := hL ▸ selQ_nodup m Q Q.length
  rcases hown.2 with ⟨rfl, h0⟩ | ⟨gb, cap, cur, rfl, h3, h4, h5, h6, h7, h8⟩
  · have : L = [] := List.eq_nil_of_length_eq_zero h0
    subst this
    exact ⟨none, 0, rfl, Nat.le_refl 0, Or.inl rfl⟩
  · have hV : ∀ a, a < L.length → ((L.map fun k => pieceV m (vsQ.getD k .nilFunc)).getD a .nilFunc) = pieceV m (vsQ.getD (L.getD a 0) .nilFunc) := fun a ha => map_getD _ _ _ ha 0 _
    have hR : ∀ a, a < L.length → ((L.map fun k => (Q.getD k []).drop m).getD a []) = (Q.getD (L.getD a 0) []).drop m := fun a ha => map_getD _ _ _ ha 0 _
    have hne : ∀ a, a < L.length → Q.getD (L.getD a 0) [] ≠ [] := fun a ha h0 => by
      have := hlt _ (selD_mem ha)
      rw [h0] at this
      exact absurd this (Nat.not_lt_zero _)
    refine ⟨some ⟨gb, 0, none⟩, cap, by rw [List.length_map], by rw [List.length_map]; omega, Or.inr ⟨gb, L.map fun k => pieceV m (vsQ.getD k .nilFunc), rfl, ⟨⟨cur, h4, by rw [List.length_map]; omega, fun j hj => ?_⟩, Or.inr h3, by rw [List.length_map, List.length_map], fun a ha => ?_, fun a ha _ => ?_, fun a b ha hb hab _ _ => ?_⟩⟩⟩
    · have e : (L.map fun k => pieceV m (vsQ.getD k .nilFunc))[j]? = (cur.toList.take (L.length * 1))[j]? := by rw [h8]
      rw [List.length_map] at hj
      rw [e, List.getElem?_take_of_lt (by omega)]
      simp
    · rw [List.length_map] at ha
      rw [hV a ha, hR a ha]
      exact (((hG.row _ (hmem _ (selD_mem ha))).piece (hlt _ (selD_mem ha))).mono fun k hk _ => Or.inl hk)
    · rw [List.length_map] at ha
      rw [hV a ha, pieceV_blk]
      have := hS _ (((hG.row _ (hmem _ (selD_mem ha))).blkS (hne a ha)).1)
      omega
    · rw [List.length_map] at ha hb
      rw [hV a ha, hV b hb, pieceV_blk, pieceV_blk]
      exact hG.apart _ _ (hmem _ (selD_mem ha)) (hmem _ (selD_mem hb)) (nodup_getD hnd ha hb hab) (hne a ha) (hne b hb)
/-- One slice appended, at a step of a region that draws its order. -/
theorem step_pushV {ops : Array Oper} {o : Oper} {a : Act} {Q : Exit → Act → World → Prop} {K : Act → World → Prop} {E : Prop} (hgd : o.guard = none) (s x : Operand) (ho : o.op = .call { callee := .builtin .append, args := #[s, x], argTypes := #[22, 22] }) (w : World) (B n : Nat) (v : Value) (vs : List Value) (b c : Nat) (A2 : Option Addr) (n2 c2 : Nat)
    (hs : a.eval s = v) (hG : w.ownsRow B tR 1 v n vs) (hvn : vs.length = n) (hx : a.eval x = .slice (some ⟨b, 0, none⟩) 1 c) (hc : w.cell? ⟨b, 0, none⟩ = some (.slice A2 n2 c2)) (hB : B ≤ w.heap.size) (hn : n + 1 ≤ 1000000)
    (h : ∀ g cap w', w'.ownsRow B tR 1 (.slice (some ⟨g, 0, none⟩) (n + 1) cap) (n + 1) (vs ++ [.slice A2 n2 c2]) → Below B w w' → K (a.put o.dst (.slice (some ⟨g, 0, none⟩) (n + 1) cap)) w') : if Region.wanted o (yielded ops a.tmps) = true then Oper.wp Tryd.prog o a w K Q else E := by
  obtain ⟨i0, hi0, hz0, hz1, hz2⟩ := info_parts infoR
  refine step_append_lies w hgd s x _ ho B tR i0 _ 1 24 Tryd.underlying22 hi0 hz0 hz1 hz2 rfl (by omega) v n vs hs hG ⟨b, 0, none⟩ 1 c [.slice A2 n2 c2] hx rfl (fun j u hj => ?_) (fun u hu => ?_) (by omega) (by unfold maxLen; omega) (by omega) hB _ rfl (fun g cap w' hown hgrow hat _ => ?_)
  · match j, hj with
    | 0, hj =>
      simp at hj
      subst hj
      simpa [Addr.add] using hc
  · simp at hu
    subst hu
    rfl
  · exact h g cap w' hown ((Below.refl B w).grown hgrow hB (fun q hq => (World.ownsRow.lt hG q hq).1))
end Go.Proofs.YtdjgkcnhmfkjoaaDoor
