/- Trees and their nodes in postfix order. Plain mathematics. -/
import Derived.Test.YtdgimjmdgppboaaTrM
namespace Go.Proofs.Ytdgimjmdgppboaa
set_option maxRecDepth 100000
def jointN (k : Int) : Nd := ⟨k, 0, ByteArray.empty⟩
/-- The nodes of a tree in postfix order. -/
def nodesOf : Tr → List Nd
  | .leaf n _ _ => [n]
  | .seq a b _ _ => nodesOf a ++ (nodesOf b ++ [jointN 15])
  | .par a b _ _ => nodesOf a ++ (nodesOf b ++ [jointN 16])
/-- The tree of a valid term. -/
def VTr : Tr → Prop
  | .leaf n i o => isLeafB n = true ∧ i = (leafW n).1 ∧ o = (leafW n).2
  | .seq a b i o => VTr a ∧ VTr b ∧ a.outw = b.inw ∧ i = a.inw ∧ o = b.outw
  | .par a b i o => VTr a ∧ VTr b ∧ a.inw + b.inw ≤ 12 ∧ a.outw + b.outw ≤ 12 ∧ i = a.inw + b.inw ∧ o = a.outw + b.outw
theorem joint_eq {n : Nd} (h : isJointB n = true) : n = jointN n.k := by
  unfold isJointB at h
  simp at h
  obtain ⟨k, v, s⟩ := n
  obtain ⟨⟨_, h2⟩, h3⟩ := h
  simp only at h2 h3
  rw [h2, h3]
  rfl
theorem jointB (k : Int) (h : k = 15 ∨ k = 16) : isJointB (jointN k) = true := by
  unfold isJointB jointN
  rcases h with rfl | rfl <;> simp
theorem joint_leaf {n : Nd} (h : isJointB n = true) : isLeafB n = false := by
  have := joint_kind h
  cases e : isLeafB n with
  | false => rfl
  | true =>
    unfold isLeafB at e
    simp at e
    omega
theorem stackT_app : ∀ (a b : List Nd) (st : List Tr), stackT st (a ++ b) = (stackT st a).bind fun st' => stackT st' b
  | [], b, st => rfl
  | n :: a, b, st => by
    simp only [List.cons_append, stackT]
    cases stepT st n with
    | none => rfl
    | some st' => exact stackT_app a b st'
theorem stepT_leaf {n : Nd} (h : isLeafB n = true) (st : List Tr) : stepT st n = some (.leaf n (leafW n).1 (leafW n).2 :: st) := by
  unfold stepT
  rw [if_pos h]
theorem stepT_joint {n : Nd} (h : isJointB n = true) (a b : Tr) (st : List Tr) : stepT (b :: a :: st) n = (joinT n.k a b).map (· :: st) := by
  unfold stepT
  rw [if_neg (by rw [joint_leaf h]; decide)]
  simp only
  rw [if_pos h]
theorem stack_nodes : ∀ (t : Tr) (st : List Tr), VTr t → stackT st (nodesOf t) = some (t :: st)
  | .leaf n i o, st, h => by
    obtain ⟨h1, rfl, rfl⟩ := h
    simp only [nodesOf, stackT]
    rw [stepT_leaf h1]
    rfl
  | .seq a b i o, st, h => by
    obtain ⟨ha, hb, h1, rfl, rfl⟩ := h
    simp only [nodesOf]
    rw [stackT_app, stack_nodes a st ha, Option.bind_some, stackT_app, stack_nodes b _ hb, Option.bind_some]
    simp only [stackT]
    rw [stepT_joint (jointB 15 (Or.inl rfl))]
    simp [joinT, jointN, h1]
  | .par a b i o, st, h => by
    obtain ⟨ha, hb, h1, h2, rfl, rfl⟩ := h
    simp only [nodesOf]
    rw [stackT_app, stack_nodes a st ha, Option.bind_some, stackT_app, stack_nodes b _ hb, Option.bind_some]
    simp only [stackT]
    rw [stepT_joint (jointB 16 (Or.inr rfl))]
    simp [joinT, jointN, h1, h2]
theorem tree_nodes {t : Tr} (h : VTr t) (hl : (nodesOf t).length ≤ 400) : treeOf (nodesOf t) = some t := by
  unfold treeOf
  rw [if_pos hl, stack_nodes t [] h]
/-- The nodes of trees, the last one first. -/
def nodesR : List Tr → List Nd
  | [] => []
  | t :: ts => nodesR ts ++ nodesOf t
theorem step_nodes {st st' : List Tr} {n : Nd} (h : ∀ t ∈ st, VTr t) (e : stepT st n = some st') : (∀ t ∈ st', VTr t) ∧ nodesR st' = nodesR st ++ [n] := by
  unfold stepT at e
  by_cases h1 : isLeafB n = true
  · rw [if_pos h1] at e
    obtain rfl := Option.some.inj e
    refine ⟨fun t ht => ?_, rfl⟩
    rcases List.mem_cons.1 ht with rfl | ht
    · exact ⟨h1, rfl, rfl⟩
    · exact h t ht
  · rw [if_neg h1] at e
    match st, h, e with
    | [], _, e => cases e
    | [_], _, e => cases e
    | b :: a :: rest, h, e =>
      simp only at e
      by_cases h2 : isJointB n = true
      · rw [if_pos h2] at e
        cases h3 : joinT n.k a b with
        | none => rw [h3] at e; cases e
        | some t =>
          rw [h3] at e
          obtain rfl := Option.some.inj e
          have ha := h a (by simp)
          have hb := h b (by simp)
          have hn := joint_eq h2
          unfold joinT at h3
          by_cases h4 : n.k = 15
          · rw [if_pos h4] at h3
            rw [h4] at hn
            by_cases h5 : a.outw = b.inw
            · rw [if_pos h5] at h3
              obtain rfl := Option.some.inj h3
              refine ⟨fun u hu => ?_, ?_⟩
              · rcases List.mem_cons.1 hu with rfl | hu
                · exact ⟨ha, hb, h5, rfl, rfl⟩
                · exact h u (by simp [hu])
              · rw [hn]
                simp [nodesR, nodesOf]
            · rw [if_neg h5] at h3
              cases h3
          · rw [if_neg h4] at h3
            have h6 : n.k = 16 := by
              rcases joint_kind h2 with h | h
              · exact absurd h h4
              · exact h
            rw [h6] at hn
            by_cases h5 : a.inw + b.inw ≤ 12 ∧ a.outw + b.outw ≤ 12
            · rw [if_pos h5] at h3
              obtain rfl := Option.some.inj h3
              refine ⟨fun u hu => ?_, ?_⟩
              · rcases List.mem_cons.1 hu with rfl | hu
                · exact ⟨ha, hb, h5.1, h5.2, rfl, rfl⟩
                · exact h u (by simp [hu])
              · rw [hn]
                simp [nodesR, nodesOf]
            · rw [if_neg h5] at h3
              cases h3
      · rw [if_neg h2] at e
        cases e
theorem stack_valid : ∀ (ns : List Nd) {st st' : List Tr}, (∀ t ∈ st, VTr t) → stackT st ns = some st' → (∀ t ∈ st', VTr t) ∧ nodesR st' = nodesR st ++ ns
  | [], st, st', h, e => by
    obtain rfl := Option.some.inj e
    exact ⟨h, by simp⟩
  | n :: ns, st, st', h, e => by
    simp only [stackT] at e
    cases h1 : stepT st n with
    | none => rw [h1] at e; cases e
    | some st1 =>
      rw [h1] at e
      obtain ⟨h2, h3⟩ := step_nodes h h1
      obtain ⟨h4, h5⟩ := stack_valid ns h2 e
      exact ⟨h4, by rw [h5, h3, List.append_assoc]; rfl⟩
/-- A valid term is its tree's nodes, and the tree is valid. -/
theorem tree_valid {ns : List Nd} {t : Tr} (h : treeOf ns = some t) : VTr t ∧ nodesOf t = ns ∧ ns.length ≤ 400 := by
  unfold treeOf at h
  by_cases h1 : ns.length ≤ 400
  · rw [if_pos h1] at h
    cases hs : stackT [] ns with
    | none => rw [hs] at h; cases h
    | some st =>
      rw [hs] at h
      match st, h, hs with
      | [u], h, hs =>
        obtain rfl := Option.some.inj h
        obtain ⟨h2, h3⟩ := stack_valid ns (fun t ht => by cases ht) hs
        exact ⟨h2 u (by simp), by simpa [nodesR] using h3, h1⟩
      | [], h, _ => cases h
      | _ :: _ :: _, h, _ => cases h
  · rw [if_neg h1] at h
    cases h
theorem VTr.fits : ∀ {t : Tr}, VTr t → Fits t
  | .leaf n i o, h => by
    obtain ⟨h1, rfl, rfl⟩ := h
    exact leafW_bd h1
  | .seq a b i o, h => by
    obtain ⟨ha, hb, _, rfl, rfl⟩ := h
    exact ⟨ha.fits.1, ha.fits.2.1, hb.fits.2.2.1, hb.fits.2.2.2⟩
  | .par a b i o, h => by
    obtain ⟨ha, hb, h1, h2, rfl, rfl⟩ := h
    obtain ⟨a1, a2, a3, a4⟩ := ha.fits
    obtain ⟨b1, b2, b3, b4⟩ := hb.fits
    exact ⟨by show 0 ≤ a.inw + b.inw; omega, h1, by show 0 ≤ a.outw + b.outw; omega, h2⟩
/-- The width and the depth. -/
def extT : Tr → Int × Int
  | .leaf _ i o => (max i o, 1)
  | .seq a b _ _ => (max (extT a).1 (extT b).1, (extT a).2 + (extT b).2)
  | .par a b _ _ => ((extT a).1 + (extT b).1, max (extT a).2 (extT b).2)
/-- The mirror image. -/
def mirK (k : Int) : Int := if 9 ≤ k then k - 6 else if 3 ≤ k then k + 6 else k
def mirL (n : Nd) : Nd := ⟨mirK n.k, n.v, n.s⟩
def mirT : Tr → Tr
  | .leaf n _ _ => .leaf (mirL n) (leafW (mirL n)).1 (leafW (mirL n)).2
  | .seq a b _ _ => .seq (mirT b) (mirT a) (mirT b).inw (mirT a).outw
  | .par a b _ _ => .par (mirT a) (mirT b) ((mirT a).inw + (mirT b).inw) ((mirT a).outw + (mirT b).outw)
theorem leaf_range {n : Nd} (h : isLeafB n = true) : 1 ≤ n.k ∧ n.k ≤ 14 ∧ 0 ≤ n.v ∧ n.v ≤ greatest n.k ∧ n.s = ByteArray.empty := by
  unfold isLeafB at h
  simp at h
  exact ⟨h.1.1.1.1, h.1.1.1.2, h.1.1.2, h.1.2, h.2⟩
theorem leaf_of {n : Nd} (h1 : 1 ≤ n.k) (h2 : n.k ≤ 14) (h3 : 0 ≤ n.v) (h4 : n.v ≤ greatest n.k) (h5 : n.s = ByteArray.empty) : isLeafB n = true := by
  unfold isLeafB
  simp
  exact ⟨⟨⟨⟨h1, h2⟩, h3⟩, h4⟩, h5⟩
theorem mirL_leaf {n : Nd} (h : isLeafB n = true) : isLeafB (mirL n) = true ∧ leafW (mirL n) = ((leafW n).2, (leafW n).1) := by
  obtain ⟨h1, h2, h3, h4, h5⟩ := leaf_range h
  obtain ⟨k, v, s⟩ := n
  simp only at h1 h2 h3 h4 h5
  unfold greatest at h4
  have hc : k = 1 ∨ k = 2 ∨ k = 3 ∨ k = 4 ∨ k = 5 ∨ k = 6 ∨ k = 7 ∨ k = 8 ∨ k = 9 ∨ k = 10 ∨ k = 11 ∨ k = 12 ∨ k = 13 ∨ k = 14 := by omega
  rcases hc with rfl | rfl | rfl | rfl | rfl | rfl | rfl | rfl | rfl | rfl | rfl | rfl | rfl | rfl <;>
    exact ⟨leaf_of (by simp [mirL, mirK]) (by simp [mirL, mirK]) h3 (by simpa [mirL, mirK, greatest] using h4) h5, by simp [mirL, mirK, leafW]⟩
theorem mirT_valid : ∀ {t : Tr}, VTr t → VTr (mirT t) ∧ (mirT t).inw = t.outw ∧ (mirT t).outw = t.inw ∧ (nodesOf (mirT t)).length = (nodesOf t).length
  | .leaf n i o, h => by
    obtain ⟨h1, rfl, rfl⟩ := h
    obtain ⟨h2, h3⟩ := mirL_leaf h1
    refine ⟨⟨h2, rfl, rfl⟩, ?_, ?_, rfl⟩
    · simp only [mirT, Tr.inw, Tr.outw]
      rw [h3]
    · simp only [mirT, Tr.inw, Tr.outw]
      rw [h3]
  | .seq a b i o, h => by
    obtain ⟨ha, hb, h1, rfl, rfl⟩ := h
    obtain ⟨a1, a2, a3, a4⟩ := mirT_valid ha
    obtain ⟨b1, b2, b3, b4⟩ := mirT_valid hb
    refine ⟨⟨b1, a1, by rw [b3, a2, h1], rfl, rfl⟩, b2, a3, ?_⟩
    simp only [mirT, nodesOf, List.length_append, List.length_cons, List.length_nil]
    omega
  | .par a b i o, h => by
    obtain ⟨ha, hb, h1, h2, rfl, rfl⟩ := h
    obtain ⟨a1, a2, a3, a4⟩ := mirT_valid ha
    obtain ⟨b1, b2, b3, b4⟩ := mirT_valid hb
    refine ⟨⟨a1, b1, by rw [a2, b2]; exact h2, by rw [a3, b3]; exact h1, rfl, rfl⟩, ?_, ?_, ?_⟩
    · show (mirT a).inw + (mirT b).inw = a.outw + b.outw
      rw [a2, b2]
    · show (mirT a).outw + (mirT b).outw = a.inw + b.inw
      rw [a3, b3]
    · simp only [mirT, nodesOf, List.length_append, List.length_cons, List.length_nil]
      omega
theorem mirK_leaf {k : Int} (h1 : 1 ≤ k) (h2 : k ≤ 14) : mirK k = (if 3 ≤ k ∧ k ≤ 8 then k + 6 else if 9 ≤ k ∧ k ≤ 14 then k - 6 else k) := by
  unfold mirK
  by_cases c : 9 ≤ k
  · rw [if_pos c, if_neg (by omega), if_pos ⟨c, h2⟩]
  · rw [if_neg c]
    by_cases d : 3 ≤ k
    · rw [if_pos d, if_pos (by omega)]
    · rw [if_neg d, if_neg (by omega), if_neg (by omega)]
theorem nodes_pos : ∀ t : Tr, 0 < (nodesOf t).length
  | .leaf _ _ _ => by simp [nodesOf]
  | .seq a b _ _ => by simp only [nodesOf, List.length_append, List.length_cons, List.length_nil]; omega
  | .par a b _ _ => by simp only [nodesOf, List.length_append, List.length_cons, List.length_nil]; omega
/-- The part whose last node has the index k. -/
def subAt : Tr → Nat → Tr
  | .leaf n i o, _ => .leaf n i o
  | .seq a b i o, k => if k < (nodesOf a).length then subAt a k else if k < (nodesOf a).length + (nodesOf b).length then subAt b (k - (nodesOf a).length) else .seq a b i o
  | .par a b i o, k => if k < (nodesOf a).length then subAt a k else if k < (nodesOf a).length + (nodesOf b).length then subAt b (k - (nodesOf a).length) else .par a b i o
theorem sub_last : ∀ t : Tr, subAt t ((nodesOf t).length - 1) = t
  | .leaf _ _ _ => rfl
  | .seq a b i o => by
    simp only [subAt, nodesOf, List.length_append, List.length_cons, List.length_nil]
    rw [if_neg (by have := nodes_pos b; omega), if_neg (by omega)]
  | .par a b i o => by
    simp only [subAt, nodesOf, List.length_append, List.length_cons, List.length_nil]
    rw [if_neg (by have := nodes_pos b; omega), if_neg (by omega)]
/-- The part's nodes stand in front of the index. -/
theorem sub_nodes : ∀ (t : Tr) (k : Nat), VTr t → k < (nodesOf t).length → VTr (subAt t k) ∧ (nodesOf (subAt t k)).length ≤ k + 1 ∧ ((nodesOf t).drop (k + 1 - (nodesOf (subAt t k)).length)).take (nodesOf (subAt t k)).length = nodesOf (subAt t k)
  | .leaf n i o, k, h, hk => by
    simp only [nodesOf, List.length_cons, List.length_nil] at hk
    obtain rfl : k = 0 := by omega
    exact ⟨h, by simp [subAt, nodesOf], by simp [subAt, nodesOf]⟩
  | .seq a b i o, k, h, hk => by
    obtain ⟨ha, hb, h1, h2, h3⟩ := h
    by_cases c : k < (nodesOf a).length
    · have e : subAt (.seq a b i o) k = subAt a k := by simp only [subAt]; rw [if_pos c]
      obtain ⟨x1, x2, x3⟩ := sub_nodes a k ha c
      rw [e]
      refine ⟨x1, x2, ?_⟩
      simp only [nodesOf]
      rw [List.drop_append_of_le_length (by omega), List.take_append_of_le_length (by rw [List.length_drop]; omega), x3]
    · by_cases d : k < (nodesOf a).length + (nodesOf b).length
      · have e : subAt (.seq a b i o) k = subAt b (k - (nodesOf a).length) := by simp only [subAt]; rw [if_neg c, if_pos d]
        obtain ⟨x1, x2, x3⟩ := sub_nodes b (k - (nodesOf a).length) hb (by omega)
        rw [e]
        refine ⟨x1, by omega, ?_⟩
        simp only [nodesOf]
        rw [List.drop_append, List.drop_eq_nil_of_le (by omega), List.nil_append, show k + 1 - (nodesOf (subAt b (k - (nodesOf a).length))).length - (nodesOf a).length = k - (nodesOf a).length + 1 - (nodesOf (subAt b (k - (nodesOf a).length))).length by omega,
          List.drop_append_of_le_length (by omega), List.take_append_of_le_length (by rw [List.length_drop]; omega), x3]
      · have e : subAt (.seq a b i o) k = .seq a b i o := by simp only [subAt]; rw [if_neg c, if_neg d]
        simp only [nodesOf, List.length_append, List.length_cons, List.length_nil] at hk
        rw [e]
        refine ⟨⟨ha, hb, h1, h2, h3⟩, by simp only [nodesOf, List.length_append, List.length_cons, List.length_nil]; omega, ?_⟩
        rw [show k + 1 - (nodesOf (Tr.seq a b i o)).length = 0 by simp only [nodesOf, List.length_append, List.length_cons, List.length_nil]; omega, List.drop_zero, List.take_length]
  | .par a b i o, k, h, hk => by
    obtain ⟨ha, hb, h1, h2, h3⟩ := h
    by_cases c : k < (nodesOf a).length
    · have e : subAt (.par a b i o) k = subAt a k := by simp only [subAt]; rw [if_pos c]
      obtain ⟨x1, x2, x3⟩ := sub_nodes a k ha c
      rw [e]
      refine ⟨x1, x2, ?_⟩
      simp only [nodesOf]
      rw [List.drop_append_of_le_length (by omega), List.take_append_of_le_length (by rw [List.length_drop]; omega), x3]
    · by_cases d : k < (nodesOf a).length + (nodesOf b).length
      · have e : subAt (.par a b i o) k = subAt b (k - (nodesOf a).length) := by simp only [subAt]; rw [if_neg c, if_pos d]
        obtain ⟨x1, x2, x3⟩ := sub_nodes b (k - (nodesOf a).length) hb (by omega)
        rw [e]
        refine ⟨x1, by omega, ?_⟩
        simp only [nodesOf]
        rw [List.drop_append, List.drop_eq_nil_of_le (by omega), List.nil_append, show k + 1 - (nodesOf (subAt b (k - (nodesOf a).length))).length - (nodesOf a).length = k - (nodesOf a).length + 1 - (nodesOf (subAt b (k - (nodesOf a).length))).length by omega,
          List.drop_append_of_le_length (by omega), List.take_append_of_le_length (by rw [List.length_drop]; omega), x3]
      · have e : subAt (.par a b i o) k = .par a b i o := by simp only [subAt]; rw [if_neg c, if_neg d]
        simp only [nodesOf, List.length_append, List.length_cons, List.length_nil] at hk
        rw [e]
        refine ⟨⟨ha, hb, h1, h2, h3⟩, by simp only [nodesOf, List.length_append, List.length_cons, List.length_nil]; omega, ?_⟩
        rw [show k + 1 - (nodesOf (Tr.par a b i o)).length = 0 by simp only [nodesOf, List.length_append, List.length_cons, List.length_nil]; omega, List.drop_zero, List.take_length]
theorem scanS_app : ∀ (a b : List Nd) (x : Sc) (j : Nat), scanS x j (a ++ b) = (scanS x j a).bind fun x' => scanS x' (j + a.length) b
  | [], b, x, j => by simp [scanS]
  | n :: a, b, x, j => by
    simp only [List.cons_append, scanS]
    cases stepS x j n with
    | none => rfl
    | some x' =>
      simp only [Option.bind_some]
      rw [scanS_app a b x' (j + 1), List.length_cons, show j + 1 + a.length = j + (a.length + 1) by omega]
/-- What the model's lists hold for the nodes of a part. -/
def Holds (x x' : Sc) (j : Nat) (t : Tr) : Prop := x'.len (j + (nodesOf t).length) ∧ (∀ q, q < j → x'.f.getD q 0 = x.f.getD q 0 ∧ x'.i.getD q 0 = x.i.getD q 0 ∧ x'.o.getD q 0 = x.o.getD q 0) ∧
  ∀ k, k < (nodesOf t).length → x'.f.getD (j + k) 0 = ((j + k + 1 - (nodesOf (subAt t k)).length : Nat) : Int) ∧ x'.i.getD (j + k) 0 = (subAt t k).inw ∧ x'.o.getD (j + k) 0 = (subAt t k).outw
theorem push_at {x : Sc} {n : Nat} (hl : x.len n) (f i o : Int) : (∀ q, q < n → (x.push f i o).f.getD q 0 = x.f.getD q 0 ∧ (x.push f i o).i.getD q 0 = x.i.getD q 0 ∧ (x.push f i o).o.getD q 0 = x.o.getD q 0) ∧ (x.push f i o).f.getD n 0 = f ∧ (x.push f i o).i.getD n 0 = i ∧ (x.push f i o).o.getD n 0 = o := by
  obtain ⟨l1, l2, l3⟩ := hl
  refine ⟨fun q hq => ⟨getD_snoc_l (by omega), getD_snoc_l (by omega), getD_snoc_l (by omega)⟩, ?_, ?_, ?_⟩
  · rw [← l1]; exact getD_snoc_r _ _
  · rw [← l2]; exact getD_snoc_r _ _
  · rw [← l3]; exact getD_snoc_r _ _
theorem holds_join {a b t : Tr} {x x1 x2 : Sc} {j : Nat} (ha : Holds x x1 j a) (hb : Holds x1 x2 (j + (nodesOf a).length) b) {n : Nd} (hn : nodesOf t = nodesOf a ++ (nodesOf b ++ [n]))
    (hs : ∀ k, subAt t k = if k < (nodesOf a).length then subAt a k else if k < (nodesOf a).length + (nodesOf b).length then subAt b (k - (nodesOf a).length) else t) :
    Holds x (x2.push j t.inw t.outw) j t := by
  have hlen : (nodesOf t).length = (nodesOf a).length + (nodesOf b).length + 1 := by
    rw [hn]
    simp
    omega
  obtain ⟨a1, a2, a3⟩ := ha
  obtain ⟨b1, b2, b3⟩ := hb
  obtain ⟨p1, p2, p3, p4⟩ := push_at b1 j t.inw t.outw
  refine ⟨?_, fun q hq => ?_, fun k hk => ?_⟩
  · have h := Sc.len_push b1 j t.inw t.outw
    rw [hlen, show j + ((nodesOf a).length + (nodesOf b).length + 1) = j + (nodesOf a).length + (nodesOf b).length + 1 by omega]
    exact h
  · obtain ⟨q1, q2, q3⟩ := p1 q (by omega)
    obtain ⟨r1, r2, r3⟩ := b2 q (by omega)
    obtain ⟨s1, s2, s3⟩ := a2 q hq
    exact ⟨by rw [q1, r1, s1], by rw [q2, r2, s2], by rw [q3, r3, s3]⟩
  · rw [hs k]
    by_cases c : k < (nodesOf a).length
    · rw [if_pos c]
      obtain ⟨q1, q2, q3⟩ := p1 (j + k) (by omega)
      obtain ⟨r1, r2, r3⟩ := b2 (j + k) (by omega)
      obtain ⟨s1, s2, s3⟩ := a3 k c
      exact ⟨by rw [q1, r1, s1], by rw [q2, r2, s2], by rw [q3, r3, s3]⟩
    · rw [if_neg c]
      by_cases d : k < (nodesOf a).length + (nodesOf b).length
      · rw [if_pos d]
        obtain ⟨q1, q2, q3⟩ := p1 (j + k) (by omega)
        obtain ⟨s1, s2, s3⟩ := b3 (k - (nodesOf a).length) (by omega)
        rw [show j + (nodesOf a).length + (k - (nodesOf a).length) = j + k by omega] at s1 s2 s3
        exact ⟨by rw [q1, s1], by rw [q2, s2], by rw [q3, s3]⟩
      · rw [if_neg d]
        have e : j + k = j + (nodesOf a).length + (nodesOf b).length := by omega
        rw [e, p2, p3, p4, hlen]
        exact ⟨by congr 1; omega, rfl, rfl⟩
theorem stepS_joint {x : Sc} {j : Nat} {n : Nd} (h : isJointB n = true) (hj : 2 ≤ j) {g : Nat} (hg : x.f.getD (j - 1) 0 = g) (hg1 : 1 ≤ g) : stepS x j n =
    (if n.k = 15 then (if x.o.getD (g - 1) 0 = x.i.getD (j - 1) 0 then some (x.push (x.f.getD (g - 1) 0) (x.i.getD (g - 1) 0) (x.o.getD (j - 1) 0)) else none)
    else (if x.i.getD (g - 1) 0 + x.i.getD (j - 1) 0 ≤ 12 ∧ x.o.getD (g - 1) 0 + x.o.getD (j - 1) 0 ≤ 12 then some (x.push (x.f.getD (g - 1) 0) (x.i.getD (g - 1) 0 + x.i.getD (j - 1) 0) (x.o.getD (g - 1) 0 + x.o.getD (j - 1) 0)) else none)) := by
  unfold stepS
  rw [if_neg (by rw [joint_leaf h]; decide), if_pos ⟨h, hj, by omega⟩, hg, show ((g : Int) - 1).toNat = g - 1 by omega]
theorem join_facts {a b : Tr} {x x1 x2 : Sc} {j : Nat} (k1 : Holds x x1 j a) (k2 : Holds x1 x2 (j + (nodesOf a).length) b) :
    x2.f.getD (j + (nodesOf a).length + (nodesOf b).length - 1) 0 = ((j + (nodesOf a).length : Nat) : Int) ∧ x2.i.getD (j + (nodesOf a).length + (nodesOf b).length - 1) 0 = b.inw ∧ x2.o.getD (j + (nodesOf a).length + (nodesOf b).length - 1) 0 = b.outw ∧
    x2.f.getD (j + (nodesOf a).length - 1) 0 = (j : Int) ∧ x2.i.getD (j + (nodesOf a).length - 1) 0 = a.inw ∧ x2.o.getD (j + (nodesOf a).length - 1) 0 = a.outw := by
  have hpa := nodes_pos a
  have hpb := nodes_pos b
  have hA := k1.2.2 ((nodesOf a).length - 1) (by omega)
  have hA2 := k2.2.1 (j + ((nodesOf a).length - 1)) (by omega)
  have hB := k2.2.2 ((nodesOf b).length - 1) (by omega)
  rw [sub_last] at hA hB
  rw [show j + (nodesOf a).length + (nodesOf b).length - 1 = j + (nodesOf a).length + ((nodesOf b).length - 1) by omega, show j + (nodesOf a).length - 1 = j + ((nodesOf a).length - 1) by omega]
  refine ⟨?_, hB.2.1, hB.2.2, ?_, by rw [hA2.2.1, hA.2.1], by rw [hA2.2.2, hA.2.2]⟩
  · rw [hB.1]
    congr 1
    omega
  · rw [hA2.1, hA.1]
    congr 1
    omega
theorem scan_sub : ∀ (t : Tr) (x : Sc) (j : Nat), VTr t → x.len j → ∃ x', scanS x j (nodesOf t) = some x' ∧ Holds x x' j t
  | .leaf n i o, x, j, h, hl => by
    obtain ⟨h1, rfl, rfl⟩ := h
    refine ⟨x.push j (leafW n).1 (leafW n).2, ?_, ?_⟩
    · simp only [nodesOf, scanS]
      unfold stepS
      rw [if_pos h1]
      rfl
    · obtain ⟨p1, p2, p3, p4⟩ := push_at hl j (leafW n).1 (leafW n).2
      refine ⟨Sc.len_push hl _ _ _, p1, fun k hk => ?_⟩
      simp only [nodesOf, List.length_cons, List.length_nil] at hk
      obtain rfl : k = 0 := by omega
      exact ⟨by rw [Nat.add_zero, p2]; simp [subAt, nodesOf], p3, p4⟩
  | .seq a b i o, x, j, h, hl => by
    obtain ⟨ha, hb, h1, rfl, rfl⟩ := h
    obtain ⟨x1, e1, k1⟩ := scan_sub a x j ha hl
    obtain ⟨x2, e2, k2⟩ := scan_sub b x1 (j + (nodesOf a).length) hb k1.1
    obtain ⟨f1, f2, f3, f4, f5, f6⟩ := join_facts k1 k2
    have hpa := nodes_pos a
    have hpb := nodes_pos b
    refine ⟨x2.push j a.inw b.outw, ?_, holds_join (t := .seq a b a.inw b.outw) k1 k2 rfl (fun k => rfl)⟩
    simp only [nodesOf]
    rw [scanS_app, e1, Option.bind_some, scanS_app, e2, Option.bind_some]
    simp only [scanS]
    rw [stepS_joint (jointB 15 (Or.inl rfl)) (by omega) f1 (by omega), f2, f3, f4, f5, f6]
    simp [jointN, h1]
  | .par a b i o, x, j, h, hl => by
    obtain ⟨ha, hb, h1, h2, rfl, rfl⟩ := h
    obtain ⟨x1, e1, k1⟩ := scan_sub a x j ha hl
    obtain ⟨x2, e2, k2⟩ := scan_sub b x1 (j + (nodesOf a).length) hb k1.1
    obtain ⟨f1, f2, f3, f4, f5, f6⟩ := join_facts k1 k2
    have hpa := nodes_pos a
    have hpb := nodes_pos b
    refine ⟨x2.push j (a.inw + b.inw) (a.outw + b.outw), ?_, holds_join (t := .par a b (a.inw + b.inw) (a.outw + b.outw)) k1 k2 rfl (fun k => rfl)⟩
    simp only [nodesOf]
    rw [scanS_app, e1, Option.bind_some, scanS_app, e2, Option.bind_some]
    simp only [scanS]
    rw [stepS_joint (jointB 16 (Or.inr rfl)) (by omega) f1 (by omega), f2, f3, f4, f5, f6]
    simp [jointN, h1, h2]
/-- Two valid terms joined. -/
theorem join_tree {na nb : List Nd} {A B : Tr} {k : Int} (ha : treeOf na = some A) (hb : treeOf nb = some B) (hk : k = 15 ∨ k = 16) :
    treeOf (na ++ (nb ++ [jointN k])) = if na.length + nb.length + 1 ≤ 400 then joinT k A B else none := by
  obtain ⟨va, ea, la⟩ := tree_valid ha
  obtain ⟨vb, eb, lb⟩ := tree_valid hb
  unfold treeOf
  have hl : (na ++ (nb ++ [jointN k])).length = na.length + nb.length + 1 := by simp; omega
  rw [hl]
  by_cases c : na.length + nb.length + 1 ≤ 400
  · rw [if_pos c, if_pos c, ← ea, ← eb, stackT_app, stack_nodes A [] va, Option.bind_some, stackT_app, stack_nodes B _ vb, Option.bind_some]
    simp only [stackT]
    rw [stepT_joint (jointB k hk)]
    show (match ((joinT k A B).map (· :: [])).bind some with | some [t] => some t | _ => none) = joinT k A B
    cases joinT k A B <;> rfl
  · rw [if_neg c, if_neg c]
theorem step_kind {st st' : List Tr} {n : Nd} (e : stepT st n = some st') : 1 ≤ n.k ∧ n.k ≤ 16 := by
  unfold stepT at e
  by_cases h1 : isLeafB n = true
  · have := leaf_range h1
    omega
  · rw [if_neg h1] at e
    match st, e with
    | [], e => cases e
    | [_], e => cases e
    | b :: a :: rest, e =>
      simp only at e
      by_cases h2 : isJointB n = true
      · have := joint_kind h2
        omega
      · rw [if_neg h2] at e
        cases e
theorem stack_kinds : ∀ (ns : List Nd) {st st' : List Tr}, stackT st ns = some st' → ∀ n ∈ ns, 1 ≤ n.k ∧ n.k ≤ 16
  | [], _, _, _ => fun n hn => by cases hn
  | m :: ns, st, st', e => by
    simp only [stackT] at e
    cases h1 : stepT st m with
    | none => rw [h1] at e; cases e
    | some st1 =>
      rw [h1] at e
      intro n hn
      rcases List.mem_cons.1 hn with rfl | hn
      · exact step_kind h1
      · exact stack_kinds ns e n hn
theorem tree_kinds {ns : List Nd} {t : Tr} (h : treeOf ns = some t) : ∀ n ∈ ns, 1 ≤ n.k ∧ n.k ≤ 16 := by
  unfold treeOf at h
  by_cases h1 : ns.length ≤ 400
  · rw [if_pos h1] at h
    cases hs : stackT [] ns with
    | none => rw [hs] at h; cases h
    | some st => exact stack_kinds ns hs
  · rw [if_neg h1] at h
    cases h
/-- How many nodes of each kind. -/
def cntK (ns : List Nd) : List Int := (List.range 16).map fun (j : Nat) => ((ns.filter fun n => decide (n.k = (j : Int) + 1)).length : Int)
theorem cntK_len (ns : List Nd) : (cntK ns).length = 16 := by simp [cntK]
theorem cntK_at {ns : List Nd} {j : Nat} (h : j < 16) : (cntK ns).getD j 0 = ((ns.filter fun n => decide (n.k = (j : Int) + 1)).length : Int) := by
  unfold cntK
  rw [map_getD _ _ _ (by simpa using h) 0, show (List.range 16).getD j 0 = j by rw [List.getD_eq_getElem?_getD]; simp [h]]
theorem cntK_nil : cntK [] = List.replicate 16 0 := by simp [cntK, List.range_succ]
theorem cntK_snoc {ns : List Nd} {n : Nd} (h1 : 1 ≤ n.k) (h2 : n.k ≤ 16) : (cntK ns).set (n.k - 1).toNat ((cntK ns).getD (n.k - 1).toNat 0 + 1) = cntK (ns ++ [n]) := by
  refine ext_getD 0 (by rw [List.length_set, cntK_len, cntK_len]) fun i hi => ?_
  rw [List.length_set, cntK_len] at hi
  rw [set_getD _ _ _ _ _ (by rw [cntK_len]; omega), cntK_at (by omega), cntK_at hi, cntK_at hi, List.filter_append]
  by_cases c : (n.k - 1).toNat = i
  · subst c
    rw [if_pos rfl]
    have e : decide (n.k = (((n.k - 1).toNat : Nat) : Int) + 1) = true := decide_eq_true (by omega)
    rw [List.filter_cons, e]
    simp
  · rw [if_neg c]
    have e : decide (n.k = (i : Int) + 1) = false := decide_eq_false (by omega)
    rw [List.filter_cons, e]
    simp
theorem cntK_bd (ns : List Nd) (j : Nat) : 0 ≤ (cntK ns).getD j 0 ∧ (cntK ns).getD j 0 ≤ ns.length := by
  by_cases h : j < 16
  · rw [cntK_at h]
    have := List.length_filter_le (fun n : Nd => decide (n.k = (j : Int) + 1)) ns
    omega
  · rw [List.getD_eq_getElem?_getD, List.getElem?_eq_none (by rw [cntK_len]; omega)]
    simp
end Go.Proofs.Ytdgimjmdgppboaa
