/- TrM TrN NdM in one text. -/
import Derived.Test.YtdcgoeapgboclaaUpd
import Derived.Test.YtdcgoeapgboclaaMem
/-! Diagram terms: nodes in postfix order, trees, the model's lists. Plain mathematics. -/
namespace Go.Proofs.Ytdcgoeapgboclaa
set_option maxRecDepth 100000
/-- A node: kind, value, name. -/
structure Nd where
  k : Int
  v : Int
  s : ByteArray
/-- A tree of a valid term; each part bears its numbers of wires. -/
inductive Tr where
  | leaf (n : Nd) (i o : Int)
  | seq (a b : Tr) (i o : Int)
  | par (a b : Tr) (i o : Int)
namespace Tr
def inw : Tr → Int
  | leaf _ i _ => i
  | seq _ _ i _ => i
  | par _ _ i _ => i
def outw : Tr → Int
  | leaf _ _ o => o
  | seq _ _ _ o => o
  | par _ _ _ o => o
end Tr
def greatest (k : Int) : Int := if k = 1 then 12 else if k = 7 ∨ k = 13 then 96 else 0
def isLeafB (n : Nd) : Bool := decide (1 ≤ n.k) && decide (n.k ≤ 14) && decide (0 ≤ n.v) && decide (n.v ≤ greatest n.k) && decide (n.s = ByteArray.empty)
def isJointB (n : Nd) : Bool := (decide (n.k = 15) || decide (n.k = 16)) && decide (n.v = 0) && decide (n.s = ByteArray.empty)
/-- The wires of a leaf: in, out. -/
def leafW (n : Nd) : Int × Int :=
  if n.k = 1 then (n.v, n.v) else if n.k = 2 then (2, 2) else if n.k = 3 ∨ n.k = 11 then (1, 2) else if n.k = 5 ∨ n.k = 9 then (2, 1)
  else if n.k = 4 ∨ n.k = 12 then (1, 0) else if n.k = 6 ∨ n.k = 10 then (0, 1) else (1, 1)
theorem leafW_bd {n : Nd} (h : isLeafB n = true) : 0 ≤ (leafW n).1 ∧ (leafW n).1 ≤ 12 ∧ 0 ≤ (leafW n).2 ∧ (leafW n).2 ≤ 12 := by
  unfold isLeafB greatest at h
  simp at h
  unfold leafW
  by_cases h1 : n.k = 1
  · simp only [h1, if_true] at h ⊢
    omega
  · rw [if_neg h1]
    repeat' split
    all_goals simp
def joinT (k : Int) (a b : Tr) : Option Tr :=
  if k = 15 then (if a.outw = b.inw then some (.seq a b a.inw b.outw) else none)
  else if a.inw + b.inw ≤ 12 ∧ a.outw + b.outw ≤ 12 then some (.par a b (a.inw + b.inw) (a.outw + b.outw)) else none
/-- What a node makes of the trees before it, the last one first. -/
def stepT (st : List Tr) (n : Nd) : Option (List Tr) :=
  if isLeafB n then some (.leaf n (leafW n).1 (leafW n).2 :: st)
  else match st with
    | b :: a :: rest => if isJointB n then (joinT n.k a b).map (· :: rest) else none
    | _ => none
def stackT (st : List Tr) : List Nd → Option (List Tr)
  | [] => some st
  | n :: ns => (stepT st n).bind fun st' => stackT st' ns
theorem stackT_snoc : ∀ (ns : List Nd) (st : List Tr) (n : Nd), stackT st (ns ++ [n]) = (stackT st ns).bind fun st' => stepT st' n
  | [], st, n => by
    simp only [List.nil_append, stackT, Option.bind_some]
    cases stepT st n <;> rfl
  | m :: ns, st, n => by
    simp only [List.cons_append, stackT]
    cases stepT st m with
    | none => rfl
    | some st' => exact stackT_snoc ns st' n
/-- The tree of a term. -/
def treeOf (ns : List Nd) : Option Tr :=
  if ns.length ≤ 400 then (match stackT [] ns with
    | some [t] => some t
    | _ => none) else none
/-- All trees have at most 12 wires at each side. -/
def Fits (t : Tr) : Prop := 0 ≤ t.inw ∧ t.inw ≤ 12 ∧ 0 ≤ t.outw ∧ t.outw ≤ 12
theorem stepT_fits {st st' : List Tr} {n : Nd} (h : ∀ t ∈ st, Fits t) (e : stepT st n = some st') : ∀ t ∈ st', Fits t := by
  unfold stepT at e
  by_cases h1 : isLeafB n = true
  · rw [if_pos h1] at e
    obtain rfl := Option.some.inj e
    intro t ht
    rcases List.mem_cons.1 ht with rfl | ht
    · exact leafW_bd h1
    · exact h t ht
  · rw [if_neg h1] at e
    match st, h, e with
    | [], _, e => cases e
    | [_], _, e => cases e
    | b :: a :: rest, h, e =>
      simp only at e
      by_cases h2 : isJointB n = true
      · rw [if_pos h2] at e
        cases h3 : joinT n.k a b with
        | none => rw [h3] at e; cases e
        | some t =>
          rw [h3] at e
          obtain rfl := Option.some.inj e
          have ha := h a (by simp)
          have hb := h b (by simp)
          intro u hu
          rcases List.mem_cons.1 hu with rfl | hu
          · unfold joinT at h3
            split at h3
            · split at h3
              · obtain rfl := Option.some.inj h3
                exact ⟨ha.1, ha.2.1, hb.2.2.1, hb.2.2.2⟩
              · cases h3
            · split at h3
              · rename_i h4
                obtain rfl := Option.some.inj h3
                obtain ⟨a1, a2, a3, a4⟩ := ha
                obtain ⟨b1, b2, b3, b4⟩ := hb
                exact ⟨by show 0 ≤ a.inw + b.inw; omega, h4.1, by show 0 ≤ a.outw + b.outw; omega, h4.2⟩
              · cases h3
          · exact h u (by simp [hu])
      · rw [if_neg h2] at e
        cases e
/-! ### The model's lists: for each node the first node of the part that ends there, and the part's wires -/
structure Sc where
  f : List Int
  i : List Int
  o : List Int
/-- The trees end one behind another, the last one at e. -/
def Chain (x : Sc) : Nat → List Tr → Prop
  | e, [] => e = 0
  | e, t :: ts => ∃ g : Nat, g < e ∧ x.f.getD (e - 1) 0 = g ∧ x.i.getD (e - 1) 0 = t.inw ∧ x.o.getD (e - 1) 0 = t.outw ∧ Chain x g ts
def Sc.push (x : Sc) (f i o : Int) : Sc := ⟨x.f ++ [f], x.i ++ [i], x.o ++ [o]⟩
theorem getD_snoc_l {l : List Int} {a : Int} {j : Nat} (h : j < l.length) : (l ++ [a]).getD j 0 = l.getD j 0 := by
  rw [List.getD_eq_getElem?_getD, List.getD_eq_getElem?_getD, List.getElem?_append_left h]
theorem getD_snoc_r (l : List Int) (a : Int) : (l ++ [a]).getD l.length 0 = a := by
  rw [List.getD_eq_getElem?_getD, List.getElem?_append_right (Nat.le_refl _)]
  simp
/-- Each list has n elements. -/
def Sc.len (x : Sc) (n : Nat) : Prop := x.f.length = n ∧ x.i.length = n ∧ x.o.length = n
theorem Sc.len_push {x : Sc} {n : Nat} (h : x.len n) (f i o : Int) : (x.push f i o).len (n + 1) := by
  obtain ⟨h1, h2, h3⟩ := h
  exact ⟨by simp [Sc.push, h1], by simp [Sc.push, h2], by simp [Sc.push, h3]⟩
theorem Chain.push {x : Sc} {n : Nat} (hl : x.len n) (f i o : Int) : ∀ {e : Nat} {st : List Tr}, e ≤ n → Chain x e st → Chain (x.push f i o) e st
  | _, [], _, h => h
  | e, t :: ts, he, ⟨g, h1, h2, h3, h4, h5⟩ => by
    obtain ⟨l1, l2, l3⟩ := hl
    exact ⟨g, h1, by rw [← h2]; exact getD_snoc_l (by omega), by rw [← h3]; exact getD_snoc_l (by omega), by rw [← h4]; exact getD_snoc_l (by omega), Chain.push ⟨l1, l2, l3⟩ f i o (by omega) h5⟩
/-- One more part at the end. -/
theorem Chain.add {x : Sc} {n g : Nat} {st : List Tr} (hl : x.len n) {t : Tr} (hg : g ≤ n) (h : Chain x g st) : Chain (x.push g t.inw t.outw) (n + 1) (t :: st) := by
  obtain ⟨l1, l2, l3⟩ := hl
  refine ⟨g, by omega, ?_, ?_, ?_, Chain.push ⟨l1, l2, l3⟩ _ _ _ hg h⟩
  · show (x.f ++ [(g : Int)]).getD (n + 1 - 1) 0 = g
    rw [← l1]
    exact getD_snoc_r _ _
  · show (x.i ++ [t.inw]).getD (n + 1 - 1) 0 = _
    rw [← l2]
    exact getD_snoc_r _ _
  · show (x.o ++ [t.outw]).getD (n + 1 - 1) 0 = _
    rw [← l3]
    exact getD_snoc_r _ _
theorem Chain.pos {x : Sc} {e : Nat} {t : Tr} {ts : List Tr} (h : Chain x e (t :: ts)) : 0 < e := by
  obtain ⟨g, h1, _⟩ := h
  omega
theorem Chain.nil_iff {x : Sc} {e : Nat} {st : List Tr} (h : Chain x e st) : e = 0 ↔ st = [] := by
  cases st with
  | nil => exact ⟨fun _ => rfl, fun _ => h⟩
  | cons t ts => exact ⟨fun e => absurd e (by have := h.pos; omega), fun e => by cases e⟩
/-- What the model makes of its lists at the node number j. -/
def stepS (x : Sc) (j : Nat) (n : Nd) : Option Sc :=
  if isLeafB n then some (x.push j (leafW n).1 (leafW n).2)
  else if isJointB n = true ∧ 2 ≤ j ∧ 1 ≤ x.f.getD (j - 1) 0 then
    (if n.k = 15 then
      (if x.o.getD (x.f.getD (j - 1) 0 - 1).toNat 0 = x.i.getD (j - 1) 0 then some (x.push (x.f.getD (x.f.getD (j - 1) 0 - 1).toNat 0) (x.i.getD (x.f.getD (j - 1) 0 - 1).toNat 0) (x.o.getD (j - 1) 0)) else none)
    else (if x.i.getD (x.f.getD (j - 1) 0 - 1).toNat 0 + x.i.getD (j - 1) 0 ≤ 12 ∧ x.o.getD (x.f.getD (j - 1) 0 - 1).toNat 0 + x.o.getD (j - 1) 0 ≤ 12 then
      some (x.push (x.f.getD (x.f.getD (j - 1) 0 - 1).toNat 0) (x.i.getD (x.f.getD (j - 1) 0 - 1).toNat 0 + x.i.getD (j - 1) 0) (x.o.getD (x.f.getD (j - 1) 0 - 1).toNat 0 + x.o.getD (j - 1) 0)) else none))
  else none
theorem joint_kind {n : Nd} (h : isJointB n = true) : n.k = 15 ∨ n.k = 16 := by
  unfold isJointB at h
  simp at h
  exact h.1.1
/-- The trees and the lists go together: a step that succeeds. -/
theorem step_some {x : Sc} {j : Nat} {st st' : List Tr} {n : Nd} (hl : x.len j) (hc : Chain x j st) (e : stepT st n = some st') : ∃ x', stepS x j n = some x' ∧ x'.len (j + 1) ∧ Chain x' (j + 1) st' := by
  unfold stepT at e
  unfold stepS
  by_cases h1 : isLeafB n = true
  · rw [if_pos h1] at e ⊢
    obtain rfl := Option.some.inj e
    exact ⟨_, rfl, Sc.len_push hl _ _ _, Chain.add (t := .leaf n (leafW n).1 (leafW n).2) hl (Nat.le_refl _) hc⟩
  · rw [if_neg h1] at e ⊢
    match st, hc, e with
    | [], _, e => cases e
    | [_], _, e => cases e
    | b :: a :: rest, hc, e =>
      simp only at e
      by_cases h2 : isJointB n = true
      · rw [if_pos h2] at e
        obtain ⟨g, g1, g2, g3, g4, hc2⟩ := hc
        obtain ⟨q, q1, q2, q3, q4, hc3⟩ := hc2
        have e1 : (x.f.getD (j - 1) 0 - 1).toNat = g - 1 := by omega
        rw [if_pos ⟨h2, by omega, by omega⟩, e1, g3, g4, q2, q3, q4]
        cases h3 : joinT n.k a b with
        | none => rw [h3] at e; cases e
        | some t =>
          rw [h3] at e
          obtain rfl := Option.some.inj e
          unfold joinT at h3
          by_cases h4 : n.k = 15
          · rw [if_pos h4] at h3 ⊢
            by_cases h5 : a.outw = b.inw
            · rw [if_pos h5] at h3 ⊢
              obtain rfl := Option.some.inj h3
              exact ⟨_, rfl, Sc.len_push hl _ _ _, Chain.add (t := .seq a b a.inw b.outw) hl (by omega) hc3⟩
            · rw [if_neg h5] at h3
              cases h3
          · rw [if_neg h4] at h3 ⊢
            by_cases h5 : a.inw + b.inw ≤ 12 ∧ a.outw + b.outw ≤ 12
            · rw [if_pos h5] at h3 ⊢
              obtain rfl := Option.some.inj h3
              exact ⟨_, rfl, Sc.len_push hl _ _ _, Chain.add (t := .par a b (a.inw + b.inw) (a.outw + b.outw)) hl (by omega) hc3⟩
            · rw [if_neg h5] at h3
              cases h3
      · rw [if_neg h2] at e
        cases e
/-- A step that fails. -/
theorem step_none {x : Sc} {j : Nat} {st : List Tr} {n : Nd} (hc : Chain x j st) (e : stepT st n = none) : stepS x j n = none := by
  unfold stepT at e
  unfold stepS
  by_cases h1 : isLeafB n = true
  · rw [if_pos h1] at e
    cases e
  · rw [if_neg h1] at e ⊢
    match st, hc, e with
    | [], hc, _ =>
      have h0 : j = 0 := hc
      rw [if_neg (by omega)]
    | [b], hc, _ =>
      obtain ⟨g, g1, g2, g3, g4, hc2⟩ := hc
      have h0 : g = 0 := hc2
      rw [if_neg (by omega)]
    | b :: a :: rest, hc, e =>
      simp only at e
      by_cases h2 : isJointB n = true
      · rw [if_pos h2] at e
        obtain ⟨g, g1, g2, g3, g4, hc2⟩ := hc
        obtain ⟨q, q1, q2, q3, q4, hc3⟩ := hc2
        have e1 : (x.f.getD (j - 1) 0 - 1).toNat = g - 1 := by omega
        rw [if_pos ⟨h2, by omega, by omega⟩, e1, g3, g4, q2, q3, q4]
        have h3 : joinT n.k a b = none := by
          cases h3 : joinT n.k a b with
          | none => rfl
          | some t => rw [h3] at e; cases e
        unfold joinT at h3
        by_cases h4 : n.k = 15
        · rw [if_pos h4] at h3 ⊢
          by_cases h5 : a.outw = b.inw
          · rw [if_pos h5] at h3
            cases h3
          · rw [if_neg h5]
        · rw [if_neg h4] at h3 ⊢
          by_cases h5 : a.inw + b.inw ≤ 12 ∧ a.outw + b.outw ≤ 12
          · rw [if_pos h5] at h3
            cases h3
          · rw [if_neg h5]
      · rw [if_neg (fun h => h2 h.1)]
/-- All nodes. -/
def scanS (x : Sc) (j : Nat) : List Nd → Option Sc
  | [] => some x
  | n :: ns => (stepS x j n).bind fun x' => scanS x' (j + 1) ns
def Sc.nil : Sc := ⟨[], [], []⟩
theorem scan_both : ∀ (ns : List Nd) {x : Sc} {j : Nat} {st : List Tr}, x.len j → Chain x j st →
    (∀ st', stackT st ns = some st' → ∃ x', scanS x j ns = some x' ∧ x'.len (j + ns.length) ∧ Chain x' (j + ns.length) st') ∧ (stackT st ns = none → scanS x j ns = none)
  | [], x, j, st, hl, hc => ⟨fun st' e => ⟨x, rfl, hl, by obtain rfl := Option.some.inj e; exact hc⟩, fun e => by cases e⟩
  | n :: ns, x, j, st, hl, hc => by
    simp only [stackT, scanS]
    cases h : stepT st n with
    | none =>
      rw [step_none hc h]
      exact ⟨(fun _ e => by cases e), fun _ => rfl⟩
    | some st1 =>
      obtain ⟨x1, h1, h2, h3⟩ := step_some hl hc h
      rw [h1]
      have ih := scan_both ns h2 h3
      refine ⟨fun st' e => ?_, fun e => ih.2 e⟩
      obtain ⟨x', e1, e2, e3⟩ := ih.1 st' e
      exact ⟨x', e1, by rw [List.length_cons, show j + (ns.length + 1) = j + 1 + ns.length by omega]; exact e2, by rw [List.length_cons, show j + (ns.length + 1) = j + 1 + ns.length by omega]; exact e3⟩
theorem scanS_snoc : ∀ (ns : List Nd) (x : Sc) (j : Nat) (n : Nd), scanS x j (ns ++ [n]) = (scanS x j ns).bind fun x' => stepS x' (j + ns.length) n
  | [], x, j, n => by
    simp only [List.nil_append, scanS, Option.bind_some, List.length_nil, Nat.add_zero]
    cases stepS x j n <;> rfl
  | m :: ns, x, j, n => by
    simp only [List.cons_append, scanS]
    cases stepS x j m with
    | none => rfl
    | some x' =>
      simp only [Option.bind_some]
      rw [scanS_snoc ns x' (j + 1) n, List.length_cons, show j + 1 + ns.length = j + (ns.length + 1) by omega]
/-- The model's answer: whether the term is valid, and the lists. -/
def okS (ns : List Nd) : Bool := decide (1 ≤ ns.length) && decide (ns.length ≤ 400) && (match scanS .nil 0 ns with
  | some x => decide (x.f.getD (ns.length - 1) 0 = 0)
  | none => false)
/-- Both say the same of a term. -/
theorem ok_both (ns : List Nd) : okS ns = (treeOf ns).isSome := by
  have h0 : Sc.nil.len 0 := ⟨rfl, rfl, rfl⟩
  have hb := scan_both ns h0 (show Chain .nil 0 [] from rfl)
  unfold okS treeOf
  by_cases h1 : ns.length ≤ 400
  · rw [if_pos h1, decide_eq_true h1, Bool.and_true]
    cases h : stackT [] ns with
    | none =>
      rw [hb.2 h]
      simp
    | some st =>
      obtain ⟨x, e1, e2, e3⟩ := hb.1 st h
      rw [e1]
      rw [Nat.zero_add] at e2 e3
      match st, h, e3 with
      | [], _, e3 =>
        have h2 : ns.length = 0 := e3
        simp [h2]
      | [t], _, e3 =>
        obtain ⟨g, g1, g2, _, _, g5⟩ := e3
        have h2 : g = 0 := g5
        subst h2
        simp only [Option.isSome_some]
        rw [g2]
        simp
        omega
      | t :: u :: r, _, e3 =>
        obtain ⟨g, g1, g2, _, _, g5⟩ := e3
        have h2 := g5.pos
        simp only [Option.isSome_none]
        rw [g2]
        simp
        omega
  · rw [if_neg h1, decide_eq_false h1]
    simp
/-- Of a valid term the lists' last elements are the tree's wires. -/
theorem ty_both {ns : List Nd} {t : Tr} (h : treeOf ns = some t) : ∃ x, scanS .nil 0 ns = some x ∧ x.len ns.length ∧ 1 ≤ ns.length ∧ ns.length ≤ 400 ∧ x.i.getD (ns.length - 1) 0 = t.inw ∧ x.o.getD (ns.length - 1) 0 = t.outw := by
  have h0 : Sc.nil.len 0 := ⟨rfl, rfl, rfl⟩
  have hb := scan_both ns h0 (show Chain .nil 0 [] from rfl)
  unfold treeOf at h
  by_cases h1 : ns.length ≤ 400
  · rw [if_pos h1] at h
    cases hs : stackT [] ns with
    | none => rw [hs] at h; cases h
    | some st =>
      rw [hs] at h
      obtain ⟨x, e1, e2, e3⟩ := hb.1 st hs
      rw [Nat.zero_add] at e2 e3
      match st, h, e3 with
      | [u], h, e3 =>
        obtain rfl := Option.some.inj h
        have h2 := e3.pos
        obtain ⟨g, g1, g2, g3, g4, _⟩ := e3
        exact ⟨x, e1, e2, by omega, h1, g3, g4⟩
      | [], h, _ => cases h
      | _ :: _ :: _, h, _ => cases h
  · rw [if_neg h1] at h
    cases h
end Go.Proofs.Ytdcgoeapgboclaa

/-! Trees and their nodes in postfix order. Plain mathematics. -/
namespace Go.Proofs.Ytdcgoeapgboclaa

def jointN (k : Int) : Nd := ⟨k, 0, ByteArray.empty⟩
/-- The nodes of a tree in postfix order. -/
def nodesOf : Tr → List Nd
  | .leaf n _ _ => [n]
  | .seq a b _ _ => nodesOf a ++ (nodesOf b ++ [jointN 15])
  | .par a b _ _ => nodesOf a ++ (nodesOf b ++ [jointN 16])
/-- The tree of a valid term. -/
def VTr : Tr → Prop
  | .leaf n i o => isLeafB n = true ∧ i = (leafW n).1 ∧ o = (leafW n).2
  | .seq a b i o => VTr a ∧ VTr b ∧ a.outw = b.inw ∧ i = a.inw ∧ o = b.outw
  | .par a b i o => VTr a ∧ VTr b ∧ a.inw + b.inw ≤ 12 ∧ a.outw + b.outw ≤ 12 ∧ i = a.inw + b.inw ∧ o = a.outw + b.outw
theorem joint_eq {n : Nd} (h : isJointB n = true) : n = jointN n.k := by
  unfold isJointB at h
  simp at h
  obtain ⟨k, v, s⟩ := n
  obtain ⟨⟨_, h2⟩, h3⟩ := h
  simp only at h2 h3
  rw [h2, h3]
  rfl
theorem jointB (k : Int) (h : k = 15 ∨ k = 16) : isJointB (jointN k) = true := by
  unfold isJointB jointN
  rcases h with rfl | rfl <;> simp
theorem joint_leaf {n : Nd} (h : isJointB n = true) : isLeafB n = false := by
  have := joint_kind h
  cases e : isLeafB n with
  | false => rfl
  | true =>
    unfold isLeafB at e
    simp at e
    omega
theorem stackT_app : ∀ (a b : List Nd) (st : List Tr), stackT st (a ++ b) = (stackT st a).bind fun st' => stackT st' b
  | [], b, st => rfl
  | n :: a, b, st => by
    simp only [List.cons_append, stackT]
    cases stepT st n with
    | none => rfl
    | some st' => exact stackT_app a b st'
theorem stepT_leaf {n : Nd} (h : isLeafB n = true) (st : List Tr) : stepT st n = some (.leaf n (leafW n).1 (leafW n).2 :: st) := by
  unfold stepT
  rw [if_pos h]
theorem stepT_joint {n : Nd} (h : isJointB n = true) (a b : Tr) (st : List Tr) : stepT (b :: a :: st) n = (joinT n.k a b).map (· :: st) := by
  unfold stepT
  rw [if_neg (by rw [joint_leaf h]; decide)]
  simp only
  rw [if_pos h]
theorem stack_nodes : ∀ (t : Tr) (st : List Tr), VTr t → stackT st (nodesOf t) = some (t :: st)
  | .leaf n i o, st, h => by
    obtain ⟨h1, rfl, rfl⟩ := h
    simp only [nodesOf, stackT]
    rw [stepT_leaf h1]
    rfl
  | .seq a b i o, st, h => by
    obtain ⟨ha, hb, h1, rfl, rfl⟩ := h
    simp only [nodesOf]
    rw [stackT_app, stack_nodes a st ha, Option.bind_some, stackT_app, stack_nodes b _ hb, Option.bind_some]
    simp only [stackT]
    rw [stepT_joint (jointB 15 (Or.inl rfl))]
    simp [joinT, jointN, h1]
  | .par a b i o, st, h => by
    obtain ⟨ha, hb, h1, h2, rfl, rfl⟩ := h
    simp only [nodesOf]
    rw [stackT_app, stack_nodes a st ha, Option.bind_some, stackT_app, stack_nodes b _ hb, Option.bind_some]
    simp only [stackT]
    rw [stepT_joint (jointB 16 (Or.inr rfl))]
    simp [joinT, jointN, h1, h2]
theorem tree_nodes {t : Tr} (h : VTr t) (hl : (nodesOf t).length ≤ 400) : treeOf (nodesOf t) = some t := by
  unfold treeOf
  rw [if_pos hl, stack_nodes t [] h]
/-- The nodes of trees, the last one first. -/
def nodesR : List Tr → List Nd
  | [] => []
  | t :: ts => nodesR ts ++ nodesOf t
theorem step_nodes {st st' : List Tr} {n : Nd} (h : ∀ t ∈ st, VTr t) (e : stepT st n = some st') : (∀ t ∈ st', VTr t) ∧ nodesR st' = nodesR st ++ [n] := by
  unfold stepT at e
  by_cases h1 : isLeafB n = true
  · rw [if_pos h1] at e
    obtain rfl := Option.some.inj e
    refine ⟨fun t ht => ?_, rfl⟩
    rcases List.mem_cons.1 ht with rfl | ht
    · exact ⟨h1, rfl, rfl⟩
    · exact h t ht
  · rw [if_neg h1] at e
    match st, h, e with
    | [], _, e => cases e
    | [_], _, e => cases e
    | b :: a :: rest, h, e =>
      simp only at e
      by_cases h2 : isJointB n = true
      · rw [if_pos h2] at e
        cases h3 : joinT n.k a b with
        | none => rw [h3] at e; cases e
        | some t =>
          rw [h3] at e
          obtain rfl := Option.some.inj e
          have ha := h a (by simp)
          have hb := h b (by simp)
          have hn := joint_eq h2
          unfold joinT at h3
          by_cases h4 : n.k = 15
          · rw [if_pos h4] at h3
            rw [h4] at hn
            by_cases h5 : a.outw = b.inw
            · rw [if_pos h5] at h3
              obtain rfl := Option.some.inj h3
              refine ⟨fun u hu => ?_, ?_⟩
              · rcases List.mem_cons.1 hu with rfl | hu
                · exact ⟨ha, hb, h5, rfl, rfl⟩
                · exact h u (by simp [hu])
              · rw [hn]
                simp [nodesR, nodesOf]
            · rw [if_neg h5] at h3
              cases h3
          · rw [if_neg h4] at h3
            have h6 : n.k = 16 := by
              rcases joint_kind h2 with h | h
              · exact absurd h h4
              · exact h
            rw [h6] at hn
            by_cases h5 : a.inw + b.inw ≤ 12 ∧ a.outw + b.outw ≤ 12
            · rw [if_pos h5] at h3
              obtain rfl := Option.some.inj h3
              refine ⟨fun u hu => ?_, ?_⟩
              · rcases List.mem_cons.1 hu with rfl | hu
                · exact ⟨ha, hb, h5.1, h5.2, rfl, rfl⟩
                · exact h u (by simp [hu])
              · rw [hn]
                simp [nodesR, nodesOf]
            · rw [if_neg h5] at h3
              cases h3
      · rw [if_neg h2] at e
        cases e
theorem stack_valid : ∀ (ns : List Nd) {st st' : List Tr}, (∀ t ∈ st, VTr t) → stackT st ns = some st' → (∀ t ∈ st', VTr t) ∧ nodesR st' = nodesR st ++ ns
  | [], st, st', h, e => by
    obtain rfl := Option.some.inj e
    exact ⟨h, by simp⟩
  | n :: ns, st, st', h, e => by
    simp only [stackT] at e
    cases h1 : stepT st n with
    | none => rw [h1] at e; cases e
    | some st1 =>
      rw [h1] at e
      obtain ⟨h2, h3⟩ := step_nodes h h1
      obtain ⟨h4, h5⟩ := stack_valid ns h2 e
      exact ⟨h4, by rw [h5, h3, List.append_assoc]; rfl⟩
/-- A valid term is its tree's nodes, and the tree is valid. -/
theorem tree_valid {ns : List Nd} {t : Tr} (h : treeOf ns = some t) : VTr t ∧ nodesOf t = ns ∧ ns.length ≤ 400 := by
  unfold treeOf at h
  by_cases h1 : ns.length ≤ 400
  · rw [if_pos h1] at h
    cases hs : stackT [] ns with
    | none => rw [hs] at h; cases h
    | some st =>
      rw [hs] at h
      match st, h, hs with
      | [u], h, hs =>
        obtain rfl := Option.some.inj h
        obtain ⟨h2, h3⟩ := stack_valid ns (fun t ht => by cases ht) hs
        exact ⟨h2 u (by simp), by simpa [nodesR] using h3, h1⟩
      | [], h, _ => cases h
      | _ :: _ :: _, h, _ => cases h
  · rw [if_neg h1] at h
    cases h
theorem VTr.fits : ∀ {t : Tr}, VTr t → Fits t
  | .leaf n i o, h => by
    obtain ⟨h1, rfl, rfl⟩ := h
    exact leafW_bd h1
  | .seq a b i o, h => by
    obtain ⟨ha, hb, _, rfl, rfl⟩ := h
    exact ⟨ha.fits.1, ha.fits.2.1, hb.fits.2.2.1, hb.fits.2.2.2⟩
  | .par a b i o, h => by
    obtain ⟨ha, hb, h1, h2, rfl, rfl⟩ := h
    obtain ⟨a1, a2, a3, a4⟩ := ha.fits
    obtain ⟨b1, b2, b3, b4⟩ := hb.fits
    exact ⟨by show 0 ≤ a.inw + b.inw; omega, h1, by show 0 ≤ a.outw + b.outw; omega, h2⟩
/-- The width and the depth. -/
def extT : Tr → Int × Int
  | .leaf _ i o => (max i o, 1)
  | .seq a b _ _ => (max (extT a).1 (extT b).1, (extT a).2 + (extT b).2)
  | .par a b _ _ => ((extT a).1 + (extT b).1, max (extT a).2 (extT b).2)
/-- The mirror image. -/
def mirK (k : Int) : Int := if 9 ≤ k then k - 6 else if 3 ≤ k then k + 6 else k
def mirL (n : Nd) : Nd := ⟨mirK n.k, n.v, n.s⟩
def mirT : Tr → Tr
  | .leaf n _ _ => .leaf (mirL n) (leafW (mirL n)).1 (leafW (mirL n)).2
  | .seq a b _ _ => .seq (mirT b) (mirT a) (mirT b).inw (mirT a).outw
  | .par a b _ _ => .par (mirT a) (mirT b) ((mirT a).inw + (mirT b).inw) ((mirT a).outw + (mirT b).outw)
theorem leaf_range {n : Nd} (h : isLeafB n = true) : 1 ≤ n.k ∧ n.k ≤ 14 ∧ 0 ≤ n.v ∧ n.v ≤ greatest n.k ∧ n.s = ByteArray.empty := by
  unfold isLeafB at h
  simp at h
  exact ⟨h.1.1.1.1, h.1.1.1.2, h.1.1.2, h.1.2, h.2⟩
theorem leaf_of {n : Nd} (h1 : 1 ≤ n.k) (h2 : n.k ≤ 14) (h3 : 0 ≤ n.v) (h4 : n.v ≤ greatest n.k) (h5 : n.s = ByteArray.empty) : isLeafB n = true := by
  unfold isLeafB
  simp
  exact ⟨⟨⟨⟨h1, h2⟩, h3⟩, h4⟩, h5⟩
theorem mirL_leaf {n : Nd} (h : isLeafB n = true) : isLeafB (mirL n) = true ∧ leafW (mirL n) = ((leafW n).2, (leafW n).1) := by
  obtain ⟨h1, h2, h3, h4, h5⟩ := leaf_range h
  obtain ⟨k, v, s⟩ := n
  simp only at h1 h2 h3 h4 h5
  unfold greatest at h4
  have hc : k = 1 ∨ k = 2 ∨ k = 3 ∨ k = 4 ∨ k = 5 ∨ k = 6 ∨ k = 7 ∨ k = 8 ∨ k = 9 ∨ k = 10 ∨ k = 11 ∨ k = 12 ∨ k = 13 ∨ k = 14 := by omega
  rcases hc with rfl | rfl | rfl | rfl | rfl | rfl | rfl | rfl | rfl | rfl | rfl | rfl | rfl | rfl <;>
    exact ⟨leaf_of (by simp [mirL, mirK]) (by simp [mirL, mirK]) h3 (by simpa [mirL, mirK, greatest] using h4) h5, by simp [mirL, mirK, leafW]⟩
theorem mirT_valid : ∀ {t : Tr}, VTr t → VTr (mirT t) ∧ (mirT t).inw = t.outw ∧ (mirT t).outw = t.inw ∧ (nodesOf (mirT t)).length = (nodesOf t).length
  | .leaf n i o, h => by
    obtain ⟨h1, rfl, rfl⟩ := h
    obtain ⟨h2, h3⟩ := mirL_leaf h1
    refine ⟨⟨h2, rfl, rfl⟩, ?_, ?_, rfl⟩
    · simp only [mirT, Tr.inw, Tr.outw]
      rw [h3]
    · simp only [mirT, Tr.inw, Tr.outw]
      rw [h3]
  | .seq a b i o, h => by
    obtain ⟨ha, hb, h1, rfl, rfl⟩ := h
    obtain ⟨a1, a2, a3, a4⟩ := mirT_valid ha
    obtain ⟨b1, b2, b3, b4⟩ := mirT_valid hb
    refine ⟨⟨b1, a1, by rw [b3, a2, h1], rfl, rfl⟩, b2, a3, ?_⟩
    simp only [mirT, nodesOf, List.length_append, List.length_cons, List.length_nil]
    omega
  | .par a b i o, h => by
    obtain ⟨ha, hb, h1, h2, rfl, rfl⟩ := h
    obtain ⟨a1, a2, a3, a4⟩ := mirT_valid ha
    obtain ⟨b1, b2, b3, b4⟩ := mirT_valid hb
    refine ⟨⟨a1, b1, by rw [a2, b2]; exact h2, by rw [a3, b3]; exact h1, rfl, rfl⟩, ?_, ?_, ?_⟩
    · show (mirT a).inw + (mirT b).inw = a.outw + b.outw
      rw [a2, b2]
    · show (mirT a).outw + (mirT b).outw = a.inw + b.inw
      rw [a3, b3]
    · simp only [mirT, nodesOf, List.length_append, List.length_cons, List.length_nil]
      omega
theorem mirK_leaf {k : Int} (h1 : 1 ≤ k) (h2 : k ≤ 14) : mirK k = (if 3 ≤ k ∧ k ≤ 8 then k + 6 else if 9 ≤ k ∧ k ≤ 14 then k - 6 else k) := by
  unfold mirK
  by_cases c : 9 ≤ k
  · rw [if_pos c, if_neg (by omega), if_pos ⟨c, h2⟩]
  · rw [if_neg c]
    by_cases d : 3 ≤ k
    · rw [if_pos d, if_pos (by omega)]
    · rw [if_neg d, if_neg (by omega), if_neg (by omega)]
theorem nodes_pos : ∀ t : Tr, 0 < (nodesOf t).length
  | .leaf _ _ _ => by simp [nodesOf]
  | .seq a b _ _ => by simp only [nodesOf, List.length_append, List.length_cons, List.length_nil]; omega
  | .par a b _ _ => by simp only [nodesOf, List.length_append, List.length_cons, List.length_nil]; omega
/-- The part whose last node has the index k. -/
def subAt : Tr → Nat → Tr
  | .leaf n i o, _ => .leaf n i o
  | .seq a b i o, k => if k < (nodesOf a).length then subAt a k else if k < (nodesOf a).length + (nodesOf b).length then subAt b (k - (nodesOf a).length) else .seq a b i o
  | .par a b i o, k => if k < (nodesOf a).length then subAt a k else if k < (nodesOf a).length + (nodesOf b).length then subAt b (k - (nodesOf a).length) else .par a b i o
theorem sub_last : ∀ t : Tr, subAt t ((nodesOf t).length - 1) = t
  | .leaf _ _ _ => rfl
  | .seq a b i o => by
    simp only [subAt, nodesOf, List.length_append, List.length_cons, List.length_nil]
    rw [if_neg (by have := nodes_pos b; omega), if_neg (by omega)]
  | .par a b i o => by
    simp only [subAt, nodesOf, List.length_append, List.length_cons, List.length_nil]
    rw [if_neg (by have := nodes_pos b; omega), if_neg (by omega)]
/-- The part's nodes stand in front of the index. -/
theorem sub_nodes : ∀ (t : Tr) (k : Nat), VTr t → k < (nodesOf t).length → VTr (subAt t k) ∧ (nodesOf (subAt t k)).length ≤ k + 1 ∧ ((nodesOf t).drop (k + 1 - (nodesOf (subAt t k)).length)).take (nodesOf (subAt t k)).length = nodesOf (subAt t k)
  | .leaf n i o, k, h, hk => by
    simp only [nodesOf, List.length_cons, List.length_nil] at hk
    obtain rfl : k = 0 := by omega
    exact ⟨h, by simp [subAt, nodesOf], by simp [subAt, nodesOf]⟩
  | .seq a b i o, k, h, hk => by
    obtain ⟨ha, hb, h1, h2, h3⟩ := h
    by_cases c : k < (nodesOf a).length
    · have e : subAt (.seq a b i o) k = subAt a k := by simp only [subAt]; rw [if_pos c]
      obtain ⟨x1, x2, x3⟩ := sub_nodes a k ha c
      rw [e]
      refine ⟨x1, x2, ?_⟩
      simp only [nodesOf]
      rw [List.drop_append_of_le_length (by omega), List.take_append_of_le_length (by rw [List.length_drop]; omega), x3]
    · by_cases d : k < (nodesOf a).length + (nodesOf b).length
      · have e : subAt (.seq a b i o) k = subAt b (k - (nodesOf a).length) := by simp only [subAt]; rw [if_neg c, if_pos d]
        obtain ⟨x1, x2, x3⟩ := sub_nodes b (k - (nodesOf a).length) hb (by omega)
        rw [e]
        refine ⟨x1, by omega, ?_⟩
        simp only [nodesOf]
        rw [List.drop_append, List.drop_eq_nil_of_le (by omega), List.nil_append, show k + 1 - (nodesOf (subAt b (k - (nodesOf a).length))).length - (nodesOf a).length = k - (nodesOf a).length + 1 - (nodesOf (subAt b (k - (nodesOf a).length))).length by omega,
          List.drop_append_of_le_length (by omega), List.take_append_of_le_length (by rw [List.length_drop]; omega), x3]
      · have e : subAt (.seq a b i o) k = .seq a b i o := by simp only [subAt]; rw [if_neg c, if_neg d]
        simp only [nodesOf, List.length_append, List.length_cons, List.length_nil] at hk
        rw [e]
        refine ⟨⟨ha, hb, h1, h2, h3⟩, by simp only [nodesOf, List.length_append, List.length_cons, List.length_nil]; omega, ?_⟩
        rw [show k + 1 - (nodesOf (Tr.seq a b i o)).length = 0 by simp only [nodesOf, List.length_append, List.length_cons, List.length_nil]; omega, List.drop_zero, List.take_length]
  | .par a b i o, k, h, hk => by
    obtain ⟨ha, hb, h1, h2, h3⟩ := h
    by_cases c : k < (nodesOf a).length
    · have e : subAt (.par a b i o) k = subAt a k := by simp only [subAt]; rw [if_pos c]
      obtain ⟨x1, x2, x3⟩ := sub_nodes a k ha c
      rw [e]
      refine ⟨x1, x2, ?_⟩
      simp only [nodesOf]
      rw [List.drop_append_of_le_length (by omega), List.take_append_of_le_length (by rw [List.length_drop]; omega), x3]
    · by_cases d : k < (nodesOf a).length + (nodesOf b).length
      · have e : subAt (.par a b i o) k = subAt b (k - (nodesOf a).length) := by simp only [subAt]; rw [if_neg c, if_pos d]
        obtain ⟨x1, x2, x3⟩ := sub_nodes b (k - (nodesOf a).length) hb (by omega)
        rw [e]
        refine ⟨x1, by omega, ?_⟩
        simp only [nodesOf]
        rw [List.drop_append, List.drop_eq_nil_of_le (by omega), List.nil_append, show k + 1 - (nodesOf (subAt b (k - (nodesOf a).length))).length - (nodesOf a).length = k - (nodesOf a).length + 1 - (nodesOf (subAt b (k - (nodesOf a).length))).length by omega,
          List.drop_append_of_le_length (by omega), List.take_append_of_le_length (by rw [List.length_drop]; omega), x3]
      · have e : subAt (.par a b i o) k = .par a b i o := by simp only [subAt]; rw [if_neg c, if_neg d]
        simp only [nodesOf, List.length_append, List.length_cons, List.length_nil] at hk
        rw [e]
        refine ⟨⟨ha, hb, h1, h2, h3⟩, by simp only [nodesOf, List.length_append, List.length_cons, List.length_nil]; omega, ?_⟩
        rw [show k + 1 - (nodesOf (Tr.par a b i o)).length = 0 by simp only [nodesOf, List.length_append, List.length_cons, List.length_nil]; omega, List.drop_zero, List.take_length]
theorem scanS_app : ∀ (a b : List Nd) (x : Sc) (j : Nat), scanS x j (a ++ b) = (scanS x j a).bind fun x' => scanS x' (j + a.length) b
  | [], b, x, j => by simp [scanS]
  | n :: a, b, x, j => by
    simp only [List.cons_append, scanS]
    cases stepS x j n with
    | none => rfl
    | some x' =>
      simp only [Option.bind_some]
      rw [scanS_app a b x' (j + 1), List.length_cons, show j + 1 + a.length = j + (a.length + 1) by omega]
/-- What the model's lists hold for the nodes of a part. -/
def Holds (x x' : Sc) (j : Nat) (t : Tr) : Prop := x'.len (j + (nodesOf t).length) ∧ (∀ q, q < j → x'.f.getD q 0 = x.f.getD q 0 ∧ x'.i.getD q 0 = x.i.getD q 0 ∧ x'.o.getD q 0 = x.o.getD q 0) ∧
  ∀ k, k < (nodesOf t).length → x'.f.getD (j + k) 0 = ((j + k + 1 - (nodesOf (subAt t k)).length : Nat) : Int) ∧ x'.i.getD (j + k) 0 = (subAt t k).inw ∧ x'.o.getD (j + k) 0 = (subAt t k).outw
theorem push_at {x : Sc} {n : Nat} (hl : x.len n) (f i o : Int) : (∀ q, q < n → (x.push f i o).f.getD q 0 = x.f.getD q 0 ∧ (x.push f i o).i.getD q 0 = x.i.getD q 0 ∧ (x.push f i o).o.getD q 0 = x.o.getD q 0) ∧ (x.push f i o).f.getD n 0 = f ∧ (x.push f i o).i.getD n 0 = i ∧ (x.push f i o).o.getD n 0 = o := by
  obtain ⟨l1, l2, l3⟩ := hl
  refine ⟨fun q hq => ⟨getD_snoc_l (by omega), getD_snoc_l (by omega), getD_snoc_l (by omega)⟩, ?_, ?_, ?_⟩
  · rw [← l1]; exact getD_snoc_r _ _
  · rw [← l2]; exact getD_snoc_r _ _
  · rw [← l3]; exact getD_snoc_r _ _
theorem holds_join {a b t : Tr} {x x1 x2 : Sc} {j : Nat} (ha : Holds x x1 j a) (hb : Holds x1 x2 (j + (nodesOf a).length) b) {n : Nd} (hn : nodesOf t = nodesOf a ++ (nodesOf b ++ [n]))
    (hs : ∀ k, subAt t k = if k < (nodesOf a).length then subAt a k else if k < (nodesOf a).length + (nodesOf b).length then subAt b (k - (nodesOf a).length) else t) :
    Holds x (x2.push j t.inw t.outw) j t := by
  have hlen : (nodesOf t).length = (nodesOf a).length + (nodesOf b).length + 1 := by
    rw [hn]
    simp
    omega
  obtain ⟨a1, a2, a3⟩ := ha
  obtain ⟨b1, b2, b3⟩ := hb
  obtain ⟨p1, p2, p3, p4⟩ := push_at b1 j t.inw t.outw
  refine ⟨?_, fun q hq => ?_, fun k hk => ?_⟩
  · have h := Sc.len_push b1 j t.inw t.outw
    rw [hlen, show j + ((nodesOf a).length + (nodesOf b).length + 1) = j + (nodesOf a).length + (nodesOf b).length + 1 by omega]
    exact h
  · obtain ⟨q1, q2, q3⟩ := p1 q (by omega)
    obtain ⟨r1, r2, r3⟩ := b2 q (by omega)
    obtain ⟨s1, s2, s3⟩ := a2 q hq
    exact ⟨by rw [q1, r1, s1], by rw [q2, r2, s2], by rw [q3, r3, s3]⟩
  · rw [hs k]
    by_cases c : k < (nodesOf a).length
    · rw [if_pos c]
      obtain ⟨q1, q2, q3⟩ := p1 (j + k) (by omega)
      obtain ⟨r1, r2, r3⟩ := b2 (j + k) (by omega)
      obtain ⟨s1, s2, s3⟩ := a3 k c
      exact ⟨by rw [q1, r1, s1], by rw [q2, r2, s2], by rw [q3, r3, s3]⟩
    · rw [if_neg c]
      by_cases d : k < (nodesOf a).length + (nodesOf b).length
      · rw [if_pos d]
        obtain ⟨q1, q2, q3⟩ := p1 (j + k) (by omega)
        obtain ⟨s1, s2, s3⟩ := b3 (k - (nodesOf a).length) (by omega)
        rw [show j + (nodesOf a).length + (k - (nodesOf a).length) = j + k by omega] at s1 s2 s3
        exact ⟨by rw [q1, s1], by rw [q2, s2], by rw [q3, s3]⟩
      · rw [if_neg d]
        have e : j + k = j + (nodesOf a).length + (nodesOf b).length := by omega
        rw [e, p2, p3, p4, hlen]
        exact ⟨by congr 1; omega, rfl, rfl⟩
theorem stepS_joint {x : Sc} {j : Nat} {n : Nd} (h : isJointB n = true) (hj : 2 ≤ j) {g : Nat} (hg : x.f.getD (j - 1) 0 = g) (hg1 : 1 ≤ g) : stepS x j n =
    (if n.k = 15 then (if x.o.getD (g - 1) 0 = x.i.getD (j - 1) 0 then some (x.push (x.f.getD (g - 1) 0) (x.i.getD (g - 1) 0) (x.o.getD (j - 1) 0)) else none)
    else (if x.i.getD (g - 1) 0 + x.i.getD (j - 1) 0 ≤ 12 ∧ x.o.getD (g - 1) 0 + x.o.getD (j - 1) 0 ≤ 12 then some (x.push (x.f.getD (g - 1) 0) (x.i.getD (g - 1) 0 + x.i.getD (j - 1) 0) (x.o.getD (g - 1) 0 + x.o.getD (j - 1) 0)) else none)) := by
  unfold stepS
  rw [if_neg (by rw [joint_leaf h]; decide), if_pos ⟨h, hj, by omega⟩, hg, show ((g : Int) - 1).toNat = g - 1 by omega]
theorem join_facts {a b : Tr} {x x1 x2 : Sc} {j : Nat} (k1 : Holds x x1 j a) (k2 : Holds x1 x2 (j + (nodesOf a).length) b) :
    x2.f.getD (j + (nodesOf a).length + (nodesOf b).length - 1) 0 = ((j + (nodesOf a).length : Nat) : Int) ∧ x2.i.getD (j + (nodesOf a).length + (nodesOf b).length - 1) 0 = b.inw ∧ x2.o.getD (j + (nodesOf a).length + (nodesOf b).length - 1) 0 = b.outw ∧
    x2.f.getD (j + (nodesOf a).length - 1) 0 = (j : Int) ∧ x2.i.getD (j + (nodesOf a).length - 1) 0 = a.inw ∧ x2.o.getD (j + (nodesOf a).length - 1) 0 = a.outw := by
  have hpa := nodes_pos a
  have hpb := nodes_pos b
  have hA := k1.2.2 ((nodesOf a).length - 1) (by omega)
  have hA2 := k2.2.1 (j + ((nodesOf a).length - 1)) (by omega)
  have hB := k2.2.2 ((nodesOf b).length - 1) (by omega)
  rw [sub_last] at hA hB
  rw [show j + (nodesOf a).length + (nodesOf b).length - 1 = j + (nodesOf a).length + ((nodesOf b).length - 1) by omega, show j + (nodesOf a).length - 1 = j + ((nodesOf a).length - 1) by omega]
  refine ⟨?_, hB.2.1, hB.2.2, ?_, by rw [hA2.2.1, hA.2.1], by rw [hA2.2.2, hA.2.2]⟩
  · rw [hB.1]
    congr 1
    omega
  · rw [hA2.1, hA.1]
    congr 1
    omega
theorem scan_sub : ∀ (t : Tr) (x : Sc) (j : Nat), VTr t → x.len j → ∃ x', scanS x j (nodesOf t) = some x' ∧ Holds x x' j t
  | .leaf n i o, x, j, h, hl => by
    obtain ⟨h1, rfl, rfl⟩ := h
    refine ⟨x.push j (leafW n).1 (leafW n).2, ?_, ?_⟩
    · simp only [nodesOf, scanS]
      unfold stepS
      rw [if_pos h1]
      rfl
    · obtain ⟨p1, p2, p3, p4⟩ := push_at hl j (leafW n).1 (leafW n).2
      refine ⟨Sc.len_push hl _ _ _, p1, fun k hk => ?_⟩
      simp only [nodesOf, List.length_cons, List.length_nil] at hk
      obtain rfl : k = 0 := by omega
      exact ⟨by rw [Nat.add_zero, p2]; simp [subAt, nodesOf], p3, p4⟩
  | .seq a b i o, x, j, h, hl => by
    obtain ⟨ha, hb, h1, rfl, rfl⟩ := h
    obtain ⟨x1, e1, k1⟩ := scan_sub a x j ha hl
    obtain ⟨x2, e2, k2⟩ := scan_sub b x1 (j + (nodesOf a).length) hb k1.1
    obtain ⟨f1, f2, f3, f4, f5, f6⟩ := join_facts k1 k2
    have hpa := nodes_pos a
    have hpb := nodes_pos b
    refine ⟨x2.push j a.inw b.outw, ?_, holds_join (t := .seq a b a.inw b.outw) k1 k2 rfl (fun k => rfl)⟩
    simp only [nodesOf]
    rw [scanS_app, e1, Option.bind_some, scanS_app, e2, Option.bind_some]
    simp only [scanS]
    rw [stepS_joint (jointB 15 (Or.inl rfl)) (by omega) f1 (by omega), f2, f3, f4, f5, f6]
    simp [jointN, h1]
  | .par a b i o, x, j, h, hl => by
    obtain ⟨ha, hb, h1, h2, rfl, rfl⟩ := h
    obtain ⟨x1, e1, k1⟩ := scan_sub a x j ha hl
    obtain ⟨x2, e2, k2⟩ := scan_sub b x1 (j + (nodesOf a).length) hb k1.1
    obtain ⟨f1, f2, f3, f4, f5, f6⟩ := join_facts k1 k2
    have hpa := nodes_pos a
    have hpb := nodes_pos b
    refine ⟨x2.push j (a.inw + b.inw) (a.outw + b.outw), ?_, holds_join (t := .par a b (a.inw + b.inw) (a.outw + b.outw)) k1 k2 rfl (fun k => rfl)⟩
    simp only [nodesOf]
    rw [scanS_app, e1, Option.bind_some, scanS_app, e2, Option.bind_some]
    simp only [scanS]
    rw [stepS_joint (jointB 16 (Or.inr rfl)) (by omega) f1 (by omega), f2, f3, f4, f5, f6]
    simp [jointN, h1, h2]
/-- Two valid terms joined. -/
theorem join_tree {na nb : List Nd} {A B : Tr} {k : Int} (ha : treeOf na = some A) (hb : treeOf nb = some B) (hk : k = 15 ∨ k = 16) :
    treeOf (na ++ (nb ++ [jointN k])) = if na.length + nb.length + 1 ≤ 400 then joinT k A B else none := by
  obtain ⟨va, ea, la⟩ := tree_valid ha
  obtain ⟨vb, eb, lb⟩ := tree_valid hb
  unfold treeOf
  have hl : (na ++ (nb ++ [jointN k])).length = na.length + nb.length + 1 := by simp; omega
  rw [hl]
  by_cases c : na.length + nb.length + 1 ≤ 400
  · rw [if_pos c, if_pos c, ← ea, ← eb, stackT_app, stack_nodes A [] va, Option.bind_some, stackT_app, stack_nodes B _ vb, Option.bind_some]
    simp only [stackT]
    rw [stepT_joint (jointB k hk)]
    show (match ((joinT k A B).map (· :: [])).bind some with | some [t] => some t | _ => none) = joinT k A B
    cases joinT k A B <;> rfl
  · rw [if_neg c, if_neg c]
theorem step_kind {st st' : List Tr} {n : Nd} (e : stepT st n = some st') : 1 ≤ n.k ∧ n.k ≤ 16 := by
  unfold stepT at e
  by_cases h1 : isLeafB n = true
  · have := leaf_range h1
    omega
  · rw [if_neg h1] at e
    match st, e with
    | [], e => cases e
    | [_], e => cases e
    | b :: a :: rest, e =>
      simp only at e
      by_cases h2 : isJointB n = true
      · have := joint_kind h2
        omega
      · rw [if_neg h2] at e
        cases e
theorem stack_kinds : ∀ (ns : List Nd) {st st' : List Tr}, stackT st ns = some st' → ∀ n ∈ ns, 1 ≤ n.k ∧ n.k ≤ 16
  | [], _, _, _ => fun n hn => by cases hn
  | m :: ns, st, st', e => by
    simp only [stackT] at e
    cases h1 : stepT st m with
    | none => rw [h1] at e; cases e
    | some st1 =>
      rw [h1] at e
      intro n hn
      rcases List.mem_cons.1 hn with rfl | hn
      · exact step_kind h1
      · exact stack_kinds ns e n hn
theorem tree_kinds {ns : List Nd} {t : Tr} (h : treeOf ns = some t) : ∀ n ∈ ns, 1 ≤ n.k ∧ n.k ≤ 16 := by
  unfold treeOf at h
  by_cases h1 : ns.length ≤ 400
  · rw [if_pos h1] at h
    cases hs : stackT [] ns with
    | none => rw [hs] at h; cases h
    | some st => exact stack_kinds ns hs
  · rw [if_neg h1] at h
    cases h
/-- How many nodes of each kind. -/
def cntK (ns : List Nd) : List Int := (List.range 16).map fun (j : Nat) => ((ns.filter fun n => decide (n.k = (j : Int) + 1)).length : Int)
theorem cntK_len (ns : List Nd) : (cntK ns).length = 16 := by simp [cntK]
theorem cntK_at {ns : List Nd} {j : Nat} (h : j < 16) : (cntK ns).getD j 0 = ((ns.filter fun n => decide (n.k = (j : Int) + 1)).length : Int) := by
  unfold cntK
  rw [map_getD _ _ _ (by simpa using h) 0, show (List.range 16).getD j 0 = j by rw [List.getD_eq_getElem?_getD]; simp [h]]
theorem cntK_nil : cntK [] = List.replicate 16 0 := by simp [cntK, List.range_succ]
theorem cntK_snoc {ns : List Nd} {n : Nd} (h1 : 1 ≤ n.k) (h2 : n.k ≤ 16) : (cntK ns).set (n.k - 1).toNat ((cntK ns).getD (n.k - 1).toNat 0 + 1) = cntK (ns ++ [n]) := by
  refine ext_getD 0 (by rw [List.length_set, cntK_len, cntK_len]) fun i hi => ?_
  rw [List.length_set, cntK_len] at hi
  rw [set_getD _ _ _ _ _ (by rw [cntK_len]; omega), cntK_at (by omega), cntK_at hi, cntK_at hi, List.filter_append]
  by_cases c : (n.k - 1).toNat = i
  · subst c
    rw [if_pos rfl]
    have e : decide (n.k = (((n.k - 1).toNat : Nat) : Int) + 1) = true := decide_eq_true (by omega)
    rw [List.filter_cons, e]
    simp
  · rw [if_neg c]
    have e : decide (n.k = (i : Int) + 1) = false := decide_eq_false (by omega)
    rw [List.filter_cons, e]
    simp
theorem cntK_bd (ns : List Nd) (j : Nat) : 0 ≤ (cntK ns).getD j 0 ∧ (cntK ns).getD j 0 ≤ ns.length := by
  by_cases h : j < 16
  · rw [cntK_at h]
    have := List.length_filter_le (fun n : Nd => decide (n.k = (j : Int) + 1)) ns
    omega
  · rw [List.getD_eq_getElem?_getD, List.getElem?_eq_none (by rw [cntK_len]; omega)]
    simp
end Go.Proofs.Ytdcgoeapgboclaa

/-! Lists of nodes as cells: three a node. -/
namespace Go.Proofs.Ytdcgoeapgboclaa
open Go Go.RowKit Go.Deep

def nd0 : Nd := ⟨0, 0, ByteArray.empty⟩
/-- The cells of a list of nodes. -/
def ncells : List Nd → List Value
  | [] => []
  | n :: ns => .int .i64 n.k :: .int .i64 n.v :: .string n.s :: ncells ns
theorem ncells_len : ∀ ns : List Nd, (ncells ns).length = ns.length * 3
  | [] => rfl
  | n :: ns => by
    simp only [ncells, List.length_cons, ncells_len ns]
    omega
theorem ncells_at : ∀ {ns : List Nd} {i : Nat}, i < ns.length → (ncells ns)[i * 3]? = some (.int .i64 (ns.getD i nd0).k) ∧ (ncells ns)[i * 3 + 1]? = some (.int .i64 (ns.getD i nd0).v) ∧ (ncells ns)[i * 3 + 2]? = some (.string (ns.getD i nd0).s)
  | n :: ns, 0, _ => ⟨rfl, rfl, rfl⟩
  | n :: ns, i + 1, h => by
    have ih := ncells_at (ns := ns) (i := i) (by simp at h; omega)
    simp only [ncells]
    rw [show (i + 1) * 3 = i * 3 + 1 + 1 + 1 by omega]
    simp only [List.getElem?_cons_succ, List.getD_cons_succ]
    exact ih
theorem ncells_app : ∀ a b : List Nd, ncells (a ++ b) = ncells a ++ ncells b
  | [], _ => rfl
  | n :: a, b => by
    simp only [List.cons_append, ncells, ncells_app a b]
theorem ncells_set : ∀ {ns : List Nd} {i : Nat} {x : Nd}, i < ns.length → (((ncells ns).set (i * 3) (.int .i64 x.k)).set (i * 3 + 1) (.int .i64 x.v)).set (i * 3 + 2) (.string x.s) = ncells (ns.set i x)
  | n :: ns, 0, x, _ => rfl
  | n :: ns, i + 1, x, h => by
    have ih := ncells_set (ns := ns) (i := i) (x := x) (by simp at h; omega)
    simp only [ncells, List.set_cons_succ]
    rw [show (i + 1) * 3 = i * 3 + 1 + 1 + 1 by omega]
    simp only [List.set_cons_succ]
    rw [ih]
theorem ncells_repl (n : Nat) : ncells (List.replicate n nd0) = (List.replicate n [Value.int .i64 0, .int .i64 0, .string ByteArray.empty]).flatten := by
  induction n with
  | zero => rfl
  | succ n ih =>
    rw [List.replicate_succ, List.replicate_succ, List.flatten_cons, ncells, ih]
    rfl
/-- How many values and letters. -/
def szNs (ns : List Nd) : Nat := ns.length + (ns.map fun n => n.s.size).sum
end Go.Proofs.Ytdcgoeapgboclaa
