/- Diagram terms: nodes in postfix order, trees, the model's lists. Plain mathematics. -/
import Derived.Test.YtdgimjmdgppboaaUpd
namespace Go.Proofs.Ytdgimjmdgppboaa
set_option maxRecDepth 100000
/-- A node: kind, value, name. -/
structure Nd where
  k : Int
  v : Int
  s : ByteArray
/-- A tree of a valid term; each part bears its numbers of wires. -/
inductive Tr where
  | leaf (n : Nd) (i o : Int)
  | seq (a b : Tr) (i o : Int)
  | par (a b : Tr) (i o : Int)
namespace Tr
def inw : Tr → Int
  | leaf _ i _ => i
  | seq _ _ i _ => i
  | par _ _ i _ => i
def outw : Tr → Int
  | leaf _ _ o => o
  | seq _ _ _ o => o
  | par _ _ _ o => o
end Tr
def greatest (k : Int) : Int := if k = 1 then 12 else if k = 7 ∨ k = 13 then 96 else 0
def isLeafB (n : Nd) : Bool := decide (1 ≤ n.k) && decide (n.k ≤ 14) && decide (0 ≤ n.v) && decide (n.v ≤ greatest n.k) && decide (n.s = ByteArray.empty)
def isJointB (n : Nd) : Bool := (decide (n.k = 15) || decide (n.k = 16)) && decide (n.v = 0) && decide (n.s = ByteArray.empty)
/-- The wires of a leaf: in, out. -/
def leafW (n : Nd) : Int × Int :=
  if n.k = 1 then (n.v, n.v) else if n.k = 2 then (2, 2) else if n.k = 3 ∨ n.k = 11 then (1, 2) else if n.k = 5 ∨ n.k = 9 then (2, 1)
  else if n.k = 4 ∨ n.k = 12 then (1, 0) else if n.k = 6 ∨ n.k = 10 then (0, 1) else (1, 1)
theorem leafW_bd {n : Nd} (h : isLeafB n = true) : 0 ≤ (leafW n).1 ∧ (leafW n).1 ≤ 12 ∧ 0 ≤ (leafW n).2 ∧ (leafW n).2 ≤ 12 := by
  unfold isLeafB greatest at h
  simp at h
  unfold leafW
  by_cases h1 : n.k = 1
  · simp only [h1, if_true] at h ⊢
    omega
  · rw [if_neg h1]
    repeat' split
    all_goals simp
def joinT (k : Int) (a b : Tr) : Option Tr :=
  if k = 15 then (if a.outw = b.inw then some (.seq a b a.inw b.outw) else none)
  else if a.inw + b.inw ≤ 12 ∧ a.outw + b.outw ≤ 12 then some (.par a b (a.inw + b.inw) (a.outw + b.outw)) else none
/-- What a node makes of the trees before it, the last one first. -/
def stepT (st : List Tr) (n : Nd) : Option (List Tr) :=
  if isLeafB n then some (.leaf n (leafW n).1 (leafW n).2 :: st)
  else match st with
    | b :: a :: rest => if isJointB n then (joinT n.k a b).map (· :: rest) else none
    | _ => none
def stackT (st : List Tr) : List Nd → Option (List Tr)
  | [] => some st
  | n :: ns => (stepT st n).bind fun st' => stackT st' ns
theorem stackT_snoc : ∀ (ns : List Nd) (st : List Tr) (n : Nd), stackT st (ns ++ [n]) = (stackT st ns).bind fun st' => stepT st' n
  | [], st, n => by
    simp only [List.nil_append, stackT, Option.bind_some]
    cases stepT st n <;> rfl
  | m :: ns, st, n => by
    simp only [List.cons_append, stackT]
    cases stepT st m with
    | none => rfl
    | some st' => exact stackT_snoc ns st' n
/-- The tree of a term. -/
def treeOf (ns : List Nd) : Option Tr :=
  if ns.length ≤ 400 then (match stackT [] ns with
    | some [t] => some t
    | _ => none) else none
/-- All trees have at most 12 wires at each side. -/
def Fits (t : Tr) : Prop := 0 ≤ t.inw ∧ t.inw ≤ 12 ∧ 0 ≤ t.outw ∧ t.outw ≤ 12
theorem stepT_fits {st st' : List Tr} {n : Nd} (h : ∀ t ∈ st, Fits t) (e : stepT st n = some st') : ∀ t ∈ st', Fits t := by
  unfold stepT at e
  by_cases h1 : isLeafB n = true
  · rw [if_pos h1] at e
    obtain rfl := Option.some.inj e
    intro t ht
    rcases List.mem_cons.1 ht with rfl | ht
    · exact leafW_bd h1
    · exact h t ht
  · rw [if_neg h1] at e
    match st, h, e with
    | [], _, e => cases e
    | [_], _, e => cases e
    | b :: a :: rest, h, e =>
      simp only at e
      by_cases h2 : isJointB n = true
      · rw [if_pos h2] at e
        cases h3 : joinT n.k a b with
        | none => rw [h3] at e; cases e
        | some t =>
          rw [h3] at e
          obtain rfl := Option.some.inj e
          have ha := h a (by simp)
          have hb := h b (by simp)
          intro u hu
          rcases List.mem_cons.1 hu with rfl | hu
          · unfold joinT at h3
            split at h3
            · split at h3
              · obtain rfl := Option.some.inj h3
                exact ⟨ha.1, ha.2.1, hb.2.2.1, hb.2.2.2⟩
              · cases h3
            · split at h3
              · rename_i h4
                obtain rfl := Option.some.inj h3
                obtain ⟨a1, a2, a3, a4⟩ := ha
                obtain ⟨b1, b2, b3, b4⟩ := hb
                exact ⟨by show 0 ≤ a.inw + b.inw; omega, h4.1, by show 0 ≤ a.outw + b.outw; omega, h4.2⟩
              · cases h3
          · exact h u (by simp [hu])
      · rw [if_neg h2] at e
        cases e
/-! ### The model's lists: for each node the first node of the part that ends there, and the part's wires -/
structure Sc where
  f : List Int
  i : List Int
  o : List Int
/-- The trees end one behind another, the last one at e. -/
def Chain (x : Sc) : Nat → List Tr → Prop
  | e, [] => e = 0
  | e, t :: ts => ∃ g : Nat, g < e ∧ x.f.getD (e - 1) 0 = g ∧ x.i.getD (e - 1) 0 = t.inw ∧ x.o.getD (e - 1) 0 = t.outw ∧ Chain x g ts
def Sc.push (x : Sc) (f i o : Int) : Sc := ⟨x.f ++ [f], x.i ++ [i], x.o ++ [o]⟩
theorem getD_snoc_l {l : List Int} {a : Int} {j : Nat} (h : j < l.length) : (l ++ [a]).getD j 0 = l.getD j 0 := by
  rw [List.getD_eq_getElem?_getD, List.getD_eq_getElem?_getD, List.getElem?_append_left h]
theorem getD_snoc_r (l : List Int) (a : Int) : (l ++ [a]).getD l.length 0 = a := by
  rw [List.getD_eq_getElem?_getD, List.getElem?_append_right (Nat.le_refl _)]
  simp
/-- Each list has n elements. -/
def Sc.len (x : Sc) (n : Nat) : Prop := x.f.length = n ∧ x.i.length = n ∧ x.o.length = n
theorem Sc.len_push {x : Sc} {n : Nat} (h : x.len n) (f i o : Int) : (x.push f i o).len (n + 1) := by
  obtain ⟨h1, h2, h3⟩ := h
  exact ⟨by simp [Sc.push, h1], by simp [Sc.push, h2], by simp [Sc.push, h3]⟩
theorem Chain.push {x : Sc} {n : Nat} (hl : x.len n) (f i o : Int) : ∀ {e : Nat} {st : List Tr}, e ≤ n → Chain x e st → Chain (x.push f i o) e st
  | _, [], _, h => h
  | e, t :: ts, he, ⟨g, h1, h2, h3, h4, h5⟩ => by
    obtain ⟨l1, l2, l3⟩ := hl
    exact ⟨g, h1, by rw [← h2]; exact getD_snoc_l (by omega), by rw [← h3]; exact getD_snoc_l (by omega), by rw [← h4]; exact getD_snoc_l (by omega), Chain.push ⟨l1, l2, l3⟩ f i o (by omega) h5⟩
/-- One more part at the end. -/
theorem Chain.add {x : Sc} {n g : Nat} {st : List Tr} (hl : x.len n) {t : Tr} (hg : g ≤ n) (h : Chain x g st) : Chain (x.push g t.inw t.outw) (n + 1) (t :: st) := by
  obtain ⟨l1, l2, l3⟩ := hl
  refine ⟨g, by omega, ?_, ?_, ?_, Chain.push ⟨l1, l2, l3⟩ _ _ _ hg h⟩
  · show (x.f ++ [(g : Int)]).getD (n + 1 - 1) 0 = g
    rw [← l1]
    exact getD_snoc_r _ _
  · show (x.i ++ [t.inw]).getD (n + 1 - 1) 0 = _
    rw [← l2]
    exact getD_snoc_r _ _
  · show (x.o ++ [t.outw]).getD (n + 1 - 1) 0 = _
    rw [← l3]
    exact getD_snoc_r _ _
theorem Chain.pos {x : Sc} {e : Nat} {t : Tr} {ts : List Tr} (h : Chain x e (t :: ts)) : 0 < e := by
  obtain ⟨g, h1, _⟩ := h
  omega
theorem Chain.nil_iff {x : Sc} {e : Nat} {st : List Tr} (h : Chain x e st) : e = 0 ↔ st = [] := by
  cases st with
  | nil => exact ⟨fun _ => rfl, fun _ => h⟩
  | cons t ts => exact ⟨fun e => absurd e (by have := h.pos; omega), fun e => by cases e⟩
/-- What the model makes of its lists at the node number j. -/
def stepS (x : Sc) (j : Nat) (n : Nd) : Option Sc :=
  if isLeafB n then some (x.push j (leafW n).1 (leafW n).2)
  else if isJointB n = true ∧ 2 ≤ j ∧ 1 ≤ x.f.getD (j - 1) 0 then
    (if n.k = 15 then
      (if x.o.getD (x.f.getD (j - 1) 0 - 1).toNat 0 = x.i.getD (j - 1) 0 then some (x.push (x.f.getD (x.f.getD (j - 1) 0 - 1).toNat 0) (x.i.getD (x.f.getD (j - 1) 0 - 1).toNat 0) (x.o.getD (j - 1) 0)) else none)
    else (if x.i.getD (x.f.getD (j - 1) 0 - 1).toNat 0 + x.i.getD (j - 1) 0 ≤ 12 ∧ x.o.getD (x.f.getD (j - 1) 0 - 1).toNat 0 + x.o.getD (j - 1) 0 ≤ 12 then
      some (x.push (x.f.getD (x.f.getD (j - 1) 0 - 1).toNat 0) (x.i.getD (x.f.getD (j - 1) 0 - 1).toNat 0 + x.i.getD (j - 1) 0) (x.o.getD (x.f.getD (j - 1) 0 - 1).toNat 0 + x.o.getD (j - 1) 0)) else none))
  else none
theorem joint_kind {n : Nd} (h : isJointB n = true) : n.k = 15 ∨ n.k = 16 := by
  unfold isJointB at h
  simp at h
  exact h.1.1
/-- The trees and the lists go together: a step that succeeds. -/
theorem step_some {x : Sc} {j : Nat} {st st' : List Tr} {n : Nd} (hl : x.len j) (hc : Chain x j st) (e : stepT st n = some st') : ∃ x', stepS x j n = some x' ∧ x'.len (j + 1) ∧ Chain x' (j + 1) st' := by
  unfold stepT at e
  unfold stepS
  by_cases h1 : isLeafB n = true
  · rw [if_pos h1] at e ⊢
    obtain rfl := Option.some.inj e
    exact ⟨_, rfl, Sc.len_push hl _ _ _, Chain.add (t := .leaf n (leafW n).1 (leafW n).2) hl (Nat.le_refl _) hc⟩
  · rw [if_neg h1] at e ⊢
    match st, hc, e with
    | [], _, e => cases e
    | [_], _, e => cases e
    | b :: a :: rest, hc, e =>
      simp only at e
      by_cases h2 : isJointB n = true
      · rw [if_pos h2] at e
        obtain ⟨g, g1, g2, g3, g4, hc2⟩ := hc
        obtain ⟨q, q1, q2, q3, q4, hc3⟩ := hc2
        have e1 : (x.f.getD (j - 1) 0 - 1).toNat = g - 1 := by omega
        rw [if_pos ⟨h2, by omega, by omega⟩, e1, g3, g4, q2, q3, q4]
        cases h3 : joinT n.k a b with
        | none => rw [h3] at e; cases e
        | some t =>
          rw [h3] at e
          obtain rfl := Option.some.inj e
          unfold joinT at h3
          by_cases h4 : n.k = 15
          · rw [if_pos h4] at h3 ⊢
            by_cases h5 : a.outw = b.inw
            · rw [if_pos h5] at h3 ⊢
              obtain rfl := Option.some.inj h3
              exact ⟨_, rfl, Sc.len_push hl _ _ _, Chain.add (t := .seq a b a.inw b.outw) hl (by omega) hc3⟩
            · rw [if_neg h5] at h3
              cases h3
          · rw [if_neg h4] at h3 ⊢
            by_cases h5 : a.inw + b.inw ≤ 12 ∧ a.outw + b.outw ≤ 12
            · rw [if_pos h5] at h3 ⊢
              obtain rfl := Option.some.inj h3
              exact ⟨_, rfl, Sc.len_push hl _ _ _, Chain.add (t := .par a b (a.inw + b.inw) (a.outw + b.outw)) hl (by omega) hc3⟩
            · rw [if_neg h5] at h3
              cases h3
      · rw [if_neg h2] at e
        cases e
/-- A step that fails. -/
theorem step_none {x : Sc} {j : Nat} {st : List Tr} {n : Nd} (hc : Chain x j st) (e : stepT st n = none) : stepS x j n = none := by
  unfold stepT at e
  unfold stepS
  by_cases h1 : isLeafB n = true
  · rw [if_pos h1] at e
    cases e
  · rw [if_neg h1] at e ⊢
    match st, hc, e with
    | [], hc, _ =>
      have h0 : j = 0 := hc
      rw [if_neg (by omega)]
    | [b], hc, _ =>
      obtain ⟨g, g1, g2, g3, g4, hc2⟩ := hc
      have h0 : g = 0 := hc2
      rw [if_neg (by omega)]
    | b :: a :: rest, hc, e =>
      simp only at e
      by_cases h2 : isJointB n = true
      · rw [if_pos h2] at e
        obtain ⟨g, g1, g2, g3, g4, hc2⟩ := hc
        obtain ⟨q, q1, q2, q3, q4, hc3⟩ := hc2
        have e1 : (x.f.getD (j - 1) 0 - 1).toNat = g - 1 := by omega
        rw [if_pos ⟨h2, by omega, by omega⟩, e1, g3, g4, q2, q3, q4]
        have h3 : joinT n.k a b = none := by
          cases h3 : joinT n.k a b with
          | none => rfl
          | some t => rw [h3] at e; cases e
        unfold joinT at h3
        by_cases h4 : n.k = 15
        · rw [if_pos h4] at h3 ⊢
          by_cases h5 : a.outw = b.inw
          · rw [if_pos h5] at h3
            cases h3
          · rw [if_neg h5]
        · rw [if_neg h4] at h3 ⊢
          by_cases h5 : a.inw + b.inw ≤ 12 ∧ a.outw + b.outw ≤ 12
          · rw [if_pos h5] at h3
            cases h3
          · rw [if_neg h5]
      · rw [if_neg (fun h => h2 h.1)]
/-- All nodes. -/
def scanS (x : Sc) (j : Nat) : List Nd → Option Sc
  | [] => some x
  | n :: ns => (stepS x j n).bind fun x' => scanS x' (j + 1) ns
def Sc.nil : Sc := ⟨[], [], []⟩
theorem scan_both : ∀ (ns : List Nd) {x : Sc} {j : Nat} {st : List Tr}, x.len j → Chain x j st →
    (∀ st', stackT st ns = some st' → ∃ x', scanS x j ns = some x' ∧ x'.len (j + ns.length) ∧ Chain x' (j + ns.length) st') ∧ (stackT st ns = none → scanS x j ns = none)
  | [], x, j, st, hl, hc => ⟨fun st' e => ⟨x, rfl, hl, by obtain rfl := Option.some.inj e; exact hc⟩, fun e => by cases e⟩
  | n :: ns, x, j, st, hl, hc => by
    simp only [stackT, scanS]
    cases h : stepT st n with
    | none =>
      rw [step_none hc h]
      exact ⟨(fun _ e => by cases e), fun _ => rfl⟩
    | some st1 =>
      obtain ⟨x1, h1, h2, h3⟩ := step_some hl hc h
      rw [h1]
      have ih := scan_both ns h2 h3
      refine ⟨fun st' e => ?_, fun e => ih.2 e⟩
      obtain ⟨x', e1, e2, e3⟩ := ih.1 st' e
      exact ⟨x', e1, by rw [List.length_cons, show j + (ns.length + 1) = j + 1 + ns.length by omega]; exact e2, by rw [List.length_cons, show j + (ns.length + 1) = j + 1 + ns.length by omega]; exact e3⟩
theorem scanS_snoc : ∀ (ns : List Nd) (x : Sc) (j : Nat) (n : Nd), scanS x j (ns ++ [n]) = (scanS x j ns).bind fun x' => stepS x' (j + ns.length) n
  | [], x, j, n => by
    simp only [List.nil_append, scanS, Option.bind_some, List.length_nil, Nat.add_zero]
    cases stepS x j n <;> rfl
  | m :: ns, x, j, n => by
    simp only [List.cons_append, scanS]
    cases stepS x j m with
    | none => rfl
    | some x' =>
      simp only [Option.bind_some]
      rw [scanS_snoc ns x' (j + 1) n, List.length_cons, show j + 1 + ns.length = j + (ns.length + 1) by omega]
/-- The model's answer: whether the term is valid, and the lists. -/
def okS (ns : List Nd) : Bool := decide (1 ≤ ns.length) && decide (ns.length ≤ 400) && (match scanS .nil 0 ns with
  | some x => decide (x.f.getD (ns.length - 1) 0 = 0)
  | none => false)
/-- Both say the same of a term. -/
theorem ok_both (ns : List Nd) : okS ns = (treeOf ns).isSome := by
  have h0 : Sc.nil.len 0 := ⟨rfl, rfl, rfl⟩
  have hb := scan_both ns h0 (show Chain .nil 0 [] from rfl)
  unfold okS treeOf
  by_cases h1 : ns.length ≤ 400
  · rw [if_pos h1, decide_eq_true h1, Bool.and_true]
    cases h : stackT [] ns with
    | none =>
      rw [hb.2 h]
      simp
    | some st =>
      obtain ⟨x, e1, e2, e3⟩ := hb.1 st h
      rw [e1]
      rw [Nat.zero_add] at e2 e3
      match st, h, e3 with
      | [], _, e3 =>
        have h2 : ns.length = 0 := e3
        simp [h2]
      | [t], _, e3 =>
        obtain ⟨g, g1, g2, _, _, g5⟩ := e3
        have h2 : g = 0 := g5
        subst h2
        simp only [Option.isSome_some]
        rw [g2]
        simp
        omega
      | t :: u :: r, _, e3 =>
        obtain ⟨g, g1, g2, _, _, g5⟩ := e3
        have h2 := g5.pos
        simp only [Option.isSome_none]
        rw [g2]
        simp
        omega
  · rw [if_neg h1, decide_eq_false h1]
    simp
/-- Of a valid term the lists' last elements are the tree's wires. -/
theorem ty_both {ns : List Nd} {t : Tr} (h : treeOf ns = some t) : ∃ x, scanS .nil 0 ns = some x ∧ x.len ns.length ∧ 1 ≤ ns.length ∧ ns.length ≤ 400 ∧ x.i.getD (ns.length - 1) 0 = t.inw ∧ x.o.getD (ns.length - 1) 0 = t.outw := by
  have h0 : Sc.nil.len 0 := ⟨rfl, rfl, rfl⟩
  have hb := scan_both ns h0 (show Chain .nil 0 [] from rfl)
  unfold treeOf at h
  by_cases h1 : ns.length ≤ 400
  · rw [if_pos h1] at h
    cases hs : stackT [] ns with
    | none => rw [hs] at h; cases h
    | some st =>
      rw [hs] at h
      obtain ⟨x, e1, e2, e3⟩ := hb.1 st hs
      rw [Nat.zero_add] at e2 e3
      match st, h, e3 with
      | [u], h, e3 =>
        obtain rfl := Option.some.inj h
        have h2 := e3.pos
        obtain ⟨g, g1, g2, g3, g4, _⟩ := e3
        exact ⟨x, e1, e2, by omega, h1, g3, g4⟩
      | [], h, _ => cases h
      | _ :: _ :: _, h, _ => cases h
  · rw [if_neg h1] at h
    cases h
end Go.Proofs.Ytdgimjmdgppboaa
