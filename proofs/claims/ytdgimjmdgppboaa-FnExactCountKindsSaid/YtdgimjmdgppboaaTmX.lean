/- The model's three lists in a box; the lists' bounds. -/
import Derived.Test.YtdgimjmdgppboaaTmS
import Derived.Test.YtdgimjmdgppboaaTrN
import Derived.Test.YtdgimjmdgppboaaVecF
import Derived.Test.YtdgimjmdgppboaaRowCat
import Derived.Deep.AppendLies
namespace Go.Proofs.Ytdgimjmdgppboaa
set_option maxRecDepth 100000
open Go Go.RowKit Go.Deep

/-! ### Mathematics -/
/-- What is known of the lists behind the first k nodes. -/
def Sc.Good (X : Sc) (k : Nat) : Prop := X.len k ∧ ∀ q, q < k → 0 ≤ X.f.getD q 0 ∧ X.f.getD q 0 ≤ q ∧ 0 ≤ X.i.getD q 0 ∧ X.i.getD q 0 ≤ 12 ∧ 0 ≤ X.o.getD q 0 ∧ X.o.getD q 0 ≤ 12
theorem Sc.good_nil : Sc.nil.Good 0 := ⟨⟨rfl, rfl, rfl⟩, fun q hq => absurd hq (Nat.not_lt_zero q)⟩
theorem Sc.Good.push {X : Sc} {k : Nat} (h : X.Good k) {f i o : Int} (h0 : 0 ≤ f ∧ f ≤ k) (h1 : 0 ≤ i ∧ i ≤ 12) (h2 : 0 ≤ o ∧ o ≤ 12) : (X.push f i o).Good (k + 1) := by
  obtain ⟨hl, hg⟩ := h
  refine ⟨Sc.len_push hl _ _ _, fun q hq => ?_⟩
  obtain ⟨l1, l2, l3⟩ := hl
  by_cases e : q = k
  · subst e
    have e1 : (X.push f i o).f.getD q 0 = f := by show (X.f ++ [f]).getD q 0 = f; rw [← l1]; exact getD_snoc_r _ _
    have e2 : (X.push f i o).i.getD q 0 = i := by show (X.i ++ [i]).getD q 0 = i; rw [← l2]; exact getD_snoc_r _ _
    have e3 : (X.push f i o).o.getD q 0 = o := by show (X.o ++ [o]).getD q 0 = o; rw [← l3]; exact getD_snoc_r _ _
    rw [e1, e2, e3]
    exact ⟨h0.1, h0.2, h1.1, h1.2, h2.1, h2.2⟩
  · have e1 : (X.push f i o).f.getD q 0 = X.f.getD q 0 := getD_snoc_l (by omega)
    have e2 : (X.push f i o).i.getD q 0 = X.i.getD q 0 := getD_snoc_l (by omega)
    have e3 : (X.push f i o).o.getD q 0 = X.o.getD q 0 := getD_snoc_l (by omega)
    rw [e1, e2, e3]
    exact hg q (by omega)
theorem takeN_snoc {x : List Nd} {k : Nat} (h : k < x.length) : x.take (k + 1) = x.take k ++ [x.getD k nd0] := by
  rw [List.take_add_one, List.getD_eq_getElem?_getD, List.getElem?_eq_getElem h]
  rfl
/-- The next node. -/
theorem scan_next {x : List Nd} {k : Nat} {X : Sc} (h : k < x.length) (e : scanS .nil 0 (x.take k) = some X) : scanS .nil 0 (x.take (k + 1)) = stepS X k (x.getD k nd0) := by
  rw [takeN_snoc h, scanS_snoc, e]
  simp only [Option.bind_some, Nat.zero_add, List.length_take, Nat.min_eq_left (Nat.le_of_lt h)]
theorem scan_bad {x : List Nd} {k : Nat} {X : Sc} (h : k < x.length) (e : scanS .nil 0 (x.take k) = some X) (e2 : stepS X k (x.getD k nd0) = none) : okS x = false := by
  have e3 := scan_next h e
  rw [e2] at e3
  have e4 : scanS .nil 0 x = none := by
    conv => lhs; rw [← List.take_append_drop (k + 1) x, scanS_app, e3]
    rfl
  unfold okS
  rw [e4]
  simp
theorem scan_end {x : List Nd} {X : Sc} (h1 : 1 ≤ x.length) (h4 : x.length ≤ 400) (e : scanS .nil 0 x = some X) : okS x = decide (X.f.getD (x.length - 1) 0 = 0) := by
  unfold okS
  rw [e, decide_eq_true h1, decide_eq_true h4]
  rfl
/-! ### The box -/
abbrev tInfo : TypeId := 61
/-- A box of three rows of one's own in blocks from B on, each in a block of its own. -/
structure Box3 (w : World) (b B : Nat) (v0 v1 v2 : Value) (x0 x1 x2 : List Int) : Prop where
  box : CellsAt w b tInfo [v0, v1, v2]
  r0 : RowA w B v0 x0
  r1 : RowA w B v1 x1
  r2 : RowA w B v2 x2
  d01 : v0.ownBlock = none ∨ v0.ownBlock ≠ v1.ownBlock
  d02 : v0.ownBlock = none ∨ v0.ownBlock ≠ v2.ownBlock
  d12 : v1.ownBlock = none ∨ v1.ownBlock ≠ v2.ownBlock
  lt : b < B
theorem Box3.grown {w w' : World} {b B : Nat} {v0 v1 v2 : Value} {x0 x1 x2 : List Int} (h : Box3 w b B v0 v1 v2 x0 x1 x2) (hg : w.grownBy w' none) : Box3 w' b B v0 v1 v2 x0 x1 x2 :=
  ⟨h.box.of_block (hg.block _ h.box.lt (by simp)), h.r0.kept hg (by cases v0.ownBlock <;> simp), h.r1.kept hg (by cases v1.ownBlock <;> simp), h.r2.kept hg (by cases v2.ownBlock <;> simp), h.d01, h.d02, h.d12, h.lt⟩
theorem grown_of_below {w w' : World} (h : Below w.heap.size w w') : w.grownBy w' none := ⟨h.os, h.tape, h.output, h.size, fun k hk _ => h.block k hk⟩
theorem Box3.below {w w' : World} {b B : Nat} {v0 v1 v2 : Value} {x0 x1 x2 : List Int} (h : Box3 w b B v0 v1 v2 x0 x1 x2) (hb : Below w.heap.size w w') : Box3 w' b B v0 v1 v2 x0 x1 x2 := h.grown (grown_of_below hb)
theorem RowA.ne {w : World} {B k : Nat} {v : Value} {xs : List Int} (h : RowA w B v xs) (hk : w.heap.size ≤ k) : v.ownBlock ≠ some k := fun e => by have := (World.ownsRow.lt h k e).2; omega
theorem RowA.set {w : World} {b B : Nat} {v u : Value} {j : Nat} {xs : List Int} (h : RowA w B v xs) (hb : b < B) : RowA (w.setCell ⟨b, j, none⟩ u) B v xs := by
  refine World.ownsRow.kept (row := some b) h ⟨rfl, rfl, rfl, by simp, fun k _ hne => blk_setCell_other _ _ _ _ (fun e => hne (by rw [e]))⟩ ?_
  right
  intro e
  have := (World.ownsRow.lt h b e).1
  omega
/-- What a push leaves alone. -/
def Kp (b B : Nat) (w w' : World) : Prop := Touch (fun k => k = b ∨ B ≤ k) w w'
section
variable {w w' : World} {b B : Nat} {v0 v1 v2 : Value} {x0 x1 x2 : List Int} {a : Int} {g cap : Nat}
theorem kp_push {v : Value} {j : Nat} (hv : ∀ k, v.ownBlock = some k → B ≤ k) (hg : w.grownBy w' v.ownBlock) (u : Value) : Kp b B w (w'.setCell ⟨b, j, none⟩ u) := by
  exact Touch.setCell (S := fun k => k = b ∨ B ≤ k) (p := ⟨b, j, none⟩) ⟨hg.os, hg.tape, hg.output, hg.size, fun k hk hs => hg.block k hk (fun e => hs (Or.inr (hv k e.symm)))⟩ (Or.inl (Or.inl rfl)) u
theorem Box3.push0 (h : Box3 w b B v0 v1 v2 x0 x1 x2) (hown : w'.ownsRow B tI 1 (.slice (some ⟨g, 0, none⟩) (x0.length + 1) cap) (x0.length + 1) (icells x0 ++ [.int .i64 a])) (hg : w.grownBy w' v0.ownBlock) (hat : v0.ownBlock = some g ∨ g = w.heap.size) :
    Box3 (w'.setCell ⟨b, 0, none⟩ (.slice (some ⟨g, 0, none⟩) (x0.length + 1) cap)) b B (.slice (some ⟨g, 0, none⟩) (x0.length + 1) cap) v1 v2 (x0 ++ [a]) x1 x2 := by
  have hr : RowA w' B (.slice (some ⟨g, 0, none⟩) (x0.length + 1) cap) (x0 ++ [a]) := by unfold RowA; rw [List.length_append, List.length_singleton, icells_snoc]; exact hown
  have hb : w'.heap[b]? = w.heap[b]? := hg.block b h.box.lt (fun e => by have := (World.ownsRow.lt h.r0 b e.symm).1; have := h.lt; omega)
  have n1 : some g ≠ v1.ownBlock := by
    rcases hat with e | rfl
    · rw [← e]
      exact h.d01.resolve_left (by rw [e]; simp)
    · exact fun e => (h.r1.ne (Nat.le_refl _)) e.symm
  have n2 : some g ≠ v2.ownBlock := by
    rcases hat with e | rfl
    · rw [← e]
      exact h.d02.resolve_left (by rw [e]; simp)
    · exact fun e => (h.r2.ne (Nat.le_refl _)) e.symm
  have k1 : RowA w' B v1 x1 := h.r1.kept hg (by rcases h.d01 with e | e; (· by_cases e1 : v1.ownBlock = none; exact Or.inl e1; exact Or.inr (by rw [e]; exact e1)); exact Or.inr (fun e1 => e e1.symm))
  have k2 : RowA w' B v2 x2 := h.r2.kept hg (by rcases h.d02 with e | e; (· by_cases e1 : v2.ownBlock = none; exact Or.inl e1; exact Or.inr (by rw [e]; exact e1)); exact Or.inr (fun e1 => e e1.symm))
  exact ⟨(h.box.of_block hb).set 0 _, hr.set h.lt, k1.set h.lt, k2.set h.lt, Or.inr n1, Or.inr n2, h.d12, h.lt⟩
theorem Box3.push1 (h : Box3 w b B v0 v1 v2 x0 x1 x2) (hown : w'.ownsRow B tI 1 (.slice (some ⟨g, 0, none⟩) (x1.length + 1) cap) (x1.length + 1) (icells x1 ++ [.int .i64 a])) (hg : w.grownBy w' v1.ownBlock) (hat : v1.ownBlock = some g ∨ g = w.heap.size) :
    Box3 (w'.setCell ⟨b, 1, none⟩ (.slice (some ⟨g, 0, none⟩) (x1.length + 1) cap)) b B v0 (.slice (some ⟨g, 0, none⟩) (x1.length + 1) cap) v2 x0 (x1 ++ [a]) x2 := by
  have hr : RowA w' B (.slice (some ⟨g, 0, none⟩) (x1.length + 1) cap) (x1 ++ [a]) := by unfold RowA; rw [List.length_append, List.length_singleton, icells_snoc]; exact hown
  have hb : w'.heap[b]? = w.heap[b]? := hg.block b h.box.lt (fun e => by have := (World.ownsRow.lt h.r1 b e.symm).1; have := h.lt; omega)
  have n1 : v0.ownBlock ≠ some g := by
    rcases hat with e | rfl
    · rcases h.d01 with e2 | e2
      · rw [e2]; simp
      · rw [e] at e2; exact e2
    · exact h.r0.ne (Nat.le_refl _)
  have n2 : some g ≠ v2.ownBlock := by
    rcases hat with e | rfl
    · rw [← e]
      exact h.d12.resolve_left (by rw [e]; simp)
    · exact fun e => (h.r2.ne (Nat.le_refl _)) e.symm
  have k0 : RowA w' B v0 x0 := h.r0.kept hg h.d01
  have k2 : RowA w' B v2 x2 := h.r2.kept hg (by rcases h.d12 with e | e; (· by_cases e1 : v2.ownBlock = none; exact Or.inl e1; exact Or.inr (by rw [e]; exact e1)); exact Or.inr (fun e1 => e e1.symm))
  exact ⟨(h.box.of_block hb).set 1 _, k0.set h.lt, hr.set h.lt, k2.set h.lt, Or.inr n1, h.d02, Or.inr n2, h.lt⟩
theorem Box3.push2 (h : Box3 w b B v0 v1 v2 x0 x1 x2) (hown : w'.ownsRow B tI 1 (.slice (some ⟨g, 0, none⟩) (x2.length + 1) cap) (x2.length + 1) (icells x2 ++ [.int .i64 a])) (hg : w.grownBy w' v2.ownBlock) (hat : v2.ownBlock = some g ∨ g = w.heap.size) :
    Box3 (w'.setCell ⟨b, 2, none⟩ (.slice (some ⟨g, 0, none⟩) (x2.length + 1) cap)) b B v0 v1 (.slice (some ⟨g, 0, none⟩) (x2.length + 1) cap) x0 x1 (x2 ++ [a]) := by
  have hr : RowA w' B (.slice (some ⟨g, 0, none⟩) (x2.length + 1) cap) (x2 ++ [a]) := by unfold RowA; rw [List.length_append, List.length_singleton, icells_snoc]; exact hown
  have hb : w'.heap[b]? = w.heap[b]? := hg.block b h.box.lt (fun e => by have := (World.ownsRow.lt h.r2 b e.symm).1; have := h.lt; omega)
  have n1 : v0.ownBlock ≠ some g := by
    rcases hat with e | rfl
    · rcases h.d02 with e2 | e2
      · rw [e2]; simp
      · rw [e] at e2; exact e2
    · exact h.r0.ne (Nat.le_refl _)
  have n2 : v1.ownBlock ≠ some g := by
    rcases hat with e | rfl
    · rcases h.d12 with e2 | e2
      · rw [e2]; simp
      · rw [e] at e2; exact e2
    · exact h.r1.ne (Nat.le_refl _)
  have k0 : RowA w' B v0 x0 := h.r0.kept hg h.d02
  have k1 : RowA w' B v1 x1 := h.r1.kept hg h.d12
  exact ⟨(h.box.of_block hb).set 2 _, k0.set h.lt, k1.set h.lt, hr.set h.lt, h.d01, Or.inr n1, Or.inr n2, h.lt⟩
end
theorem cells3 {w : World} {b : Nat} {ty : TypeId} {v0 v1 v2 : Value} (h : CellsAt w b ty [v0, v1, v2]) : w.cell? ⟨b, 0, none⟩ = some v0 ∧ w.cell? ⟨b, 1, none⟩ = some v1 ∧ w.cell? ⟨b, 2, none⟩ = some v2 ∧ w.frozen? ⟨b, 0, none⟩ = false ∧ w.frozen? ⟨b, 1, none⟩ = false ∧ w.frozen? ⟨b, 2, none⟩ = false ∧ b < w.heap.size :=
  ⟨h.cell (i := 0) (by simp), h.cell (i := 1) (by simp), h.cell (i := 2) (by simp), h.frozen 0, h.frozen 1, h.frozen 2, h.lt⟩
/-- The box is as it was while a row grows. -/
theorem Box3.keep {w w' : World} {b B : Nat} {v0 v1 v2 v : Value} {x0 x1 x2 xs : List Int} (h : Box3 w b B v0 v1 v2 x0 x1 x2) (hr : RowA w B v xs) (hg : w.grownBy w' v.ownBlock) : CellsAt w' b tInfo [v0, v1, v2] :=
  h.box.of_block (hg.block b h.box.lt (fun e => by have := (World.ownsRow.lt hr b e.symm).1; have := h.lt; omega))
theorem Box3.alloc {w : World} {b B : Nat} {v0 v1 v2 : Value} {x0 x1 x2 : List Int} (h : Box3 w b B v0 v1 v2 x0 x1 x2) (o : Obj) : Box3 (w.alloc o) b B v0 v1 v2 x0 x1 x2 := h.grown (World.grownBy_alloc w o none)
theorem Box3.drew {w : World} {b B : Nat} {v0 v1 v2 : Value} {x0 x1 x2 : List Int} (h : Box3 w b B v0 v1 v2 x0 x1 x2) : Box3 w.drew b B v0 v1 v2 x0 x1 x2 := h.grown ⟨rfl, rfl, rfl, Nat.le_refl _, fun _ _ _ => rfl⟩
section
variable {ops : Array Oper} {rest : List Oper} {o : Oper} {a : Act} {Q : Exit → Act → World → Prop}
theorem wpList_pushI (hgd : o.guard = none) (s x : Operand) (ho : o.op = .call { callee := .builtin .append, args := #[s, x], argTypes := #[34, 34] }) (w : World) (B : Nat) (v : Value) (xs : List Int) (y : Int) (b c : Nat)
    (hs : a.eval s = v) (hown : RowA w B v xs) (hx : a.eval x = .slice (some ⟨b, 0, none⟩) 1 c) (hc : w.cell? ⟨b, 0, none⟩ = some (.int .i64 y)) (hB : B ≤ w.heap.size) (hn : xs.length + 1 ≤ 1000000)
    (h : ∀ g cap w', w'.ownsRow B tI 1 (.slice (some ⟨g, 0, none⟩) (xs.length + 1) cap) (xs.length + 1) (icells xs ++ [.int .i64 y]) → w.grownBy w' v.ownBlock → (v.ownBlock = some g ∨ g = w.heap.size) → wpList Try.prog ops Q rest (a.put o.dst (.slice (some ⟨g, 0, none⟩) (xs.length + 1) cap)) w') : wpList Try.prog ops Q (o :: rest) a w := by
  obtain ⟨i0, hi0, hz0, hz1, hz2⟩ := info_parts infoI
  refine wpList_append_lies w hgd s x _ ho B tI i0 _ 1 8 Try.underlying34 hi0 hz0 hz1 hz2 rfl (by omega) v xs.length (icells xs) hs hown ⟨b, 0, none⟩ 1 c [.int .i64 y] hx rfl (fun j u hj => ?_) (fun u hu => ?_) (by omega) (by unfold maxLen; omega) (by omega) hB _ rfl (fun g cap w' h1 h2 h3 _ => h g cap w' h1 h2 h3)
  · match j, hj with
    | 0, hj =>
      simp at hj
      subst hj
      simpa [Addr.add] using hc
  · simp at hu
    subst hu
    rfl
theorem step_pushI {K : Act → World → Prop} {E : Prop} (hgd : o.guard = none) (s x : Operand) (ho : o.op = .call { callee := .builtin .append, args := #[s, x], argTypes := #[34, 34] }) (w : World) (B : Nat) (v : Value) (xs : List Int) (y : Int) (b c : Nat)
    (hs : a.eval s = v) (hown : RowA w B v xs) (hx : a.eval x = .slice (some ⟨b, 0, none⟩) 1 c) (hc : w.cell? ⟨b, 0, none⟩ = some (.int .i64 y)) (hB : B ≤ w.heap.size) (hn : xs.length + 1 ≤ 1000000)
    (h : ∀ g cap w', w'.ownsRow B tI 1 (.slice (some ⟨g, 0, none⟩) (xs.length + 1) cap) (xs.length + 1) (icells xs ++ [.int .i64 y]) → w.grownBy w' v.ownBlock → (v.ownBlock = some g ∨ g = w.heap.size) → K (a.put o.dst (.slice (some ⟨g, 0, none⟩) (xs.length + 1) cap)) w') : if Region.wanted o (yielded ops a.tmps) = true then Oper.wp Try.prog o a w K Q else E := by
  obtain ⟨i0, hi0, hz0, hz1, hz2⟩ := info_parts infoI
  refine step_append_lies w hgd s x _ ho B tI i0 _ 1 8 Try.underlying34 hi0 hz0 hz1 hz2 rfl (by omega) v xs.length (icells xs) hs hown ⟨b, 0, none⟩ 1 c [.int .i64 y] hx rfl (fun j u hj => ?_) (fun u hu => ?_) (by omega) (by unfold maxLen; omega) (by omega) hB _ rfl (fun g cap w' h1 h2 h3 _ => h g cap w' h1 h2 h3)
  · match j, hj with
    | 0, hj =>
      simp at hj
      subst hj
      simpa [Addr.add] using hc
  · simp at hu
    subst hu
    rfl
end
end Go.Proofs.Ytdgimjmdgppboaa
