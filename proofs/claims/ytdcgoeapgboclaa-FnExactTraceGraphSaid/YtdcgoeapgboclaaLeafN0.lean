/- LeafN LeafT in one text. -/
import Derived.Test.YtdcgoeapgboclaaLeaf
import Derived.Test.YtdcgoeapgboclaaTr
import Derived.Deep.RegionHeld3
import Derived.Laws.BytesArg
/-! Lists of nodes that came in, or are the call's own; what the laws' helpers do with them. -/
namespace Go.Proofs.Ytdcgoeapgboclaa
set_option maxRecDepth 100000
open Go Go.RowKit Go.Deep

abbrev tNd : TypeId := 68
/-- A node as a value. -/
def ndV (n : Nd) : Value := .agg #[.int .i64 n.k, .int .i64 n.v, .string n.s]
/-- The slice v reads as the nodes xs. -/
def RdN (w : World) (S : Nat → Prop) (v : Value) (xs : List Nd) : Prop :=
  ∃ A c, v = .slice A xs.length c ∧ xs.length ≤ c ∧ ∀ k, k < xs.length → ∃ b o, A = some ⟨b, o, none⟩ ∧ S b ∧ w.cell? ⟨b, o + k * 3, none⟩ = some (.int .i64 (xs.getD k nd0).k) ∧ w.cell? ⟨b, o + k * 3 + 1, none⟩ = some (.int .i64 (xs.getD k nd0).v) ∧ w.cell? ⟨b, o + k * 3 + 2, none⟩ = some (.string (xs.getD k nd0).s)
/-- The slice v is the call's own, of the nodes xs. -/
def OwN (w : World) (S : Nat → Prop) (v : Value) (xs : List Nd) : Prop :=
  ∃ A c, v = .slice A xs.length c ∧ xs.length ≤ c ∧ (xs = [] ∨ ∃ b, A = some ⟨b, 0, none⟩ ∧ S b ∧ CellsAt w b tNd (ncells xs))
theorem RdN.mono {w : World} {S T : Nat → Prop} {v : Value} {xs : List Nd} (h : RdN w S v xs) (hs : ∀ k, S k → T k) : RdN w T v xs := by
  obtain ⟨A, c, e, hc, h⟩ := h
  refine ⟨A, c, e, hc, fun k hk => ?_⟩
  obtain ⟨b, o, e2, h3, h4⟩ := h k hk
  exact ⟨b, o, e2, hs b h3, h4⟩
theorem RdN.blocks {w w' : World} {S : Nat → Prop} {v : Value} {xs : List Nd} (h : RdN w S v xs) (hb : ∀ k, S k → w'.heap[k]? = w.heap[k]?) : RdN w' S v xs := by
  obtain ⟨A, c, e, hc, h⟩ := h
  refine ⟨A, c, e, hc, fun k hk => ?_⟩
  obtain ⟨b, o, e2, h3, h4, h5, h6⟩ := h k hk
  exact ⟨b, o, e2, h3, (World.cell?_of_block (w := w) (hb b h3)).trans h4, (World.cell?_of_block (w := w) (hb b h3)).trans h5, (World.cell?_of_block (w := w) (hb b h3)).trans h6⟩
theorem RdN.below {w w' : World} {B B' : Nat} {v : Value} {xs : List Nd} (h : RdN w (fun b => b < B) v xs) (hb : Below B' w w') (hB : B ≤ B') : RdN w' (fun b => b < B) v xs :=
  h.blocks fun k hk => hb.block k (Nat.lt_of_lt_of_le hk hB)
theorem RdN.len {w : World} {S : Nat → Prop} {v : Value} {xs : List Nd} (h : RdN w S v xs) : ∃ A c, v = .slice A xs.length c := by
  obtain ⟨A, c, e, _⟩ := h
  exact ⟨A, c, e⟩
theorem RdN.at {w : World} {S : Nat → Prop} {A : Option Addr} {n c : Nat} {xs : List Nd} (h : RdN w S (.slice A n c) xs) {k : Nat} (hk : k < xs.length) :
    ∃ b o, A = some ⟨b, o, none⟩ ∧ S b ∧ w.cell? ⟨b, o + k * 3, none⟩ = some (.int .i64 (xs.getD k nd0).k) ∧ w.cell? ⟨b, o + k * 3 + 1, none⟩ = some (.int .i64 (xs.getD k nd0).v) ∧ w.cell? ⟨b, o + k * 3 + 2, none⟩ = some (.string (xs.getD k nd0).s) := by
  obtain ⟨A', c', e, _, h⟩ := h
  obtain ⟨b, o, e2, h3⟩ := h k hk
  obtain ⟨rfl, -, -⟩ := sliceEq e
  exact ⟨b, o, e2, h3⟩
theorem OwN.len {w : World} {S : Nat → Prop} {v : Value} {xs : List Nd} (h : OwN w S v xs) : ∃ A c, v = .slice A xs.length c := by
  obtain ⟨A, c, e, _⟩ := h
  exact ⟨A, c, e⟩
theorem OwN.mono {w : World} {S T : Nat → Prop} {v : Value} {xs : List Nd} (h : OwN w S v xs) (hs : ∀ k, S k → k < w.heap.size → T k) : OwN w T v xs := by
  obtain ⟨A, c, e, hc, h⟩ := h
  refine ⟨A, c, e, hc, ?_⟩
  rcases h with h | ⟨b, e2, h3, h4⟩
  · exact Or.inl h
  · exact Or.inr ⟨b, e2, hs b h3 h4.lt, h4⟩
theorem OwN.blocks {w w' : World} {S : Nat → Prop} {v : Value} {xs : List Nd} (h : OwN w S v xs) (hb : ∀ k, S k → k < w.heap.size → w'.heap[k]? = w.heap[k]?) : OwN w' S v xs := by
  obtain ⟨A, c, e, hc, h⟩ := h
  refine ⟨A, c, e, hc, ?_⟩
  rcases h with h | ⟨b, e2, h3, h4⟩
  · exact Or.inl h
  · exact Or.inr ⟨b, e2, h3, h4.of_block (hb b h3 h4.lt)⟩
theorem OwN.readB {w : World} {S : Nat → Prop} {v : Value} {xs : List Nd} (h : OwN w S v xs) : RdN w (fun b => b < w.heap.size) v xs := by
  obtain ⟨A, c, e, hc, h⟩ := h
  refine ⟨A, c, e, hc, fun k hk => ?_⟩
  rcases h with h | ⟨b, e2, h3, h4⟩
  · rw [h] at hk
    exact absurd hk (Nat.not_lt_zero k)
  · have hl := ncells_len xs
    obtain ⟨c1, c2, c3⟩ := ncells_at hk
    refine ⟨b, 0, e2, h4.lt, ?_, ?_, ?_⟩
    · rw [Nat.zero_add, h4.cell (i := k * 3) (by omega), ← c1, List.getElem?_eq_getElem (by omega)]
    · rw [Nat.zero_add, h4.cell (i := k * 3 + 1) (by omega), ← c2, List.getElem?_eq_getElem (by omega)]
    · rw [Nat.zero_add, h4.cell (i := k * 3 + 2) (by omega), ← c3, List.getElem?_eq_getElem (by omega)]
/-! ### In the form of the harness -/
def LfN (w : World) (B : Nat) (v : Value) (xs : List Nd) : Prop := RdN w (fun b => b < B) v xs ∧ xs.length ≤ 9223372036854775807 ∧ ∀ k, k < xs.length → (xs.getD k nd0).s.size ≤ 9223372036854775807
theorem LfN.below {w w' : World} {B B' : Nat} {v : Value} {x : List Nd} (h : LfN w B v x) (hb : Below B' w w') (hB : B ≤ B') : LfN w' B v x := ⟨h.1.below hb hB, h.2⟩
theorem LfN.mono {w : World} {B B' : Nat} {v : Value} {x : List Nd} (h : LfN w B v x) (hB : B ≤ B') : LfN w B' v x := ⟨h.1.mono fun _ hk => Nat.lt_of_lt_of_le hk hB, h.2⟩
theorem LfN.len {w : World} {B : Nat} {v : Value} {x : List Nd} (h : LfN w B v x) : ∃ A c, v = .slice A x.length c := h.1.len
def szN (x : List Nd) : Nat := szNs x
def cntN (x : List Nd) : Nat := x.length * 3
def OwnN (w : World) (S : Nat → Prop) (v : Value) (x : List Nd) : Prop := OwN w S v x ∧ cntN x ≤ 1099511627776 ∧ ∀ k, k < x.length → (x.getD k nd0).s.size ≤ 9223372036854775807
theorem cntN_le (x : List Nd) : cntN x ≤ 3 * szN x := by unfold cntN szN szNs; omega
theorem sum_take (ns : List Nd) (k : Nat) : ((ns.take k).map fun n => n.s.size).sum ≤ (ns.map fun n => n.s.size).sum := by
  conv => rhs; rw [← List.take_append_drop k ns, List.map_append, List.sum_append]
  omega
theorem sum_at : ∀ {ns : List Nd} {k : Nat}, k < ns.length → (ns.getD k nd0).s.size ≤ (ns.map fun n => n.s.size).sum
  | n :: ns, 0, _ => by simp
  | n :: ns, k + 1, h => by
    have := sum_at (ns := ns) (k := k) (by simp at h; omega)
    simp only [List.getD_cons_succ, List.map_cons, List.sum_cons]
    omega
theorem sum_step : ∀ {ns : List Nd} {k : Nat}, k < ns.length → ((ns.take (k + 1)).map fun n => n.s.size).sum = ((ns.take k).map fun n => n.s.size).sum + (ns.getD k nd0).s.size
  | n :: ns, 0, _ => by simp
  | n :: ns, k + 1, h => by
    have := sum_step (ns := ns) (k := k) (by simp at h; omega)
    simp only [List.take_succ_cons, List.getD_cons_succ, List.map_cons, List.sum_cons] at this ⊢
    omega
theorem OwnN.rd {w : World} {S : Nat → Prop} {v : Value} {x : List Nd} (h : OwnN w S v x) : LfN w w.heap.size v x :=
  ⟨h.1.readB, by have := h.2.1; unfold cntN at this; omega, h.2.2⟩
theorem OwnN.mono {w : World} {S T : Nat → Prop} {v : Value} {x : List Nd} (h : OwnN w S v x) (hs : ∀ k, S k → k < w.heap.size → T k) : OwnN w T v x := ⟨h.1.mono hs, h.2⟩
theorem OwnN.blocks {w w' : World} {S : Nat → Prop} {v : Value} {x : List Nd} (h : OwnN w S v x) (hb : ∀ k, S k → k < w.heap.size → w'.heap[k]? = w.heap[k]?) : OwnN w' S v x := ⟨h.1.blocks hb, h.2⟩
theorem OwnN.below {w w' : World} {S : Nat → Prop} {B : Nat} {v : Value} {x : List Nd} (h : OwnN w S v x) (hb : Below B w w') (hs : ∀ k, S k → k < w.heap.size → k < B) : OwnN w' S v x := h.blocks fun k hk hl => hb.block k (hs k hk hl)
theorem OwnN.len {w : World} {S : Nat → Prop} {v : Value} {x : List Nd} (h : OwnN w S v x) : ∃ A c, v = .slice A x.length c := h.1.len
theorem RdN.lt {w : World} {S : Nat → Prop} {v : Value} {xs : List Nd} (h : RdN w S v xs) : RdN w (fun b => S b ∧ b < w.heap.size) v xs := by
  obtain ⟨A, c, e, hc, h⟩ := h
  refine ⟨A, c, e, hc, fun k hk => ?_⟩
  obtain ⟨b, o, e2, h3, h4⟩ := h k hk
  exact ⟨b, o, e2, ⟨h3, World.block_lt_of_cell? w _ h4.1⟩, h4⟩
theorem RdN.all {w : World} {S : Nat → Prop} {v : Value} {xs : List Nd} (h : RdN w S v xs) : RdN w (fun b => b < w.heap.size) v xs := h.lt.mono fun _ hk => hk.2
def MkN (w : World) (x : List Nd) (e : Ending) (w' : World) : Prop := ∃ v, e = .returned v ∧ Below w.heap.size w w' ∧ OwnN w' (fun b => w.heap.size ≤ b) v x
theorem infoN : (Try.prog.info? 68).map (fun i => (i.zero, i.size, i.bytes)) = some (some (.agg #[.int .i64 0, .int .i64 0, .string ByteArray.empty]), 3, 32) := by kernel_rfl
theorem made_cells (n : Nat) : (madeCells #[.int .i64 0, .int .i64 0, .string ByteArray.empty] (n * 3)).toList = ncells (List.replicate n nd0) := by
  apply List.ext_getElem?
  intro j
  by_cases hj : j < n * 3
  · have hq : j / 3 < (List.replicate n nd0).length := by rw [List.length_replicate]; omega
    obtain ⟨c0, c1, c2⟩ := ncells_at hq
    rw [repl_getD' _ _ _ _ (by omega)] at c0 c1 c2
    have hm : j % 3 = 0 ∨ j % 3 = 1 ∨ j % 3 = 2 := by omega
    rcases hm with h | h | h
    · rw [show j = j / 3 * 3 by omega, c0]
      simp [madeCells, nd0, show j / 3 * 3 < n * 3 by omega]
    · rw [show j = j / 3 * 3 + 1 by omega, c1]
      simp [madeCells, nd0, show j / 3 * 3 + 1 < n * 3 by omega, show (j / 3 * 3 + 1) % 3 = 1 by omega]
    · rw [show j = j / 3 * 3 + 2 by omega, c2]
      simp [madeCells, nd0, show j / 3 * 3 + 2 < n * 3 by omega, show (j / 3 * 3 + 2) % 3 = 2 by omega]
  · rw [List.getElem?_eq_none (by simp [madeCells]; omega), List.getElem?_eq_none (by rw [ncells_len, List.length_replicate]; omega)]
theorem made_nodes (w : World) (n : Nat) : CellsAt (w.alloc (.cells (madeCells #[.int .i64 0, .int .i64 0, .string ByteArray.empty] (n * 3)) 68)) w.heap.size tNd (ncells (List.replicate n nd0)) := by
  have := cellsAt_new w (madeCells #[.int .i64 0, .int .i64 0, .string ByteArray.empty] (n * 3)) 68
  rw [made_cells] at this
  exact this
theorem tk_step {x : List Nd} {k : Nat} (h : k < x.length) : (x.take k ++ List.replicate (x.length - k) nd0).set k (x.getD k nd0) = x.take (k + 1) ++ List.replicate (x.length - (k + 1)) nd0 := by
  have hl : (x.take k).length = k := by rw [List.length_take]; omega
  rw [List.set_append_right _ _ (by omega), hl, Nat.sub_self, show x.length - k = x.length - (k + 1) + 1 by omega, List.replicate_succ, List.set_cons_zero]
  have e : x.take (k + 1) = x.take k ++ [x.getD k nd0] := by
    rw [List.take_add_one, List.getD_eq_getElem?_getD, List.getElem?_eq_getElem h]
    rfl
  rw [e, List.append_assoc]
  rfl
end Go.Proofs.Ytdcgoeapgboclaa

/-! What the laws' helpers do with a mark of a string and with a slice of nodes: they mark it, and say whether it bears the marks still. -/
namespace Go.Proofs.Ytdcgoeapgboclaa
open Go Go.RowKit Go.Deep

/-- The digits of k ahead of out. -/
def digs (k : Nat) (out : ByteArray) : ByteArray :=
  if k = 0 then out else digs (k / 10) (strOfNums [48 + (k : Int) % 10] ++ out)
termination_by k
decreasing_by omega
def mtx (k : Int) : ByteArray := if k ≤ 0 then ByteArray.mk #[109, 48] else ByteArray.mk #[109] ++ digs k.toNat ByteArray.empty
theorem digs_size (k : Nat) (out : ByteArray) : (digs k out).size ≤ out.size + k := by
  rw [digs]
  split
  · omega
  · have := digs_size (k / 10) (strOfNums [48 + (k : Int) % 10] ++ out)
    have h1 : (strOfNums [48 + (k : Int) % 10]).size = 1 := rfl
    rw [ByteArray.size_append, h1] at this
    omega
termination_by k
decreasing_by omega
theorem mtx_size (k : Int) (hk : k ≤ 9223372036854775807) : (mtx k).size ≤ 9223372036854775807 := by
  unfold mtx
  split
  · exact Nat.le_trans (show (ByteArray.mk #[109, 48]).size ≤ 2 from Nat.le_refl 2) (by omega)
  · have h1 : (ByteArray.mk #[109]).size = 1 := rfl
    have h2 : (strOfNums [48 + (k.toNat : Int) % 10]).size = 1 := rfl
    have h3 : ByteArray.empty.size = 0 := rfl
    rw [ByteArray.size_append, h1, digs, if_neg (by omega)]
    have := digs_size (k.toNat / 10) (strOfNums [48 + (k.toNat : Int) % 10] ++ ByteArray.empty)
    rw [ByteArray.size_append, h2, h3] at this
    omega

/-- The nodes that bear the marks from k on. -/
def mkNd (k : Int) (i : Nat) : Nd := ⟨k + (i : Int) * 3, k + (i : Int) * 3 + 1, mtx (k + (i : Int) * 3 + 2)⟩
def mkN (k : Int) (x : List Nd) : List Nd := (List.range x.length).map (mkNd k)
theorem mkN_len (k : Int) (x : List Nd) : (mkN k x).length = x.length := by simp [mkN]
theorem mkN_at (k : Int) (x : List Nd) {i : Nat} (h : i < x.length) : (mkN k x).getD i nd0 = mkNd k i := by simp [mkN, List.getD_eq_getElem?_getD, h]
theorem mkN_step (k : Int) (x : List Nd) {i : Nat} (h : i < x.length) : ((mkN k x).take i ++ x.drop i).set i (mkNd k i) = (mkN k x).take (i + 1) ++ x.drop (i + 1) := by
  refine List.ext_getElem? fun j => ?_
  have hl : (mkN k x).length = x.length := mkN_len k x
  have hi : (mkN k x)[i]? = some (mkNd k i) := by simp [mkN, h]
  rw [List.getElem?_set]
  by_cases h1 : i = j
  · subst h1
    rw [if_pos rfl, if_pos (by simp [hl]; omega), List.getElem?_append_left (by simp [hl]; omega), List.getElem?_take_of_lt (by omega), hi]
  · rw [if_neg h1]
    by_cases h2 : j < i
    · rw [List.getElem?_append_left (by simp [hl]; omega), List.getElem?_append_left (by simp [hl]; omega), List.getElem?_take_of_lt h2, List.getElem?_take_of_lt (by omega)]
    · rw [List.getElem?_append_right (by simp [hl]; omega), List.getElem?_append_right (by simp [hl]; omega), List.getElem?_drop, List.getElem?_drop]
      congr 1
      simp [hl]
      omega
def MarkedN (w : World) (S : Nat → Prop) (v : Value) (k : Int) (x : List Nd) (e : Ending) (w' : World) : Prop := e = .returned (.int .i64 (k + (cntN x : Nat))) ∧ Touch S w w' ∧ OwnN w' S v (mkN k x)
theorem ownN_marks {w : World} {S : Nat → Prop} {A : Option Addr} {c : Nat} {x : List Nd} (k : Int) (hc : x.length ≤ c) (hx : cntN x ≤ 1099511627776) (hl : k + (cntN x : Nat) ≤ 9223372036854775807)
    (h : x = [] ∨ ∃ b, A = some ⟨b, 0, none⟩ ∧ S b ∧ CellsAt w b tNd (ncells (mkN k x))) : OwnN w S (.slice A x.length c) (mkN k x) := by
  refine ⟨⟨A, c, by rw [mkN_len], by rw [mkN_len]; exact hc, ?_⟩, by unfold cntN at *; rw [mkN_len]; exact hx, fun j hj => ?_⟩
  · rcases h with h | h
    · left
      subst h
      rfl
    · exact Or.inr h
  · rw [mkN_len] at hj
    rw [mkN_at k x hj]
    exact mtx_size _ (by unfold cntN at hl; omega)

end Go.Proofs.Ytdcgoeapgboclaa
