/- Lists of edges that came in, or are the call's own (leaf kind E): the words. -/
import Derived.Test.YtdcgoeapgboclaaTEdge
import Derived.Test.YtdcgoeapgboclaaGrW
import Derived.Deep.RegionHeld3
namespace Go.Proofs.Ytdcgoeapgboclaa
set_option maxRecDepth 100000
open Go Go.RowKit Go.Deep

/-- The slice v reads as the edges es. -/
def LfE (w : World) (B : Nat) (v : Value) (es : List Ed) : Prop := RdE w B v es ∧ es.length ≤ 9223372036854775807 ∧ ∀ k, k < es.length → (es.getD k ed0).i.length ≤ 9223372036854775807 ∧ (es.getD k ed0).o.length ≤ 9223372036854775807
theorem LfE.below {w w' : World} {B B' : Nat} {v : Value} {x : List Ed} (h : LfE w B v x) (hb : Below B' w w') (hB : B ≤ B') : LfE w' B v x := ⟨h.1.below hb hB, h.2⟩
theorem LfE.mono {w : World} {B B' : Nat} {v : Value} {x : List Ed} (h : LfE w B v x) (hB : B ≤ B') : LfE w B' v x := ⟨h.1.mono hB, h.2⟩
theorem LfE.len {w : World} {B : Nat} {v : Value} {x : List Ed} (h : LfE w B v x) : ∃ A c, v = .slice A x.length c := h.1.len
/-- The wires of an edge. -/
def wid (e : Ed) : Nat := e.i.length + e.o.length
def sumE (es : List Ed) : Nat := (es.map wid).sum
def szE (x : List Ed) : Nat := x.length + sumE x
def cntE (x : List Ed) : Nat := x.length * 2 + sumE x
theorem cntE_le (x : List Ed) : cntE x ≤ 2 * szE x := by unfold cntE szE; omega
theorem sumE_take (es : List Ed) (k : Nat) : sumE (es.take k) ≤ sumE es := by
  unfold sumE
  conv => rhs; rw [← List.take_append_drop k es, List.map_append, List.sum_append]
  omega
theorem sumE_step : ∀ {es : List Ed} {k : Nat}, k < es.length → sumE (es.take (k + 1)) = sumE (es.take k) + ((es.getD k ed0).i.length + (es.getD k ed0).o.length)
  | e :: es, 0, _ => by simp [sumE, wid]
  | e :: es, k + 1, h => by
    have := sumE_step (es := es) (k := k) (by simpa using h)
    simp only [sumE, List.take_succ_cons, List.map_cons, List.sum_cons, List.getD_cons_succ] at this ⊢
    omega
theorem sumE_at {es : List Ed} {k : Nat} (h : k < es.length) : (es.getD k ed0).i.length + (es.getD k ed0).o.length ≤ sumE es := by
  have := sumE_step h
  have := sumE_take es (k + 1)
  omega
/-- List r of the edges: the inputs of an edge, then its outputs. -/
def erow (es : List Ed) (r : Nat) : List Int := if r % 2 = 0 then (es.getD (r / 2) ed0).i else (es.getD (r / 2) ed0).o
def ecell (es : List Ed) (vs : Nat → Value) (j : Nat) : Value :=
  if j % 4 = 0 then .int .i64 (es.getD (j / 4) ed0).k else if j % 4 = 1 then .int .i64 (es.getD (j / 4) ed0).v else vs (j / 4 * 2 + (j % 4 - 2))
/-- The cells of a block of edges. -/
def ecells (es : List Ed) (vs : Nat → Value) : List Value := (List.range (es.length * 4)).map (ecell es vs)
theorem ecells_len (es : List Ed) (vs : Nat → Value) : (ecells es vs).length = es.length * 4 := by simp [ecells]
theorem ecells_at (es : List Ed) (vs : Nat → Value) {j : Nat} (h : j < es.length * 4) : (ecells es vs)[j]? = some (ecell es vs j) := by simp [ecells, h]
theorem erow_i (es : List Ed) (k : Nat) : erow es (k * 2) = (es.getD k ed0).i := by unfold erow; rw [if_pos (by omega), show k * 2 / 2 = k by omega]
theorem erow_o (es : List Ed) (k : Nat) : erow es (k * 2 + 1) = (es.getD k ed0).o := by unfold erow; rw [if_neg (by omega), show (k * 2 + 1) / 2 = k by omega]
theorem ecell0 (es : List Ed) (vs : Nat → Value) (k : Nat) : ecell es vs (k * 4) = .int .i64 (es.getD k ed0).k := by unfold ecell; rw [if_pos (by omega), show k * 4 / 4 = k by omega]
theorem ecell1 (es : List Ed) (vs : Nat → Value) (k : Nat) : ecell es vs (k * 4 + 1) = .int .i64 (es.getD k ed0).v := by unfold ecell; rw [if_neg (by omega), if_pos (by omega), show (k * 4 + 1) / 4 = k by omega]
theorem ecell2 (es : List Ed) (vs : Nat → Value) (k : Nat) : ecell es vs (k * 4 + 2) = vs (k * 2) := by unfold ecell; rw [if_neg (by omega), if_neg (by omega), show (k * 4 + 2) / 4 * 2 + ((k * 4 + 2) % 4 - 2) = k * 2 by omega]
theorem ecell3 (es : List Ed) (vs : Nat → Value) (k : Nat) : ecell es vs (k * 4 + 3) = vs (k * 2 + 1) := by unfold ecell; rw [if_neg (by omega), if_neg (by omega), show (k * 4 + 3) / 4 * 2 + ((k * 4 + 3) % 4 - 2) = k * 2 + 1 by omega]
/-- Block g holds the edges es; list r of them lies at vs r, each in a block of its own. -/
structure EdAt (w : World) (S : Nat → Prop) (g : Nat) (es : List Ed) (vs : Nat → Value) : Prop where
  outer : CellsAt w g tEd (ecells es vs)
  inS : S g
  row : ∀ r, r < es.length * 2 → OwR w tI S (vs r) (erow es r)
  off : ∀ r, r < es.length * 2 → erow es r ≠ [] → blkOf (vs r) ≠ g
  apart : ∀ r s, r < es.length * 2 → s < es.length * 2 → r ≠ s → erow es r ≠ [] → erow es s ≠ [] → blkOf (vs r) ≠ blkOf (vs s)
/-- The slice v is the call's own, of the edges es. -/
def OwE (w : World) (S : Nat → Prop) (v : Value) (es : List Ed) : Prop :=
  ∃ A c, v = .slice A es.length c ∧ es.length ≤ c ∧ (es = [] ∨ ∃ g vs, A = some ⟨g, 0, none⟩ ∧ EdAt w S g es vs)
section
variable {w w' : World} {S T : Nat → Prop} {g : Nat} {es : List Ed} {vs : Nat → Value} {v : Value}
theorem EdAt.mono (h : EdAt w S g es vs) (hs : ∀ k, S k → k < w.heap.size → T k) : EdAt w T g es vs := ⟨h.outer, hs _ h.inS h.outer.lt, fun r hr => (h.row r hr).mono hs, h.off, h.apart⟩
theorem EdAt.blocks (h : EdAt w S g es vs) (hb : ∀ k, S k → k < w.heap.size → w'.heap[k]? = w.heap[k]?) : EdAt w' S g es vs :=
  ⟨h.outer.of_block (hb _ h.inS h.outer.lt), h.inS, fun r hr => (h.row r hr).blocks fun k hk hl _ _ => hb k hk hl, h.off, h.apart⟩
theorem OwE.len (h : OwE w S v es) : ∃ A c, v = .slice A es.length c := by
  obtain ⟨A, c, e, _⟩ := h
  exact ⟨A, c, e⟩
theorem OwE.mono (h : OwE w S v es) (hs : ∀ k, S k → k < w.heap.size → T k) : OwE w T v es := by
  obtain ⟨A, c, e, hc, h⟩ := h
  refine ⟨A, c, e, hc, ?_⟩
  rcases h with h | ⟨g, vs, e2, h⟩
  · exact Or.inl h
  · exact Or.inr ⟨g, vs, e2, h.mono hs⟩
theorem OwE.blocks (h : OwE w S v es) (hb : ∀ k, S k → k < w.heap.size → w'.heap[k]? = w.heap[k]?) : OwE w' S v es := by
  obtain ⟨A, c, e, hc, h⟩ := h
  refine ⟨A, c, e, hc, ?_⟩
  rcases h with h | ⟨g, vs, e2, h⟩
  · exact Or.inl h
  · exact Or.inr ⟨g, vs, e2, h.blocks hb⟩
theorem EdAt.cell (h : EdAt w S g es vs) {j : Nat} (hj : j < es.length * 4) : w.cell? ⟨g, j, none⟩ = some (ecell es vs j) := by
  rw [h.outer.cell (by rw [ecells_len]; exact hj), ecells_at es vs hj]
/-- Edge k, its cells and its lists. -/
theorem EdAt.at (h : EdAt w S g es vs) {k : Nat} (hk : k < es.length) : ∃ A1 c1 A2 c2, vs (k * 2) = .slice A1 (es.getD k ed0).i.length c1 ∧ vs (k * 2 + 1) = .slice A2 (es.getD k ed0).o.length c2 ∧
    w.cell? ⟨g, k * 4, none⟩ = some (.int .i64 (es.getD k ed0).k) ∧ w.cell? ⟨g, k * 4 + 1, none⟩ = some (.int .i64 (es.getD k ed0).v) ∧ w.cell? ⟨g, k * 4 + 2, none⟩ = some (.slice A1 (es.getD k ed0).i.length c1) ∧ w.cell? ⟨g, k * 4 + 3, none⟩ = some (.slice A2 (es.getD k ed0).o.length c2) ∧
    OwR w tI S (.slice A1 (es.getD k ed0).i.length c1) (es.getD k ed0).i ∧ OwR w tI S (.slice A2 (es.getD k ed0).o.length c2) (es.getD k ed0).o := by
  have r1 := h.row (k * 2) (by omega)
  have r2 := h.row (k * 2 + 1) (by omega)
  rw [erow_i] at r1
  rw [erow_o] at r2
  obtain ⟨A1, c1, e1⟩ := r1.len
  obtain ⟨A2, c2, e2⟩ := r2.len
  have q0 := h.cell (j := k * 4) (by omega)
  have q1 := h.cell (j := k * 4 + 1) (by omega)
  have q2 := h.cell (j := k * 4 + 2) (by omega)
  have q3 := h.cell (j := k * 4 + 3) (by omega)
  rw [ecell0] at q0
  rw [ecell1] at q1
  rw [ecell2, e1] at q2
  rw [ecell3, e2] at q3
  rw [e1] at r1
  rw [e2] at r2
  exact ⟨A1, c1, A2, c2, e1, e2, q0, q1, q2, q3, r1, r2⟩
theorem OwE.readB (h : OwE w S v es) : RdE w w.heap.size v es := by
  obtain ⟨A, c, e, hc, h⟩ := h
  refine ⟨A, c, e, hc, fun k hk => ?_⟩
  rcases h with h | ⟨g, vs, e2, h⟩
  · subst h
    exact absurd hk (Nat.not_lt_zero k)
  · obtain ⟨A1, c1, A2, c2, -, -, q0, q1, q2, q3, r1, r2⟩ := h.at hk
    refine ⟨g, 0, A1, c1, A2, c2, e2, h.outer.lt, ?_, ?_, ?_, ?_, r1.readB, r2.readB⟩
    · rw [Nat.zero_add]; exact q0
    · rw [Nat.zero_add]; exact q1
    · rw [Nat.zero_add]; exact q2
    · rw [Nat.zero_add]; exact q3
/-- The lists' values with those of edge r new. -/
def upV (vs : Nat → Value) (r : Nat) (v1 v2 : Value) (q : Nat) : Value := if q = r * 2 then v1 else if q = r * 2 + 1 then v2 else vs q
theorem getD_setE {r k : Nat} (hr : r < es.length) (e : Ed) : (es.set r e).getD k ed0 = if r = k then e else es.getD k ed0 := set_getD es r k e ed0 hr
theorem erow_set {r q : Nat} (hr : r < es.length) (e : Ed) : erow (es.set r e) q = if q = r * 2 then e.i else if q = r * 2 + 1 then e.o else erow es q := by
  unfold erow
  rw [getD_setE hr]
  by_cases c : r = q / 2
  · rw [if_pos c]
    by_cases d : q % 2 = 0
    · rw [if_pos d, if_pos (by omega)]
    · rw [if_neg d, if_neg (by omega), if_pos (by omega)]
  · rw [if_neg c, if_neg (show ¬ q = r * 2 by omega), if_neg (show ¬ q = r * 2 + 1 by omega)]
theorem ecells_put {r : Nat} (hr : r < es.length) (e : Ed) (v1 v2 : Value) : ecells (es.set r e) (upV vs r v1 v2) = ((((ecells es vs).set (r * 4) (.int .i64 e.k)).set (r * 4 + 1) (.int .i64 e.v)).set (r * 4 + 2) v1).set (r * 4 + 3) v2 := by
  apply List.ext_getElem?
  intro j
  by_cases hj : j < es.length * 4
  · rw [ecells_at _ _ (by rw [List.length_set]; exact hj)]
    simp only [List.getElem?_set, List.length_set, ecells_len]
    rw [ecells_at _ _ hj]
    by_cases c3 : r * 4 + 3 = j
    · subst c3
      rw [ecell3, if_pos rfl, if_pos hj]
      simp [upV]
    rw [if_neg c3]
    by_cases c2 : r * 4 + 2 = j
    · subst c2
      rw [ecell2, if_pos rfl, if_pos hj]
      simp [upV]
    rw [if_neg c2]
    by_cases c1 : r * 4 + 1 = j
    · subst c1
      rw [ecell1, if_pos rfl, if_pos hj, getD_setE hr, if_pos rfl]
    rw [if_neg c1]
    by_cases c0 : r * 4 = j
    · subst c0
      rw [ecell0, if_pos rfl, if_pos hj, getD_setE hr, if_pos rfl]
    rw [if_neg c0]
    unfold ecell
    rw [getD_setE hr, if_neg (show ¬ r = j / 4 by omega)]
    unfold upV
    rw [if_neg (show ¬ j / 4 * 2 + (j % 4 - 2) = r * 2 by omega), if_neg (show ¬ j / 4 * 2 + (j % 4 - 2) = r * 2 + 1 by omega)]
  · rw [List.getElem?_eq_none (by rw [ecells_len, List.length_set]; omega), List.getElem?_eq_none (by simp only [List.length_set]; rw [ecells_len]; omega)]
theorem upV_self (vs : Nat → Value) (r : Nat) : upV vs r (vs (r * 2)) (vs (r * 2 + 1)) = vs := by
  funext q
  unfold upV
  by_cases c : q = r * 2
  · rw [if_pos c, c]
  · rw [if_neg c]
    by_cases d : q = r * 2 + 1
    · rw [if_pos d, d]
    · rw [if_neg d]
theorem EdAt.blk (h : EdAt w S g es vs) {r : Nat} (hr : r < es.length * 2) (hx : erow es r ≠ []) : S (blkOf (vs r)) := (h.row r hr).blk hx
/-- A new edge at its place: its lists in blocks that no other list has. -/
theorem EdAt.put (h : EdAt w S g es vs) {r : Nat} (hr : r < es.length) (e : Ed) {v1 v2 : Value} {T1 T2 : Nat → Prop} (h1 : OwR w tI T1 v1 e.i) (h2 : OwR w tI T2 v2 e.o) (d1 : ∀ k, T1 k → ¬ S k) (d2 : ∀ k, T2 k → ¬ S k) (d12 : ∀ k, T1 k → T2 k → False) :
    EdAt ((((w.setCell ⟨g, r * 4, none⟩ (.int .i64 e.k)).setCell ⟨g, r * 4 + 1, none⟩ (.int .i64 e.v)).setCell ⟨g, r * 4 + 2, none⟩ v1).setCell ⟨g, r * 4 + 3, none⟩ v2) (fun k => S k ∨ T1 k ∨ T2 k) g (es.set r e) (upV vs r v1 v2) := by
  have hfr : ∀ k, k ≠ g → ((((w.setCell ⟨g, r * 4, none⟩ (.int .i64 e.k)).setCell ⟨g, r * 4 + 1, none⟩ (.int .i64 e.v)).setCell ⟨g, r * 4 + 2, none⟩ v1).setCell ⟨g, r * 4 + 3, none⟩ v2).heap[k]? = w.heap[k]? := fun k hk => by
    repeat rw [blk_setCell_other _ _ _ _ hk]
  have hout : CellsAt ((((w.setCell ⟨g, r * 4, none⟩ (.int .i64 e.k)).setCell ⟨g, r * 4 + 1, none⟩ (.int .i64 e.v)).setCell ⟨g, r * 4 + 2, none⟩ v1).setCell ⟨g, r * 4 + 3, none⟩ v2) g tEd (ecells (es.set r e) (upV vs r v1 v2)) := by
    rw [ecells_put hr]
    exact (((h.outer.set _ _).set _ _).set _ _).set _ _
  generalize ((((w.setCell ⟨g, r * 4, none⟩ (.int .i64 e.k)).setCell ⟨g, r * 4 + 1, none⟩ (.int .i64 e.v)).setCell ⟨g, r * 4 + 2, none⟩ v1).setCell ⟨g, r * 4 + 3, none⟩ v2) = w' at hfr hout ⊢
  have g1 : ∀ k, T1 k → k ≠ g := fun k hk c => by subst c; exact d1 _ hk h.inS
  have g2 : ∀ k, T2 k → k ≠ g := fun k hk c => by subst c; exact d2 _ hk h.inS
  have b1 : e.i ≠ [] → T1 (blkOf v1) := fun hx => h1.blk hx
  have b2 : e.o ≠ [] → T2 (blkOf v2) := fun hx => h2.blk hx
  refine ⟨hout, Or.inl h.inS, fun q hq => ?_, fun q hq => ?_, fun q s hq hs hqs => ?_⟩
  · rw [List.length_set] at hq
    rw [erow_set hr]
    unfold upV
    by_cases c1 : q = r * 2
    · rw [if_pos c1, if_pos c1]
      exact (h1.mono (T := fun k => S k ∨ T1 k ∨ T2 k) fun k hk _ => Or.inr (Or.inl hk)).blocks fun k hk _ hx e => hfr k (e ▸ g1 _ (b1 hx))
    rw [if_neg c1, if_neg c1]
    by_cases c2 : q = r * 2 + 1
    · rw [if_pos c2, if_pos c2]
      exact (h2.mono (T := fun k => S k ∨ T1 k ∨ T2 k) fun k hk _ => Or.inr (Or.inr hk)).blocks fun k hk _ hx e => hfr k (e ▸ g2 _ (b2 hx))
    rw [if_neg c2, if_neg c2]
    exact ((h.row q hq).mono (T := fun k => S k ∨ T1 k ∨ T2 k) fun k hk _ => Or.inl hk).blocks fun k hk _ hx e => hfr k (e ▸ h.off q hq hx)
  · rw [List.length_set] at hq
    rw [erow_set hr]
    unfold upV
    by_cases c1 : q = r * 2
    · rw [if_pos c1, if_pos c1]
      exact fun hx => g1 _ (b1 hx)
    rw [if_neg c1, if_neg c1]
    by_cases c2 : q = r * 2 + 1
    · rw [if_pos c2, if_pos c2]
      exact fun hx => g2 _ (b2 hx)
    rw [if_neg c2, if_neg c2]
    exact h.off q hq
  · rw [List.length_set] at hq hs
    rw [erow_set hr, erow_set hr]
    unfold upV
    have old : ∀ q, q < es.length * 2 → erow es q ≠ [] → S (blkOf (vs q)) := fun q hq hx => h.blk hq hx
    by_cases c1 : q = r * 2
    · rw [if_pos c1, if_pos c1, if_neg (show ¬ s = r * 2 by omega), if_neg (show ¬ s = r * 2 by omega)]
      intro hx hy e
      have t1 := b1 hx
      by_cases c2 : s = r * 2 + 1
      · rw [if_pos c2] at hy e
        rw [e] at t1
        exact d12 _ t1 (b2 hy)
      · rw [if_neg c2] at hy e
        rw [e] at t1
        exact d1 _ t1 (old s hs hy)
    rw [if_neg c1, if_neg c1]
    by_cases c2 : q = r * 2 + 1
    · rw [if_pos c2, if_pos c2]
      intro hx hy e
      have t2 := b2 hx
      by_cases c3 : s = r * 2
      · rw [if_pos c3] at hy e
        rw [e] at t2
        exact d12 _ (b1 hy) t2
      · rw [if_neg c3, if_neg (show ¬ s = r * 2 + 1 by omega)] at hy e
        rw [e] at t2
        exact d2 _ t2 (old s hs hy)
    rw [if_neg c2, if_neg c2]
    intro hx hy e
    have o1 := old q hq hx
    by_cases c3 : s = r * 2
    · rw [if_pos c3] at hy e
      rw [e] at o1
      exact d1 _ (b1 hy) o1
    rw [if_neg c3] at hy e
    by_cases c4 : s = r * 2 + 1
    · rw [if_pos c4] at hy e
      rw [e] at o1
      exact d2 _ (b2 hy) o1
    · rw [if_neg c4] at hy e
      exact h.apart q s hq hs hqs hx hy e
/-- Kind and value of an edge changed in place. -/
theorem EdAt.head (h : EdAt w S g es vs) {r : Nat} (hr : r < es.length) (k v : Int) :
    EdAt ((w.setCell ⟨g, r * 4, none⟩ (.int .i64 k)).setCell ⟨g, r * 4 + 1, none⟩ (.int .i64 v)) S g (es.set r ⟨k, v, (es.getD r ed0).i, (es.getD r ed0).o⟩) vs := by
  have hfr : ∀ q, q ≠ g → ((w.setCell ⟨g, r * 4, none⟩ (.int .i64 k)).setCell ⟨g, r * 4 + 1, none⟩ (.int .i64 v)).heap[q]? = w.heap[q]? := fun q hq => by
    repeat rw [blk_setCell_other _ _ _ _ hq]
  have hrow : ∀ q, erow (es.set r ⟨k, v, (es.getD r ed0).i, (es.getD r ed0).o⟩) q = erow es q := fun q => by
    rw [erow_set hr]
    by_cases c1 : q = r * 2
    · rw [if_pos c1, c1, erow_i]
    rw [if_neg c1]
    by_cases c2 : q = r * 2 + 1
    · rw [if_pos c2, c2, erow_o]
    rw [if_neg c2]
  refine ⟨?_, h.inS, fun q hq => ?_, fun q hq hx => ?_, fun q s hq hs hqs hx hy => ?_⟩
  · have e1 := ecells_put (vs := vs) hr ⟨k, v, (es.getD r ed0).i, (es.getD r ed0).o⟩ (vs (r * 2)) (vs (r * 2 + 1))
    rw [upV_self] at e1
    rw [e1]
    have e2 : ∀ (l : List Value) (i : Nat) (x : Value), l[i]? = some x → l.set i x = l := fun l i x hx => by
      apply List.ext_getElem?
      intro j
      rw [List.getElem?_set]
      by_cases c : i = j
      · subst c
        rw [if_pos rfl, if_pos (List.getElem?_eq_some_iff.1 hx).1, hx]
      · rw [if_neg c]
    rw [e2 _ (r * 4 + 2), e2 _ (r * 4 + 3)]
    · exact (h.outer.set _ _).set _ _
    · simp only [List.getElem?_set]
      rw [if_neg (by omega), if_neg (by omega), ecells_at _ _ (by omega), ecell3]
    · simp only [List.getElem?_set]
      rw [if_neg (by omega), if_neg (by omega), ecells_at _ _ (by omega), ecell2]
  · rw [List.length_set] at hq
    rw [hrow]
    exact (h.row q hq).blocks fun k hk _ hx e => hfr k (e ▸ h.off q hq hx)
  · rw [List.length_set] at hq
    rw [hrow] at hx
    exact h.off q hq hx
  · rw [List.length_set] at hq hs
    rw [hrow] at hx hy
    exact h.apart q s hq hs hqs hx hy
/-- A list of an edge changed in place. -/
theorem EdAt.write (h : EdAt w S g es vs) {es' : List Ed} {r : Nat} (hr : r < es.length * 2) (hl : es'.length = es.length) (hc : ecells es' vs = ecells es vs) (hrow : ∀ q, q ≠ r → erow es' q = erow es q) (hlen : (erow es' r).length = (erow es r).length)
    (hT : OwR w' tI S (vs r) (erow es' r)) (hb : ∀ k, k < w.heap.size → ¬ (erow es r ≠ [] ∧ k = blkOf (vs r)) → w'.heap[k]? = w.heap[k]?) : EdAt w' S g es' vs := by
  have hn : ∀ q, erow es' q ≠ [] → erow es q ≠ [] := fun q hx => by
    by_cases c : q = r
    · subst c
      intro e
      rw [e] at hlen
      exact hx (List.length_eq_zero_iff.1 hlen)
    · rw [← hrow q c]
      exact hx
  refine ⟨?_, h.inS, fun q hq => ?_, fun q hq hx => ?_, fun q s hq hs hqs hx hy => ?_⟩
  · rw [hc]
    exact h.outer.of_block (hb g h.outer.lt (fun hx => h.off r hr hx.1 hx.2.symm))
  · rw [hl] at hq
    by_cases c : q = r
    · rw [c]
      exact hT
    · rw [hrow q c]
      exact (h.row q hq).blocks fun k _ hk hx e => hb k hk (fun hy => h.apart q r hq hr c hx hy.1 (e ▸ hy.2))
  · rw [hl] at hq
    exact h.off q hq (hn q hx)
  · rw [hl] at hq hs
    exact h.apart q s hq hs hqs (hn q hx) (hn s hy)
theorem ecells_same {es' : List Ed} (vs : Nat → Value) (hl : es'.length = es.length) (h : ∀ k, (es'.getD k ed0).k = (es.getD k ed0).k ∧ (es'.getD k ed0).v = (es.getD k ed0).v) : ecells es' vs = ecells es vs := by
  unfold ecells
  rw [hl]
  refine List.map_congr_left fun j _ => ?_
  unfold ecell
  rw [(h (j / 4)).1, (h (j / 4)).2]
end
def OwnE (w : World) (S : Nat → Prop) (v : Value) (x : List Ed) : Prop := OwE w S v x ∧ cntE x ≤ 1099511627776
theorem OwnE.rd {w : World} {S : Nat → Prop} {v : Value} {x : List Ed} (h : OwnE w S v x) : LfE w w.heap.size v x :=
  ⟨h.1.readB, by have := h.2; unfold cntE at this; omega, fun k hk => by have := h.2; have := sumE_at hk; unfold cntE at *; omega⟩
theorem OwnE.mono {w : World} {S T : Nat → Prop} {v : Value} {x : List Ed} (h : OwnE w S v x) (hs : ∀ k, S k → k < w.heap.size → T k) : OwnE w T v x := ⟨h.1.mono hs, h.2⟩
theorem OwnE.blocks {w w' : World} {S : Nat → Prop} {v : Value} {x : List Ed} (h : OwnE w S v x) (hb : ∀ k, S k → k < w.heap.size → w'.heap[k]? = w.heap[k]?) : OwnE w' S v x := ⟨h.1.blocks hb, h.2⟩
theorem OwnE.below {w w' : World} {S : Nat → Prop} {B : Nat} {v : Value} {x : List Ed} (h : OwnE w S v x) (hb : Below B w w') (hs : ∀ k, S k → k < w.heap.size → k < B) : OwnE w' S v x := h.blocks fun k hk hl => hb.block k (hs k hk hl)
theorem OwnE.len {w : World} {S : Nat → Prop} {v : Value} {x : List Ed} (h : OwnE w S v x) : ∃ A c, v = .slice A x.length c := h.1.len
def MkE (w : World) (x : List Ed) (e : Ending) (w' : World) : Prop := ∃ v, e = .returned v ∧ Below w.heap.size w w' ∧ OwnE w' (fun b => w.heap.size ≤ b) v x
end Go.Proofs.Ytdcgoeapgboclaa
