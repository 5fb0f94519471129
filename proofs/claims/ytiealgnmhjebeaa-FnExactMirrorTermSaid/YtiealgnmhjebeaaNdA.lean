/- Rows of nodes that may grow: append of a whole row, slices.Clone, a term's own copy. -/
import Derived.Test.YtiealgnmhjebeaaRowCat
import Derived.Test.YtiealgnmhjebeaaLeafN0
namespace Go.Proofs.Ytiealgnmhjebeaa
set_option maxRecDepth 100000
open Go Go.RowKit Go.Deep

abbrev RowN (w : World) (B : Nat) (v : Value) (xs : List Nd) : Prop := w.ownsRow B tNd 3 v xs.length (ncells xs)
theorem ncells_one : ∀ (xs : List Nd), ∀ u ∈ ncells xs, u.oneCell' = true
  | [], u, h => by cases h
  | n :: ns, u, h => by
    unfold ncells at h
    rcases List.mem_cons.1 h with rfl | h
    · rfl
    rcases List.mem_cons.1 h with rfl | h
    · rfl
    rcases List.mem_cons.1 h with rfl | h
    · rfl
    exact ncells_one ns u h
theorem RdN.cellsAt {w : World} {S : Nat → Prop} {b o n c : Nat} {ys : List Nd} (h : RdN w S (.slice (some ⟨b, o, none⟩) n c) ys) (j : Nat) (u : Value) (hj : (ncells ys)[j]? = some u) : w.cell? ⟨b, o + j, none⟩ = some u := by
  have hjl : j < ys.length * 3 := by rw [← ncells_len ys]; exact (List.getElem?_eq_some_iff.1 hj).1
  obtain ⟨b', o', e, _, c0, c1, c2⟩ := h.at (k := j / 3) (by omega)
  obtain ⟨rfl, rfl⟩ : b = b' ∧ o = o' := by simpa using e
  obtain ⟨n0, n1, n2⟩ := ncells_at (ns := ys) (i := j / 3) (by omega)
  have h3 : j = j / 3 * 3 ∨ j = j / 3 * 3 + 1 ∨ j = j / 3 * 3 + 2 := by omega
  rcases h3 with h3 | h3 | h3
  · rw [h3] at hj ⊢
    rw [n0] at hj
    rw [c0, hj]
  · rw [h3] at hj ⊢
    rw [n1] at hj
    rw [← Nat.add_assoc, c1, hj]
  · rw [h3] at hj ⊢
    rw [n2] at hj
    rw [← Nat.add_assoc, c2, hj]
theorem addr_add (b o j : Nat) : (⟨b, o, none⟩ : Addr).add j = ⟨b, o + j, none⟩ := by unfold Addr.add; split <;> simp_all
theorem wpList_joinN {ops : Array Oper} {rest : List Oper} {o : Oper} {a : Act} {Q : Exit → Act → World → Prop} (hgd : o.guard = none) (s x : Operand)
    (ho : o.op = .call { callee := .builtin .append, args := #[s, x], argTypes := #[26, 26] }) (w : World) (B : Nat) (v : Value) (xs ys : List Nd) (S : Nat → Prop) (A : Option Addr) (n c : Nat)
    (hs : a.eval s = v) (hJ : RowN w B v xs) (hx : a.eval x = .slice A n c) (hS : RdN w S (.slice A n c) ys) (hB : B ≤ w.heap.size) (hn : xs.length + ys.length ≤ 1000000)
    (h : ∀ v' w', RowN w' B v' (xs ++ ys) → Below B w w' → wpList Try.prog ops Q rest (a.put o.dst v') w') : wpList Try.prog ops Q (o :: rest) a w := by
  obtain ⟨i0, hi0, hz0, hz1, hz2⟩ := info_parts infoN
  obtain rfl : n = ys.length := by
    obtain ⟨_, _, e, _⟩ := hS
    exact (sliceEq e).2.1
  by_cases h0 : ys.length = 0
  · rw [h0] at hx
    have e : ys = [] := List.length_eq_zero_iff.1 h0
    exact Lib.wpList_append_run w hgd s x _ _ ho _ _ hs hx v w (run_append_zero B _ _ tNd i0 3 Try.underlying26 hi0 v xs.length (ncells xs) hJ A c) (h v w (by rw [e, List.append_nil]; exact hJ) (Below.refl _ _))
  · obtain ⟨b, o1, e1, -, -⟩ := hS.at (k := 0) (by omega)
    subst e1
    refine wpList_append_lies w hgd s x _ ho B tNd i0 _ 3 32 Try.underlying26 hi0 hz0 hz1 hz2 rfl (by omega) v xs.length (ncells xs) hs hJ ⟨b, o1, none⟩ ys.length c (ncells ys) hx (ncells_len ys) (fun j u hj => ?_) (ncells_one ys) (by omega) (by unfold maxLen; omega) (by omega) hB _ rfl (fun g cap w' hown hgrow _ _ => ?_)
    · rw [addr_add]
      exact hS.cellsAt j u hj
    · have hbl : Below B w w' := (Below.refl B w).grown hgrow hB (fun q hq => (World.ownsRow.lt hJ q hq).1)
      refine h _ w' ?_ hbl
      unfold RowN
      rw [List.length_append, ncells_app]
      exact hown
/-- .. at a step of a region that draws its order. -/
theorem step_joinN {ops : Array Oper} {o : Oper} {a : Act} {K : Act → World → Prop} {Q : Exit → Act → World → Prop} {E : Prop} (hgd : o.guard = none) (s x : Operand)
    (ho : o.op = .call { callee := .builtin .append, args := #[s, x], argTypes := #[26, 26] }) (w : World) (B : Nat) (v : Value) (xs ys : List Nd) (S : Nat → Prop) (A : Option Addr) (n c : Nat)
    (hs : a.eval s = v) (hJ : RowN w B v xs) (hx : a.eval x = .slice A n c) (hS : RdN w S (.slice A n c) ys) (hB : B ≤ w.heap.size) (hn : xs.length + ys.length ≤ 1000000)
    (h : ∀ v' w', RowN w' B v' (xs ++ ys) → Below B w w' → K (a.put o.dst v') w') : if Region.wanted o (yielded ops a.tmps) = true then Oper.wp Try.prog o a w K Q else E := by
  obtain ⟨i0, hi0, hz0, hz1, hz2⟩ := info_parts infoN
  obtain rfl : n = ys.length := by
    obtain ⟨_, _, e, _⟩ := hS
    exact (sliceEq e).2.1
  by_cases h0 : ys.length = 0
  · rw [h0] at hx
    have e : ys = [] := List.length_eq_zero_iff.1 h0
    rw [if_pos (by simp [Region.wanted, hgd])]
    exact Lib.wp_append_run w s x _ _ ho _ _ hs hx v w (run_append_zero B _ _ tNd i0 3 Try.underlying26 hi0 v xs.length (ncells xs) hJ A c) (h v w (by rw [e, List.append_nil]; exact hJ) (Below.refl _ _))
  · obtain ⟨b, o1, e1, -, -⟩ := hS.at (k := 0) (by omega)
    subst e1
    refine step_append_lies w hgd s x _ ho B tNd i0 _ 3 32 Try.underlying26 hi0 hz0 hz1 hz2 rfl (by omega) v xs.length (ncells xs) hs hJ ⟨b, o1, none⟩ ys.length c (ncells ys) hx (ncells_len ys) (fun j u hj => ?_) (ncells_one ys) (by omega) (by unfold maxLen; omega) (by omega) hB _ rfl (fun g cap w' hown hgrow _ _ => ?_)
    · rw [addr_add]
      exact hS.cellsAt j u hj
    · have hbl : Below B w w' := (Below.refl B w).grown hgrow hB (fun q hq => (World.ownsRow.lt hJ q hq).1)
      refine h _ w' ?_ hbl
      unfold RowN
      rw [List.length_append, ncells_app]
      exact hown
theorem RowN.form {w : World} {B : Nat} {v : Value} {xs : List Nd} (h : RowN w B v xs) : ∃ A c, v = .slice A xs.length c := by
  rcases h.2 with ⟨rfl, h0⟩ | ⟨g, cap, cur, rfl, _⟩
  · exact ⟨none, 0, by rw [h0]⟩
  · exact ⟨_, cap, rfl⟩
theorem RowN.mono {w : World} {B B' : Nat} {v : Value} {xs : List Nd} (h : RowN w B v xs) (hB : B' ≤ B) : RowN w B' v xs := by
  refine ⟨h.1, ?_⟩
  rcases h.2 with hn | ⟨g, cap, cur, e, hb, rest⟩
  · exact Or.inl hn
  · exact Or.inr ⟨g, cap, cur, e, Nat.le_trans hB hb, rest⟩
theorem RowN.set {w : World} {b B : Nat} {v u : Value} {j : Nat} {xs : List Nd} (h : RowN w B v xs) (hb : b < B) : RowN (w.setCell ⟨b, j, none⟩ u) B v xs := by
  refine World.ownsRow.kept (row := some b) h ⟨rfl, rfl, rfl, by simp, fun k _ hne => blk_setCell_other _ _ _ _ (fun e => hne (by rw [e]))⟩ ?_
  right
  intro e
  have := (World.ownsRow.lt h b e).1
  omega
theorem RowN.below {w w' : World} {B : Nat} {v : Value} {xs : List Nd} (h : RowN w B v xs) (hb : Below w.heap.size w w') : RowN w' B v xs := ownsRow_of_block h fun g _ hl => hb.block g hl
theorem RowN.own {w : World} {B : Nat} {v : Value} {xs : List Nd} (h : RowN w B v xs) : OwN w (fun b => B ≤ b) v xs := by
  have hlt := fun k hk => (World.ownsRow.lt h k hk).1
  rcases h.2 with ⟨rfl, h0⟩ | ⟨g, cap, cur, rfl, _, h4, h5, h6, h7, h8⟩
  · have : xs = [] := List.eq_nil_of_length_eq_zero h0
    subst this
    exact ⟨none, 0, rfl, Nat.le_refl _, Or.inl rfl⟩
  · refine ⟨_, cap, rfl, by omega, Or.inr ⟨g, rfl, hlt g rfl, cur, h4, by rw [ncells_len]; omega, fun j hj => ?_⟩⟩
    have e : (ncells xs)[j]? = (cur.toList.take (xs.length * 3))[j]? := by rw [h8]
    rw [ncells_len] at hj
    rw [e, List.getElem?_take_of_lt (by omega)]
    simp
set_option maxRecDepth 100000 in
set_option maxHeartbeats 800000 in
theorem tmOwn_any (w : World) (B : Nat) (v : Value) (xs : List Nd) (hv : RdN w (fun b => b < B) v xs) (hB : B ≤ w.heap.size) (hl : xs.length ≤ 1000000) :
    Calls Try.prog 95 #[v] w fun e w' => ∃ v', e = .returned (.agg #[v']) ∧ Below w.heap.size w w' ∧ RowN w' w.heap.size v' xs := by
  obtain ⟨A, c, rfl⟩ := hv.len
  have HBN := Lib.hid (show Below w.heap.size w ((w.alloc (.cells #[.slice none 0 0] 28)).alloc (.cells #[] tNd)) from ((Below.refl _ _).alloc (Nat.le_refl _) _).alloc (by simp) _)
  have HV := Lib.hid (hv.below HBN.out hB)
  have HJ := Lib.hid (show RowN ((w.alloc (.cells #[.slice none 0 0] 28)).alloc (.cells #[] tNd)) (w.heap.size + 1) (.slice (some ⟨w.heap.size + 1, 0, none⟩) 0 0) [] from by have := World.ownsRow_lit (base := w.heap.size + 1) (size := 3) (e := tNd) (w.alloc (.cells #[.slice none 0 0] 28)) #[] 0 (by simp) (by unfold maxLen; omega) rfl; rw [show (w.alloc (.cells #[.slice none 0 0] 28)).heap.size = w.heap.size + 1 by simp] at this; exact this)
  have HT0 := Lib.hid (cellsAt_new' w #[.slice none 0 0] 28 [.slice none 0 0] w.heap.size rfl rfl)
  clear hv hB
  go_enter Try.func95, Try.ntmps95
  go_wp2_with (at_builtin; refine wpList_joinN (by rfl) (.tmp 3) (.tmp 4) (by rfl) _ (w.heap.size + 1) _ [] xs _ A _ c (by rfl) HJ.out (by rfl) HV.out (by simp) (by simp; omega) ?_; intro v2 w2 hj2 hb2; rw [List.nil_append] at hj2; have HJ2 := Lib.hid hj2; have HB2 := Lib.hid hb2; obtain ⟨A2, c2, rfl⟩ := hj2.form; have HT2 := Lib.hid ((HT0.out.alloc (.cells #[] 87)).below hb2 (by simp)); have hp0 : w2.cell? ⟨w.heap.size, 0, none⟩ = some (.slice none 0 0) := HT2.out.cell (i := 0) (by simp); have hpf : ∀ j, w2.frozen? ⟨w.heap.size, j, none⟩ = false := HT2.out.frozen; clear hj2 hb2)
  have hq : (w2.setCell ⟨w.heap.size, 0, none⟩ (.slice A2 xs.length c2)).cell? ⟨w.heap.size, 0, none⟩ = some (.slice A2 xs.length c2) := (HT2.out.set 0 (.slice A2 xs.length c2)).cell (i := 0) (by simp)
  refine bodyPost_ret (v := .agg #[.slice A2 xs.length c2]) (by simp [results, Try.results95, go_sem, hq]) rfl ?_
  refine ⟨_, rfl, ?_, RowN.mono (HJ2.out.set (by omega)) (by omega)⟩
  refine Below.setCell (HBN.out.trans (HB2.out.mono (by omega))) (Nat.le_refl _) _
end Go.Proofs.Ytiealgnmhjebeaa
