/- The program's nodes of a tree: appendTo through an interface, termOf. -/
import Derived.Test.YtiealgnmhjebeaaPtA
import Derived.Test.YtiealgnmhjebeaaNdA
import Derived.Deep.RegionHeld3
namespace Go.Proofs.Ytiealgnmhjebeaa
set_option maxRecDepth 100000
open Go Go.RowKit Go.Deep

/-- From w to w' only the row v of one's own has changed, and v' is that row or lies in new memory. -/
structure Gr (w w' : World) (v v' : Value) : Prop where
  grow : w.grownBy w' v.ownBlock
  own : ∀ k, v'.ownBlock = some k → v.ownBlock = some k ∨ w.heap.size ≤ k
theorem Gr.refl (w : World) (v : Value) : Gr w w v v := ⟨⟨rfl, rfl, rfl, Nat.le_refl _, fun _ _ _ => rfl⟩, fun _ h => Or.inl h⟩
theorem Gr.cells {w w' : World} {v v' : Value} {b : Nat} {t : TypeId} {vs : List Value} (h : Gr w w' v v') (hc : CellsAt w b t vs) (hb : v.ownBlock ≠ some b) : CellsAt w' b t vs := hc.of_block (h.grow.block b hc.lt (Ne.symm hb))
theorem Gr.pre {a b c : World} {v v' : Value} (h : Below a.heap.size a b) (g : Gr b c v v') : Gr a c v v' :=
  ⟨⟨g.grow.os.trans h.os, g.grow.tape.trans h.tape, g.grow.output.trans h.output, Nat.le_trans h.size g.grow.size, fun k hk hne => (g.grow.block k (Nat.lt_of_lt_of_le hk h.size) hne).trans (h.block k hk)⟩,
    fun k hk => (g.own k hk).imp id fun e => Nat.le_trans h.size e⟩
theorem Gr.trans {a b c : World} {v v1 v2 : Value} (h : Gr a b v v1) (g : Gr b c v1 v2) : Gr a c v v2 :=
  ⟨⟨g.grow.os.trans h.grow.os, g.grow.tape.trans h.grow.tape, g.grow.output.trans h.grow.output, Nat.le_trans h.grow.size g.grow.size, fun k hk hne => (g.grow.block k (Nat.lt_of_lt_of_le hk h.grow.size) (fun e => by
      rcases h.own k e.symm with e2 | e2
      · exact hne e2.symm
      · omega)).trans (h.grow.block k hk hne)⟩,
    fun k hk => by
      rcases g.own k hk with e | e
      · exact h.own k e
      · exact Or.inr (Nat.le_trans h.grow.size e)⟩
theorem Gr.below {w w' : World} {B : Nat} {v v' : Value} (h : Gr w w' v v') (hB : B ≤ w.heap.size) (ho : ∀ k, v.ownBlock = some k → B ≤ k) : Below B w w' :=
  ⟨h.grow.os, h.grow.tape, h.grow.output, h.grow.size, fun k hk => h.grow.block k (Nat.lt_of_lt_of_le hk hB) (fun e => by have := ho k e.symm; omega)⟩
theorem RowN.ge {w : World} {B : Nat} {v : Value} {xs : List Nd} (h : RowN w B v xs) (k : Nat) (hk : v.ownBlock = some k) : B ≤ k ∧ k < w.heap.size := World.ownsRow.lt h k hk
theorem step_joinG {ops : Array Oper} {o : Oper} {a : Act} {K : Act → World → Prop} {Q : Exit → Act → World → Prop} {E : Prop} (hgd : o.guard = none) (s x : Operand)
    (ho : o.op = .call { callee := .builtin .append, args := #[s, x], argTypes := #[26, 26] }) (w : World) (B : Nat) (v : Value) (xs ys : List Nd) (S : Nat → Prop) (A : Option Addr) (n c : Nat)
    (hs : a.eval s = v) (hJ : RowN w B v xs) (hx : a.eval x = .slice A n c) (hS : RdN w S (.slice A n c) ys) (hB : B ≤ w.heap.size) (hn : xs.length + ys.length ≤ 1000000)
    (h : ∀ v' w', RowN w' B v' (xs ++ ys) → Gr w w' v v' → K (a.put o.dst v') w') : if Region.wanted o (yielded ops a.tmps) = true then Oper.wp Try.prog o a w K Q else E := by
  obtain ⟨i0, hi0, hz0, hz1, hz2⟩ := info_parts infoN
  obtain rfl : n = ys.length := by
    obtain ⟨_, _, e, _⟩ := hS
    exact (sliceEq e).2.1
  by_cases h0 : ys.length = 0
  · rw [h0] at hx
    have e : ys = [] := List.length_eq_zero_iff.1 h0
    rw [if_pos (by simp [Region.wanted, hgd])]
    exact Lib.wp_append_run w s x _ _ ho _ _ hs hx v w (run_append_zero B _ _ tNd i0 3 Try.underlying26 hi0 v xs.length (ncells xs) hJ A c) (h v w (by rw [e, List.append_nil]; exact hJ) (Gr.refl _ _))
  · obtain ⟨b, o1, e1, -, -⟩ := hS.at (k := 0) (by omega)
    subst e1
    refine step_append_lies w hgd s x _ ho B tNd i0 _ 3 32 Try.underlying26 hi0 hz0 hz1 hz2 rfl (by omega) v xs.length (ncells xs) hs hJ ⟨b, o1, none⟩ ys.length c (ncells ys) hx (ncells_len ys) (fun j u hj => ?_) (ncells_one ys) (by omega) (by unfold maxLen; omega) (by omega) hB _ rfl (fun g cap w' hown hgrow hg _ => ?_)
    · rw [addr_add]
      exact hS.cellsAt j u hj
    · refine h _ w' ?_ ⟨hgrow, fun k hk => ?_⟩
      · unfold RowN
        rw [List.length_append, ncells_app]
        exact hown
      · have hgk : g = k := by simpa [Value.ownBlock] using hk
        subst hgk
        rcases hg with hg | hg
        · exact Or.inl hg
        · exact Or.inr (by omega)
theorem wpList_joinG {ops : Array Oper} {rest : List Oper} {o : Oper} {a : Act} {Q : Exit → Act → World → Prop} (hgd : o.guard = none) (s x : Operand)
    (ho : o.op = .call { callee := .builtin .append, args := #[s, x], argTypes := #[26, 26] }) (w : World) (B : Nat) (v : Value) (xs ys : List Nd) (S : Nat → Prop) (A : Option Addr) (n c : Nat)
    (hs : a.eval s = v) (hJ : RowN w B v xs) (hx : a.eval x = .slice A n c) (hS : RdN w S (.slice A n c) ys) (hB : B ≤ w.heap.size) (hn : xs.length + ys.length ≤ 1000000)
    (h : ∀ v' w', RowN w' B v' (xs ++ ys) → Gr w w' v v' → wpList Try.prog ops Q rest (a.put o.dst v') w') : wpList Try.prog ops Q (o :: rest) a w := by
  obtain ⟨i0, hi0, hz0, hz1, hz2⟩ := info_parts infoN
  obtain rfl : n = ys.length := by
    obtain ⟨_, _, e, _⟩ := hS
    exact (sliceEq e).2.1
  by_cases h0 : ys.length = 0
  · rw [h0] at hx
    have e : ys = [] := List.length_eq_zero_iff.1 h0
    exact Lib.wpList_append_run w hgd s x _ _ ho _ _ hs hx v w (run_append_zero B _ _ tNd i0 3 Try.underlying26 hi0 v xs.length (ncells xs) hJ A c) (h v w (by rw [e, List.append_nil]; exact hJ) (Gr.refl _ _))
  · obtain ⟨b, o1, e1, -, -⟩ := hS.at (k := 0) (by omega)
    subst e1
    refine wpList_append_lies w hgd s x _ ho B tNd i0 _ 3 32 Try.underlying26 hi0 hz0 hz1 hz2 rfl (by omega) v xs.length (ncells xs) hs hJ ⟨b, o1, none⟩ ys.length c (ncells ys) hx (ncells_len ys) (fun j u hj => ?_) (ncells_one ys) (by omega) (by unfold maxLen; omega) (by omega) hB _ rfl (fun g cap w' hown hgrow hg _ => ?_)
    · rw [addr_add]
      exact hS.cellsAt j u hj
    · refine h _ w' ?_ ⟨hgrow, fun k hk => ?_⟩
      · unfold RowN
        rw [List.length_append, ncells_app]
        exact hown
      · have hgk : g = k := by simpa [Value.ownBlock] using hk
        subst hgk
        rcases hg with hg | hg
        · exact Or.inl hg
        · exact Or.inr (by omega)
theorem rdN_one {w : World} {b : Nat} {n : Nd} (h : CellsAt w b tNd [.int .i64 n.k, .int .i64 n.v, .string n.s]) : RdN w (fun q => q < w.heap.size) (.slice (some ⟨b, 0, none⟩) 1 1) [n] :=
  OwN.readB (S := fun _ => True) ⟨_, 1, rfl, Nat.le_refl _, Or.inr ⟨b, rfl, trivial, h⟩⟩
abbrev ApSaid (w : World) (B : Nat) (v : Value) (xs ys : List Nd) (e : Ending) (w' : World) : Prop := ∃ v', e = .returned v' ∧ Gr w w' v v' ∧ RowN w' B v' (xs ++ ys)
set_option maxRecDepth 100000 in
set_option maxHeartbeats 3200000 in
theorem app_leaf (w : World) (B : Nat) (n : Nd) (i o : Int) (v : Value) (xs : List Nd) (hv : RowN w B v xs) (hB : B ≤ w.heap.size) (hl : xs.length ≤ 1000) : Calls Try.prog 166 #[.agg #[.int .i64 n.k, .int .i64 n.v, .string n.s, .int .i64 i, .int .i64 o], v] w (ApSaid w B v xs [n]) := by
  have HB0 := Lib.hid (show Below w.heap.size w ((w.alloc (.cells #[.int .i64 n.k, .int .i64 n.v, .string n.s, .int .i64 i, .int .i64 o] 179)).alloc (.cells #[.int .i64 n.k, .int .i64 n.v, .string n.s] tNd)) from ((Below.refl _ _).alloc (Nat.le_refl _) _).alloc (by simp) _)
  have HJ := Lib.hid (hv.below HB0.out)
  have HS := Lib.hid (rdN_one (n := n) (cellsAt_new' (w.alloc (.cells #[.int .i64 n.k, .int .i64 n.v, .string n.s, .int .i64 i, .int .i64 o] 179)) #[.int .i64 n.k, .int .i64 n.v, .string n.s] tNd [.int .i64 n.k, .int .i64 n.v, .string n.s] (w.heap.size + 1) (by simp) rfl))
  have HB := Lib.hid hB
  clear hv hB
  go_enter Try.func166, Try.ntmps166
  go_wp2_with (at_builtin; refine wpList_joinG (by rfl) (.tmp 5) (.tmp 8) (by rfl) _ B _ xs [n] _ _ 1 1 (by rfl) HJ.out (by rfl) HS.out (by have := HB.out; simp; omega) (by simp; omega) ?_; intro v2 w2 hj2 hg2; have HJ2 := Lib.hid hj2; have HG2 := Lib.hid hg2; clear hj2 hg2)
  go_ret
  exact ⟨_, rfl, Gr.pre HB0.out HG2.out, HJ2.out⟩
set_option maxRecDepth 100000 in
set_option maxHeartbeats 12800000 in
theorem app_seq (w : World) (B : Nat) (Ta Tb : TypeId) (Va Vb : Value) (ga gb : FuncId) (i o : Int) (na nb : List Nd) (v : Value) (xs : List Nd)
    (hma : ∀ n w, 0 < n → Sem.run Try.prog (method n Ta Va "loop.example/g01073/impl.appendTo") w = .ok (ga, Va) w) (hca : ∀ u w, Sem.run Try.prog (callFunc ga #[Va, u]) w = .ok (.enter ga #[Va, u]) w)
    (hCa : ∀ (w : World) (v : Value) (xs : List Nd), RowN w B v xs → B ≤ w.heap.size → xs.length + na.length ≤ 1000 → Calls Try.prog ga #[Va, v] w (ApSaid w B v xs na))
    (hmb : ∀ n w, 0 < n → Sem.run Try.prog (method n Tb Vb "loop.example/g01073/impl.appendTo") w = .ok (gb, Vb) w) (hcb : ∀ u w, Sem.run Try.prog (callFunc gb #[Vb, u]) w = .ok (.enter gb #[Vb, u]) w)
    (hCb : ∀ (w : World) (v : Value) (xs : List Nd), RowN w B v xs → B ≤ w.heap.size → xs.length + nb.length ≤ 1000 → Calls Try.prog gb #[Vb, v] w (ApSaid w B v xs nb))
    (hv : RowN w B v xs) (hB : B ≤ w.heap.size) (hl : xs.length + (na.length + (nb.length + 1)) ≤ 1000) :
    Calls Try.prog 170 #[.agg #[.iface Ta Va, .iface Tb Vb, .int .i64 i, .int .i64 o], v] w (ApSaid w B v xs (na ++ (nb ++ [jointN 15]))) := by
  have HCa := Lib.hid hCa
  have HCb := Lib.hid hCb
  have HB0 := Lib.hid (show Below w.heap.size w (w.alloc (.cells #[.iface Ta Va, .iface Tb Vb, .int .i64 i, .int .i64 o] 193)) from (Below.refl _ _).alloc (Nat.le_refl _) _)
  have HJ := Lib.hid (hv.below HB0.out)
  have HT0 := Lib.hid (cellsAt_new' w #[.iface Ta Va, .iface Tb Vb, .int .i64 i, .int .i64 o] 193 [.iface Ta Va, .iface Tb Vb, .int .i64 i, .int .i64 o] w.heap.size rfl rfl)
  have HOV := Lib.hid (show ∀ k, v.ownBlock = some k → k < w.heap.size from fun k e => (RowN.ge hv _ e).2)
  have HB := Lib.hid hB
  have HSD : Hid (∀ w' : World, CellsAt w' w.heap.size 193 [.iface Ta Va, .iface Tb Vb, .int .i64 i, .int .i64 o] → w'.cell? ⟨w.heap.size, 0, none⟩ = some (.iface Ta Va) ∧ w'.cell? ⟨w.heap.size, 1, none⟩ = some (.iface Tb Vb)) := Lib.hid (fun w' h => ⟨h.cell (i := 0) (by simp), h.cell (i := 1) (by simp)⟩)
  have HLA := Lib.hid (show xs.length + na.length ≤ 1000 by omega)
  have HLB := Lib.hid (show (xs ++ na).length + nb.length ≤ 1000 by rw [List.length_append]; omega)
  have HLC := Lib.hid (show (xs ++ na ++ nb).length + [jointN 15].length ≤ 1000000 by rw [List.length_append, List.length_append]; simp; omega)
  clear hCa hCb hv hB hl
  go_enter Try.func170, Try.ntmps170
  go_wp2
  go_region_held3 (fun w' => w'.cell? ⟨w.heap.size, 0, none⟩ = some (.iface Ta Va) ∧ w'.cell? ⟨w.heap.size, 1, none⟩ = some (.iface Tb Vb))
    (first | (refine HSD.out _ ?_; repeat' (first | with_reducible exact HT3.out | with_reducible exact HT2.out | with_reducible exact HT1.out | with_reducible exact HT0.out | apply CellsAt.drew | apply CellsAt.alloc)) | fail)
    (first
      | (go_split_ands; (with_reducible refine (HCa.out _ v xs (HJ.out.below (by repeat' (first | exact Below.refl _ _ | apply Below.drew | apply Below.alloc | (simp; done) | omega | (simp; omega)))) (by have := HB.out; simp; omega) HLA.out).mono ?_); rintro e w1 ⟨v1, rfl, g1, o1⟩; have HP1 := Lib.hid g1; have HT1 := Lib.hid (g1.cells (by repeat' (first | with_reducible exact HT0.out | apply CellsAt.drew | apply CellsAt.alloc) : CellsAt _ w.heap.size 193 [.iface Ta Va, .iface Tb Vb, .int .i64 i, .int .i64 o]) (fun e => absurd (HOV.out _ e) (Nat.lt_irrefl _))); have HG1 : Hid (Gr (w.alloc (.cells #[.iface Ta Va, .iface Tb Vb, .int .i64 i, .int .i64 o] 193)) w1 v v1) := Lib.hid (Gr.pre (by repeat' (first | exact Below.refl _ _ | apply Below.drew | apply Below.alloc | (simp; done) | omega | (simp; omega))) g1); have HJ1 := Lib.hid o1; have hsz1 : w.heap.size + 1 ≤ w1.heap.size := Nat.le_trans (by simp) HG1.out.grow.size; clear g1 o1)
      | (go_split_ands; (with_reducible refine (HCb.out _ v1 (xs ++ na) (HJ1.out.below (by repeat' (first | exact Below.refl _ _ | apply Below.drew | apply Below.alloc | (simp; done) | omega | (simp; omega)))) (by have := HB.out; simp; omega) HLB.out).mono ?_); rintro e w2 ⟨v2, rfl, g2, o2⟩; have HP2 := Lib.hid g2; have HT2 := Lib.hid (g2.cells (by repeat' (first | with_reducible exact HT1.out | apply CellsAt.drew | apply CellsAt.alloc) : CellsAt _ w.heap.size 193 [.iface Ta Va, .iface Tb Vb, .int .i64 i, .int .i64 o]) (fun e => by rcases HG1.out.own _ e with e | e; exact absurd (HOV.out _ e) (Nat.lt_irrefl _); simp at e; omega)); have HG2 : Hid (Gr w1 w2 v1 v2) := Lib.hid (Gr.pre (by repeat' (first | exact Below.refl _ _ | apply Below.drew | apply Below.alloc | (simp; done) | omega | (simp; omega))) g2); have HJ2 := Lib.hid o2; have hsz2 : w1.heap.size ≤ w2.heap.size := HG2.out.grow.size; clear g2 o2)
      | (refine step_joinG (by rfl) (.tmp 13) (.tmp 15) (by rfl) _ B v2 (xs ++ na ++ nb) [jointN 15] _ _ 1 1 (by rfl) (HJ2.out.below (by repeat' (first | exact Below.refl _ _ | apply Below.drew | apply Below.alloc | (simp; done) | omega | (simp; omega)))) (by rfl) (by first | exact (rdN_one (n := jointN 15) (cellsAt_new' w2 #[.int .i64 15, .int .i64 0, .string ByteArray.empty] tNd [.int .i64 15, .int .i64 0, .string ByteArray.empty] w2.heap.size (by simp) rfl)) | exact (rdN_one (n := jointN 15) (HP2.out.cells (cellsAt_new' w1 #[.int .i64 15, .int .i64 0, .string ByteArray.empty] tNd [.int .i64 15, .int .i64 0, .string ByteArray.empty] w1.heap.size (by simp) rfl) (fun e => absurd (RowN.ge HJ1.out _ e).2 (Nat.lt_irrefl _)))) | exact (rdN_one (n := jointN 15) (HP2.out.cells (HP1.out.cells (cellsAt_new' (w.alloc (.cells #[.iface Ta Va, .iface Tb Vb, .int .i64 i, .int .i64 o] 193)) #[.int .i64 15, .int .i64 0, .string ByteArray.empty] tNd [.int .i64 15, .int .i64 0, .string ByteArray.empty] (w.heap.size + 1) (by simp) rfl) (fun e => by have := HOV.out _ e; omega)) (fun e => by rcases HP1.out.own _ e with e | e; (have := HOV.out _ e; omega); (simp at e; omega))))) (by have := HB.out; simp; omega) HLC.out ?_; intro v3 w3 hj3 hg3; have HJ3 := Lib.hid hj3; have HG3 : Hid (Gr w2 w3 v2 v3) := Lib.hid (Gr.pre (by repeat' (first | exact Below.refl _ _ | apply Below.drew | apply Below.alloc | (simp; done) | omega | (simp; omega))) hg3); have HT3 := Lib.hid (hg3.cells (by repeat' (first | with_reducible exact HT2.out | apply CellsAt.drew | apply CellsAt.alloc) : CellsAt _ w.heap.size 193 [.iface Ta Va, .iface Tb Vb, .int .i64 i, .int .i64 o]) (fun e => by rcases HG2.out.own _ e with e | e; (rcases HG1.out.own _ e with e | e; exact absurd (HOV.out _ e) (Nat.lt_irrefl _); simp at e; omega); omega)); clear hj3 hg3)
      | fail)
  all_goals go_wp2
  all_goals go_ret
  all_goals exact ⟨_, rfl, Gr.pre HB0.out (HG1.out.trans (HG2.out.trans HG3.out)), by have := HJ3.out; rwa [List.append_assoc, List.append_assoc] at this⟩
set_option maxRecDepth 100000 in
set_option maxHeartbeats 12800000 in
theorem app_par (w : World) (B : Nat) (Ta Tb : TypeId) (Va Vb : Value) (ga gb : FuncId) (i o : Int) (na nb : List Nd) (v : Value) (xs : List Nd)
    (hma : ∀ n w, 0 < n → Sem.run Try.prog (method n Ta Va "loop.example/g01073/impl.appendTo") w = .ok (ga, Va) w) (hca : ∀ u w, Sem.run Try.prog (callFunc ga #[Va, u]) w = .ok (.enter ga #[Va, u]) w)
    (hCa : ∀ (w : World) (v : Value) (xs : List Nd), RowN w B v xs → B ≤ w.heap.size → xs.length + na.length ≤ 1000 → Calls Try.prog ga #[Va, v] w (ApSaid w B v xs na))
    (hmb : ∀ n w, 0 < n → Sem.run Try.prog (method n Tb Vb "loop.example/g01073/impl.appendTo") w = .ok (gb, Vb) w) (hcb : ∀ u w, Sem.run Try.prog (callFunc gb #[Vb, u]) w = .ok (.enter gb #[Vb, u]) w)
    (hCb : ∀ (w : World) (v : Value) (xs : List Nd), RowN w B v xs → B ≤ w.heap.size → xs.length + nb.length ≤ 1000 → Calls Try.prog gb #[Vb, v] w (ApSaid w B v xs nb))
    (hv : RowN w B v xs) (hB : B ≤ w.heap.size) (hl : xs.length + (na.length + (nb.length + 1)) ≤ 1000) :
    Calls Try.prog 174 #[.agg #[.iface Ta Va, .iface Tb Vb, .int .i64 i, .int .i64 o], v] w (ApSaid w B v xs (na ++ (nb ++ [jointN 16]))) := by
  have HCa := Lib.hid hCa
  have HCb := Lib.hid hCb
  have HB0 := Lib.hid (show Below w.heap.size w (w.alloc (.cells #[.iface Ta Va, .iface Tb Vb, .int .i64 i, .int .i64 o] 194)) from (Below.refl _ _).alloc (Nat.le_refl _) _)
  have HJ := Lib.hid (hv.below HB0.out)
  have HT0 := Lib.hid (cellsAt_new' w #[.iface Ta Va, .iface Tb Vb, .int .i64 i, .int .i64 o] 194 [.iface Ta Va, .iface Tb Vb, .int .i64 i, .int .i64 o] w.heap.size rfl rfl)
  have HOV := Lib.hid (show ∀ k, v.ownBlock = some k → k < w.heap.size from fun k e => (RowN.ge hv _ e).2)
  have HB := Lib.hid hB
  have HSD : Hid (∀ w' : World, CellsAt w' w.heap.size 194 [.iface Ta Va, .iface Tb Vb, .int .i64 i, .int .i64 o] → w'.cell? ⟨w.heap.size, 0, none⟩ = some (.iface Ta Va) ∧ w'.cell? ⟨w.heap.size, 1, none⟩ = some (.iface Tb Vb)) := Lib.hid (fun w' h => ⟨h.cell (i := 0) (by simp), h.cell (i := 1) (by simp)⟩)
  have HLA := Lib.hid (show xs.length + na.length ≤ 1000 by omega)
  have HLB := Lib.hid (show (xs ++ na).length + nb.length ≤ 1000 by rw [List.length_append]; omega)
  have HLC := Lib.hid (show (xs ++ na ++ nb).length + [jointN 16].length ≤ 1000000 by rw [List.length_append, List.length_append]; simp; omega)
  clear hCa hCb hv hB hl
  go_enter Try.func174, Try.ntmps174
  go_wp2
  go_region_held3 (fun w' => w'.cell? ⟨w.heap.size, 0, none⟩ = some (.iface Ta Va) ∧ w'.cell? ⟨w.heap.size, 1, none⟩ = some (.iface Tb Vb))
    (first | (refine HSD.out _ ?_; repeat' (first | with_reducible exact HT3.out | with_reducible exact HT2.out | with_reducible exact HT1.out | with_reducible exact HT0.out | apply CellsAt.drew | apply CellsAt.alloc)) | fail)
    (first
      | (go_split_ands; (with_reducible refine (HCa.out _ v xs (HJ.out.below (by repeat' (first | exact Below.refl _ _ | apply Below.drew | apply Below.alloc | (simp; done) | omega | (simp; omega)))) (by have := HB.out; simp; omega) HLA.out).mono ?_); rintro e w1 ⟨v1, rfl, g1, o1⟩; have HP1 := Lib.hid g1; have HT1 := Lib.hid (g1.cells (by repeat' (first | with_reducible exact HT0.out | apply CellsAt.drew | apply CellsAt.alloc) : CellsAt _ w.heap.size 194 [.iface Ta Va, .iface Tb Vb, .int .i64 i, .int .i64 o]) (fun e => absurd (HOV.out _ e) (Nat.lt_irrefl _))); have HG1 : Hid (Gr (w.alloc (.cells #[.iface Ta Va, .iface Tb Vb, .int .i64 i, .int .i64 o] 194)) w1 v v1) := Lib.hid (Gr.pre (by repeat' (first | exact Below.refl _ _ | apply Below.drew | apply Below.alloc | (simp; done) | omega | (simp; omega))) g1); have HJ1 := Lib.hid o1; have hsz1 : w.heap.size + 1 ≤ w1.heap.size := Nat.le_trans (by simp) HG1.out.grow.size; clear g1 o1)
      | (go_split_ands; (with_reducible refine (HCb.out _ v1 (xs ++ na) (HJ1.out.below (by repeat' (first | exact Below.refl _ _ | apply Below.drew | apply Below.alloc | (simp; done) | omega | (simp; omega)))) (by have := HB.out; simp; omega) HLB.out).mono ?_); rintro e w2 ⟨v2, rfl, g2, o2⟩; have HP2 := Lib.hid g2; have HT2 := Lib.hid (g2.cells (by repeat' (first | with_reducible exact HT1.out | apply CellsAt.drew | apply CellsAt.alloc) : CellsAt _ w.heap.size 194 [.iface Ta Va, .iface Tb Vb, .int .i64 i, .int .i64 o]) (fun e => by rcases HG1.out.own _ e with e | e; exact absurd (HOV.out _ e) (Nat.lt_irrefl _); simp at e; omega)); have HG2 : Hid (Gr w1 w2 v1 v2) := Lib.hid (Gr.pre (by repeat' (first | exact Below.refl _ _ | apply Below.drew | apply Below.alloc | (simp; done) | omega | (simp; omega))) g2); have HJ2 := Lib.hid o2; have hsz2 : w1.heap.size ≤ w2.heap.size := HG2.out.grow.size; clear g2 o2)
      | (refine step_joinG (by rfl) (.tmp 13) (.tmp 15) (by rfl) _ B v2 (xs ++ na ++ nb) [jointN 16] _ _ 1 1 (by rfl) (HJ2.out.below (by repeat' (first | exact Below.refl _ _ | apply Below.drew | apply Below.alloc | (simp; done) | omega | (simp; omega)))) (by rfl) (by first | exact (rdN_one (n := jointN 16) (cellsAt_new' w2 #[.int .i64 16, .int .i64 0, .string ByteArray.empty] tNd [.int .i64 16, .int .i64 0, .string ByteArray.empty] w2.heap.size (by simp) rfl)) | exact (rdN_one (n := jointN 16) (HP2.out.cells (cellsAt_new' w1 #[.int .i64 16, .int .i64 0, .string ByteArray.empty] tNd [.int .i64 16, .int .i64 0, .string ByteArray.empty] w1.heap.size (by simp) rfl) (fun e => absurd (RowN.ge HJ1.out _ e).2 (Nat.lt_irrefl _)))) | exact (rdN_one (n := jointN 16) (HP2.out.cells (HP1.out.cells (cellsAt_new' (w.alloc (.cells #[.iface Ta Va, .iface Tb Vb, .int .i64 i, .int .i64 o] 194)) #[.int .i64 16, .int .i64 0, .string ByteArray.empty] tNd [.int .i64 16, .int .i64 0, .string ByteArray.empty] (w.heap.size + 1) (by simp) rfl) (fun e => by have := HOV.out _ e; omega)) (fun e => by rcases HP1.out.own _ e with e | e; (have := HOV.out _ e; omega); (simp at e; omega))))) (by have := HB.out; simp; omega) HLC.out ?_; intro v3 w3 hj3 hg3; have HJ3 := Lib.hid hj3; have HG3 : Hid (Gr w2 w3 v2 v3) := Lib.hid (Gr.pre (by repeat' (first | exact Below.refl _ _ | apply Below.drew | apply Below.alloc | (simp; done) | omega | (simp; omega))) hg3); have HT3 := Lib.hid (hg3.cells (by repeat' (first | with_reducible exact HT2.out | apply CellsAt.drew | apply CellsAt.alloc) : CellsAt _ w.heap.size 194 [.iface Ta Va, .iface Tb Vb, .int .i64 i, .int .i64 o]) (fun e => by rcases HG2.out.own _ e with e | e; (rcases HG1.out.own _ e with e | e; exact absurd (HOV.out _ e) (Nat.lt_irrefl _); simp at e; omega); omega)); clear hj3 hg3)
      | fail)
  all_goals go_wp2
  all_goals go_ret
  all_goals exact ⟨_, rfl, Gr.pre HB0.out (HG1.out.trans (HG2.out.trans HG3.out)), by have := HJ3.out; rwa [List.append_assoc, List.append_assoc] at this⟩
theorem trV_app (B : Nat) : ∀ t : Tr, ∃ T V g, trV t = .iface T V ∧ (∀ n w, 0 < n → Sem.run Try.prog (method n T V "loop.example/g01073/impl.appendTo") w = .ok (g, V) w) ∧ (∀ u w, Sem.run Try.prog (callFunc g #[V, u]) w = .ok (.enter g #[V, u]) w) ∧
    (∀ (w : World) (v : Value) (xs : List Nd), RowN w B v xs → B ≤ w.heap.size → xs.length + (nodesOf t).length ≤ 1000 → Calls Try.prog g #[V, v] w (ApSaid w B v xs (nodesOf t)))
  | .leaf n i o => by
    refine ⟨tLeafT, .agg #[.int .i64 n.k, .int .i64 n.v, .string n.s, .int .i64 i, .int .i64 o], 166, rfl, fun m w hm => ?_, fun u w => by kernel_rfl, fun w v xs hv hB hl => app_leaf w B n i o v xs hv hB (by omega)⟩
    obtain ⟨m, rfl⟩ : ∃ q, m = q + 1 := ⟨m - 1, by omega⟩
    kernel_rfl
  | .seq a b i o => by
    obtain ⟨Ta, Va, ga, ea, hma, hca, hCa⟩ := trV_app B a
    obtain ⟨Tb, Vb, gb, eb, hmb, hcb, hCb⟩ := trV_app B b
    refine ⟨tSeqT, .agg #[trV a, trV b, .int .i64 i, .int .i64 o], 170, rfl, fun m w hm => ?_, fun u w => by kernel_rfl, fun w v xs hv hB hl => ?_⟩
    · obtain ⟨m, rfl⟩ : ∃ q, m = q + 1 := ⟨m - 1, by omega⟩
      kernel_rfl
    · rw [ea, eb]
      exact app_seq w B Ta Tb Va Vb ga gb i o _ _ v xs hma hca hCa hmb hcb hCb hv hB (by simp only [nodesOf, List.length_append, List.length_cons, List.length_nil] at hl; omega)
  | .par a b i o => by
    obtain ⟨Ta, Va, ga, ea, hma, hca, hCa⟩ := trV_app B a
    obtain ⟨Tb, Vb, gb, eb, hmb, hcb, hCb⟩ := trV_app B b
    refine ⟨tParT, .agg #[trV a, trV b, .int .i64 i, .int .i64 o], 174, rfl, fun m w hm => ?_, fun u w => by kernel_rfl, fun w v xs hv hB hl => ?_⟩
    · obtain ⟨m, rfl⟩ : ∃ q, m = q + 1 := ⟨m - 1, by omega⟩
      kernel_rfl
    · rw [ea, eb]
      exact app_par w B Ta Tb Va Vb ga gb i o _ _ v xs hma hca hCa hmb hcb hCb hv hB (by simp only [nodesOf, List.length_append, List.length_cons, List.length_nil] at hl; omega)
set_option maxRecDepth 100000 in
set_option maxHeartbeats 3200000 in
/-- A tree's term. -/
theorem termOf_any (w : World) (t : Tr) (hl : (nodesOf t).length ≤ 1000) : Calls Try.prog 36 #[trV t] w fun e w' => ∃ v', e = .returned (.agg #[v']) ∧ Below w.heap.size w w' ∧ RowN w' w.heap.size v' (nodesOf t) := by
  obtain ⟨T, V, g, et, hm, hc, hC⟩ := trV_app (w.heap.size + 1) t
  have HR0 := Lib.hid (cellsAt_new' w #[.slice none 0 0] 28 [.slice none 0 0] w.heap.size rfl rfl)
  have HC := Lib.hid (hC (w.alloc (.cells #[.slice none 0 0] 28)) (.slice none 0 0) [] (World.ownsRow_nil _ _ _ _) (by simp) (by simpa using hl))
  have HB0 := Lib.hid (show Below w.heap.size w (w.alloc (.cells #[.slice none 0 0] 28)) from (Below.refl _ _).alloc (Nat.le_refl _) _)
  rw [et]
  clear hC et hl
  generalize nodesOf t = x at *
  go_enter Try.func36, Try.ntmps36
  go_wp2_with (first | ((with_reducible refine HC.out.mono ?_); rintro e w2 ⟨v2, rfl, g2, o2⟩; rw [List.nil_append] at o2; obtain ⟨A2, c2, rfl⟩ := o2.form; have HG2 := Lib.hid g2; have HO2 := Lib.hid o2; have HR2 := Lib.hid (g2.cells HR0.out (by simp [Value.ownBlock])); have hp0 : w2.cell? ⟨w.heap.size, 0, none⟩ = some (.slice none 0 0) := HR2.out.cell (i := 0) (by simp); have hpf := HR2.out.frozen; clear g2 o2) | fail)
  have hq : (w2.setCell ⟨w.heap.size, 0, none⟩ (.slice A2 x.length c2)).cell? ⟨w.heap.size, 0, none⟩ = some (.slice A2 x.length c2) := (HR2.out.set 0 (.slice A2 x.length c2)).cell (i := 0) (by simp)
  refine bodyPost_ret (v := .agg #[.slice A2 x.length c2]) (by simp [results, Try.results36, go_sem, hq]) rfl ?_
  refine ⟨_, rfl, ?_, RowN.mono (HO2.out.set (by omega)) (by omega)⟩
  exact Below.setCell (HB0.out.trans ((HG2.out.below (B := w.heap.size) (by simp) (fun k hk => by simp [Value.ownBlock] at hk)))) (Nat.le_refl _) _
end Go.Proofs.Ytiealgnmhjebeaa
