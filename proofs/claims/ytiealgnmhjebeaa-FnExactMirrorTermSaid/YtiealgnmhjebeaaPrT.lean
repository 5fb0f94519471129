/- The model's parts of a composition or juxtaposition: two copies. -/
import Derived.Test.YtiealgnmhjebeaaTmQ
import Derived.Test.YtiealgnmhjebeaaNdA
import Derived.Test.YtiealgnmhjebeaaCkT
import Derived.Deep.RegionHeld3
namespace Go.Proofs.Ytiealgnmhjebeaa
set_option maxRecDepth 100000
open Go Go.RowKit Go.Deep

/-- t joins a and b. -/
def Jt (t a b : Tr) : Prop := (∃ i o, t = .seq a b i o) ∨ (∃ i o, t = .par a b i o)
theorem Jt.nodes {t a b : Tr} (h : Jt t a b) : ∃ K, (K = 15 ∨ K = 16) ∧ nodesOf t = nodesOf a ++ (nodesOf b ++ [jointN K]) := by
  rcases h with ⟨i, o, rfl⟩ | ⟨i, o, rfl⟩
  · exact ⟨15, Or.inl rfl, rfl⟩
  · exact ⟨16, Or.inr rfl, rfl⟩
theorem Jt.valid {t a b : Tr} (h : Jt t a b) (hv : VTr t) : VTr a ∧ VTr b := by
  rcases h with ⟨i, o, rfl⟩ | ⟨i, o, rfl⟩
  · exact ⟨hv.1, hv.2.1⟩
  · exact ⟨hv.1, hv.2.1⟩
theorem Jt.first {t a b : Tr} (h : Jt t a b) (hv : VTr t) : ∃ X, scanS .nil 0 (nodesOf t) = some X ∧ X.len (nodesOf t).length ∧ X.f.getD ((nodesOf a).length + (nodesOf b).length - 1) 0 = ((nodesOf a).length : Int) := by
  obtain ⟨X, h1, h2, -, h3⟩ := scan_sub t .nil 0 hv ⟨rfl, rfl, rfl⟩
  have pa := nodes_pos a
  have pb := nodes_pos b
  refine ⟨X, h1, by rwa [Nat.zero_add] at h2, ?_⟩
  have h4 := (h3 ((nodesOf a).length + (nodesOf b).length - 1) (by
    obtain ⟨K, -, e⟩ := h.nodes
    rw [e, List.length_append, List.length_append, List.length_cons, List.length_nil]
    omega)).1
  have e : subAt t ((nodesOf a).length + (nodesOf b).length - 1) = b := by
    rcases h with ⟨i, o, rfl⟩ | ⟨i, o, rfl⟩
    · rw [subAt, if_neg (by omega), if_pos (by omega), show (nodesOf a).length + (nodesOf b).length - 1 - (nodesOf a).length = (nodesOf b).length - 1 by omega]
      exact sub_last b
    · rw [subAt, if_neg (by omega), if_pos (by omega), show (nodesOf a).length + (nodesOf b).length - 1 - (nodesOf a).length = (nodesOf b).length - 1 by omega]
      exact sub_last b
  rw [e, Nat.zero_add] at h4
  rw [h4]
  congr 1
  omega
theorem nodes_plain : ∀ {t : Tr}, VTr t → ∀ n ∈ nodesOf t, n.s = ByteArray.empty
  | .leaf n i o, h, m, hm => by
    obtain rfl := List.mem_singleton.1 hm
    have := h.1
    unfold isLeafB at this
    simp at this
    exact this.2
  | .seq a b i o, h, m, hm => by
    simp only [nodesOf, List.mem_append, List.mem_singleton] at hm
    rcases hm with hm | hm | rfl
    · exact nodes_plain h.1 m hm
    · exact nodes_plain h.2.1 m hm
    · rfl
  | .par a b i o, h, m, hm => by
    simp only [nodesOf, List.mem_append, List.mem_singleton] at hm
    rcases hm with hm | hm | rfl
    · exact nodes_plain h.1 m hm
    · exact nodes_plain h.2.1 m hm
    · rfl
/-- A valid term's nodes, in the form of the harness. -/
theorem LfN.tree {w : World} {B : Nat} {v : Value} {t : Tr} (hv : VTr t) (hl : (nodesOf t).length ≤ 400) (h : RdN w (fun b => b < B) v (nodesOf t)) : LfN w B v (nodesOf t) :=
  ⟨h, by omega, fun k hk => by rw [nodes_plain hv _ (getD_mem' hk nd0)]; exact Nat.zero_le _⟩
theorem RdN.take {w : World} {S : Nat → Prop} {b o n c : Nat} {x y : List Nd} (h : RdN w S (.slice (some ⟨b, o, none⟩) n c) (x ++ y)) : RdN w S (.slice (some ⟨b, o, none⟩) x.length c) x := by
  obtain ⟨A', c', e, hc, _⟩ := id h
  obtain ⟨-, -, rfl⟩ := sliceEq e
  rw [List.length_append] at hc
  refine ⟨_, c, rfl, by omega, fun k hk => ?_⟩
  obtain ⟨b', o', e2, hS, c0, c1, c2⟩ := h.at (k := k) (by rw [List.length_append]; omega)
  obtain ⟨rfl, rfl⟩ : b = b' ∧ o = o' := by simpa using e2
  have e3 : (x ++ y).getD k nd0 = x.getD k nd0 := by rw [List.getD_eq_getElem?_getD, List.getElem?_append_left hk, List.getD_eq_getElem?_getD]
  rw [e3] at c0 c1 c2
  exact ⟨b, o, rfl, hS, c0, c1, c2⟩
theorem RdN.drop {w : World} {S : Nat → Prop} {b o n c : Nat} {x y : List Nd} (h : RdN w S (.slice (some ⟨b, o, none⟩) n c) (x ++ y)) : RdN w S (.slice (some ⟨b, o + x.length * 3, none⟩) y.length (c - x.length)) y := by
  obtain ⟨A', c', e, hc, _⟩ := id h
  obtain ⟨-, -, rfl⟩ := sliceEq e
  rw [List.length_append] at hc
  refine ⟨_, c - x.length, rfl, by omega, fun k hk => ?_⟩
  obtain ⟨b', o', e2, hS, c0, c1, c2⟩ := h.at (k := x.length + k) (by rw [List.length_append]; omega)
  obtain ⟨rfl, rfl⟩ : b = b' ∧ o = o' := by simpa using e2
  have e3 : (x ++ y).getD (x.length + k) nd0 = y.getD k nd0 := by rw [List.getD_eq_getElem?_getD, List.getElem?_append_right (by omega), Nat.add_sub_cancel_left, List.getD_eq_getElem?_getD]
  rw [e3] at c0 c1 c2
  have e4 : o + x.length * 3 + k * 3 = o + (x.length + k) * 3 := by omega
  exact ⟨b, _, rfl, hS, by rw [e4]; exact c0, by rw [e4]; exact c1, by rw [e4]; exact c2⟩
set_option maxRecDepth 100000 in
set_option maxHeartbeats 800000 in
theorem tmTop_any (w : World) (B : Nat) (v : Value) (x : List Nd) (hv : LfN w B v x) (hB : B ≤ w.heap.size) (h1 : 1 ≤ x.length) (h4 : x.length ≤ 400) :
    Calls Try.prog 65 #[.agg #[v]] w fun e w' => e = .returned (.int .i64 (x.getD (x.length - 1) nd0).k) ∧ Below w.heap.size w w' := by
  have HB0 := Lib.hid (Below.alloc (Below.refl w.heap.size w) (Nat.le_refl _) (.cells #[v] tTm))
  obtain ⟨m, e1, hm⟩ : ∃ m : Nat, (x.length : Int) - 1 = (m : Int) ∧ x.length = m + 1 := ⟨x.length - 1, by omega, by omega⟩
  have hmm : x.length - 1 = m := by omega
  rw [hmm]
  have hV2 := hv.1.below HB0.out hB
  obtain ⟨A, c, rfl⟩ := hv.len
  obtain ⟨b, o, rfl, hb, hc0, -, -⟩ := hV2.at (k := m) (by omega)
  have hw : IntKind.i64.wrap (m : Int) = (m : Int) := Go.IntWalk.i64_in _ ⟨by omega, by omega⟩
  have hmI : (m : Int) < (x.length : Int) := by omega
  have hm0 : (0 : Int) ≤ (m : Int) := by omega
  clear hv hV2 hmm hm
  go_enter Try.func65, Try.ntmps65
  go_wp2
  refine bodyPost_ret (v := .int .i64 (x.getD m nd0).k) (by simp [results, Try.results65, go_sem]) rfl ?_
  exact ⟨rfl, HB0.out⟩
def PartsSaid (w : World) (a b : List Nd) (e : Ending) (w' : World) : Prop :=
  ∃ va vb, e = .returned (.tuple #[.agg #[va], .agg #[vb]]) ∧ Below w.heap.size w w' ∧ RowN w' w.heap.size va a ∧ RowN w' w.heap.size vb b
set_option maxRecDepth 100000 in
set_option maxHeartbeats 12800000 in
theorem tmParts_any (w : World) (B : Nat) (v : Value) (t ta tb : Tr) (hj : Jt t ta tb) (hV : VTr t) (hl : (nodesOf t).length ≤ 400) (hv : LfN w B v (nodesOf t)) (hB : B ≤ w.heap.size) :
    Calls Try.prog 68 #[.agg #[v]] w (PartsSaid w (nodesOf ta) (nodesOf tb)) := by
  obtain ⟨K, hK, hn⟩ := hj.nodes
  obtain ⟨X, hX, hXl, hf⟩ := hj.first hV
  have hok : okS (nodesOf t) = true := by rw [ok_both, tree_nodes hV hl]; rfl
  have pa := nodes_pos ta
  have pb := nodes_pos tb
  have hlen : (nodesOf t).length = (nodesOf ta).length + (nodesOf tb).length + 1 := by rw [hn]; simp; omega
  have hva := hj.valid hV
  generalize nodesOf ta = xa at *
  generalize nodesOf tb = xb at *
  have HN := Lib.hid hn
  generalize nodesOf t = x at *
  have HLEN := Lib.hid hlen
  have HB0 := Lib.hid (((Below.refl w.heap.size w).alloc (Nat.le_refl _) (.cells #[v] tTm)).alloc (by simp) (.cells #[.slice none 0 0] tTm) |>.alloc (by simp; omega) (.cells #[.slice none 0 0] tTm))
  have HSC := Lib.hid (tmScan_any (((w.alloc (.cells #[v] tTm)).alloc (.cells #[.slice none 0 0] tTm)).alloc (.cells #[.slice none 0 0] tTm)) B v x (hv.below HB0.out hB) (by simp; omega))
  have HT0 := Lib.hid (((cellsAt_new' w #[v] tTm [v] w.heap.size rfl rfl).alloc (.cells #[.slice none 0 0] tTm)).alloc (.cells #[.slice none 0 0] tTm))
  have HR0 := Lib.hid ((cellsAt_new' (w.alloc (.cells #[v] tTm)) #[.slice none 0 0] tTm [.slice none 0 0] (w.heap.size + 1) (by simp) rfl).alloc (.cells #[.slice none 0 0] tTm))
  have HQ0 := Lib.hid (cellsAt_new' ((w.alloc (.cells #[v] tTm)).alloc (.cells #[.slice none 0 0] tTm)) #[.slice none 0 0] tTm [.slice none 0 0] (w.heap.size + 2) (by simp) rfl)
  have hsz0 : (((w.alloc (.cells #[v] tTm)).alloc (.cells #[.slice none 0 0] tTm)).alloc (.cells #[.slice none 0 0] tTm)).heap.size = w.heap.size + 3 := by simp
  have HV := Lib.hid hv.1
  have HB := Lib.hid hB
  obtain ⟨A, c, rfl⟩ := hv.len
  obtain ⟨b, o, rfl, hb, -, -, -⟩ := hv.1.at (k := 0) (by omega)
  have hcap : x.length ≤ c := by obtain ⟨A', c', e, h, _⟩ := hv.1; obtain ⟨-, -, rfl⟩ := sliceEq e; exact h
  have HOK := Lib.hid hok
  have HXX := Lib.hid hX
  have HFX := Lib.hid hf
  obtain ⟨n, hnl⟩ : ∃ n : Nat, n = xa.length + xb.length := ⟨_, rfl⟩
  obtain ⟨ka, hka⟩ : ∃ ka : Nat, ka = xa.length := ⟨_, rfl⟩
  have e1 : (x.length : Int) - 1 = (n : Int) := by omega
  have hwn : IntKind.i64.wrap (n : Int) = (n : Int) := Go.IntWalk.i64_in _ ⟨by omega, by omega⟩
  obtain ⟨m, hm⟩ : ∃ m : Nat, n = m + 1 := ⟨n - 1, by omega⟩
  have e2 : (n : Int) - 1 = (m : Int) := by omega
  have hwm : IntKind.i64.wrap (m : Int) = (m : Int) := Go.IntWalk.i64_in _ ⟨by omega, by omega⟩
  have hm0 : (0 : Int) ≤ (m : Int) := by omega
  have hXf := hXl.1
  have hmX : (m : Int) < (X.f.length : Int) := by omega
  have hmX2 : m < X.f.length := by omega
  have HXF := Lib.hid hXf
  have HKA := Lib.hid hka
  have HNL := Lib.hid hnl
  have HM := Lib.hid hm
  have hcf : ¬ c = ka := by omega
  have hs1 : (0 : Int) ≤ (ka : Int) := by omega
  have hs2 : (ka : Int) ≤ (c : Int) := by omega
  have hs3 : (ka : Int) ≤ (n : Int) := by omega
  have hs4 : (n : Int) ≤ (c : Int) := by omega
  have hxa4 : xa.length ≤ 1000000 := by omega
  have hxb4 : xb.length ≤ 1000000 := by omega
  have hxf0 : 0 < X.f.length := by omega
  have HMA := Lib.hid (show xa.length + xb.length - 1 = m by omega)
  clear hv hB hok hX hf hXl hn hj hV hK hlen hXf hka hnl hm
  go_enter Try.func68, Try.ntmps68
  go_wp2_with fail
  refine HSC.out.mono ?_
  rintro e w2 ⟨v0, v1, v2, rfl, b2, hx, ⟨A0, n0, c0, rfl⟩, ⟨A1, n1, c1, rfl⟩, ⟨A2, n2, c2, rfl⟩⟩
  rw [HOK.out]
  have HB2 := Lib.hid (HB0.out.trans (b2.mono (by rw [hsz0]; omega)))
  have HT2 := Lib.hid (HT0.out.below b2 (by rw [hsz0]; omega))
  have HR2 := Lib.hid (HR0.out.below b2 (by rw [hsz0]; omega))
  have HQ2 := Lib.hid (HQ0.out.below b2 (by rw [hsz0]; omega))
  have hsz2 : w.heap.size + 3 ≤ w2.heap.size := by rw [← hsz0]; exact b2.size
  have ht0 : w2.cell? ⟨w.heap.size, 0, none⟩ = some (.slice (some ⟨b, o, none⟩) x.length c) := HT2.out.cell (i := 0) (by simp)
  have hlt0 : w.heap.size < w2.heap.size := by omega
  obtain ⟨X', hX', -, hr0', -, -⟩ := hx HOK.out
  obtain rfl : X = X' := Option.some.inj (HXX.out.symm.trans hX')
  obtain ⟨g0, d0, e0, hcl⟩ := hr0'.cells hxf0
  obtain ⟨rfl, rfl, rfl⟩ := sliceEq e0
  have hcq := hcl m hmX2
  have hfm : X.f.getD m 0 = (ka : Int) := by rw [HKA.out, ← HFX.out, HMA.out]
  rw [hfm] at hcq
  have hg2 : g0 < w2.heap.size := World.block_lt_of_cell? w2 _ hcq
  clear b2 hx hX' e0 hcl hr0' hfm
  have HX3 : Hid (Below w2.heap.size w2 (w2.alloc (.cells #[.slice (some ⟨g0, 0, none⟩) X.f.length c0, .slice A1 n1 c1, .slice A2 n2 c2] tInfo))) := Lib.hid ((Below.refl _ _).alloc (Nat.le_refl _) _)
  have HELD : Hid (∀ w' : World, w'.heap[w.heap.size]? = w2.heap[w.heap.size]? → w'.cell? ⟨w.heap.size, 0, none⟩ = some (.slice (some ⟨b, o, none⟩) x.length c)) := Lib.hid (fun w' H => (World.cell?_of_block (w := w2) H).trans ht0)
  have HD0 := Lib.hid (HELD.out (w2.alloc (.cells #[.slice (some ⟨g0, 0, none⟩) X.f.length c0, .slice A1 n1 c1, .slice A2 n2 c2] tInfo)).drew (blk_alloc_lt _ _ _ hlt0))
  have HW3 : Hid (Below w.heap.size w (w2.alloc (.cells #[.slice (some ⟨g0, 0, none⟩) X.f.length c0, .slice A1 n1 c1, .slice A2 n2 c2] tInfo)).drew) := Lib.hid ((HB2.out.alloc (by omega) _).drew)
  have HV3 := Lib.hid (HV.out.below HW3.out HB.out)
  rw [HN.out] at HV3
  have HLX := Lib.hid (show x.length = (xa ++ (xb ++ [jointN K])).length by rw [HN.out])
  have HA := Lib.hid (tmOwn_any (w2.alloc (.cells #[.slice (some ⟨g0, 0, none⟩) X.f.length c0, .slice A1 n1 c1, .slice A2 n2 c2] tInfo)).drew B (.slice (some ⟨b, o, none⟩) xa.length c) xa (RdN.take HV3.out) (by have := HB.out; simp; omega) hxa4)
  rw [← HKA.out] at HA
  have HNK := Lib.hid (show n - ka = xb.length by rw [HNL.out, HKA.out]; omega)
  have HSB : Hid (∀ w', RdN w' (fun b => b < B) (.slice (some ⟨b, o, none⟩) (xa ++ (xb ++ [jointN K])).length c) (xa ++ (xb ++ [jointN K])) → RdN w' (fun b => b < B) (.slice (some ⟨b, o + ka * 3, none⟩) (n - ka) (c - ka)) xb) := Lib.hid (fun w' h => by rw [HNK.out, HKA.out]; exact (RdN.drop h).take)
  have hBw : B ≤ w2.heap.size + 1 := by have := HB.out; omega
  go_wp2
  go_region_held3 (fun w' => w'.cell? ⟨w.heap.size, 0, none⟩ = some (.slice (some ⟨b, o, none⟩) x.length c))
    (first | with_reducible exact HD0.out | with_reducible exact HD1.out | with_reducible exact HD2.out | exact HELD4.out _ (blk_setCell_other _ _ _ _ (by dsimp only; omega)) | exact HELD4.out _ ((blk_setCell_other _ _ _ _ (by dsimp only; omega)).trans (blk_setCell_other _ _ _ _ (by dsimp only; omega))) | fail)
    (first
      | (go_at_call 95; go_split_ands; (with_reducible refine HA.out.mono ?_); rintro e w3 ⟨v3, rfl, b3, o3⟩; obtain ⟨A3, c3, rfl⟩ := o3.form; have HO3 := Lib.hid o3; have HB3 : Hid (Below (w2.heap.size + 1) (w2.alloc (.cells #[.slice (some ⟨g0, 0, none⟩) X.f.length c0, .slice A1 n1 c1, .slice A2 n2 c2] tInfo)) w3) := Lib.hid ((Below.refl _ _).drew.trans (b3.mono (by simp))); have HD1 := Lib.hid (HELD.out w3 ((HB3.out.block _ (by omega)).trans (blk_alloc_lt _ _ _ hlt0))); have hsz3 : w2.heap.size + 1 ≤ w3.heap.size := Nat.le_trans (by simp) HB3.out.size; have HRB := Lib.hid (HSB.out w3 (HV3.out.below b3 (by simp; omega))); clear b3 o3)
      | (go_at_call 95; go_split_ands; refine (tmOwn_any w3 B _ xb HRB.out (by omega) hxb4).mono ?_; rintro e w4 ⟨v4, rfl, b4, o4⟩; obtain ⟨A4, c4, rfl⟩ := o4.form; have HO4 := Lib.hid o4; have HB4 : Hid (Below w3.heap.size w3 w4) := Lib.hid b4; have hsz4 : w3.heap.size ≤ w4.heap.size := b4.size; have HD2 := Lib.hid (HELD.out w4 ((b4.block _ (by omega)).trans ((HB3.out.block _ (by omega)).trans (blk_alloc_lt _ _ _ hlt0)))); have HELD4 : Hid (∀ w' : World, w'.heap[w.heap.size]? = w4.heap[w.heap.size]? → w'.cell? ⟨w.heap.size, 0, none⟩ = some (.slice (some ⟨b, o, none⟩) x.length c)) := Lib.hid (fun w' H => (World.cell?_of_block (w := w4) H).trans HD2.out); have HR4 := Lib.hid (((HR2.out.alloc (.cells #[.slice (some ⟨g0, 0, none⟩) X.f.length c0, .slice A1 n1 c1, .slice A2 n2 c2] tInfo)).below HB3.out (by omega)).below HB4.out (by omega)); have HQ4 := Lib.hid (((HQ2.out.alloc (.cells #[.slice (some ⟨g0, 0, none⟩) X.f.length c0, .slice A1 n1 c1, .slice A2 n2 c2] tInfo)).below HB3.out (by omega)).below HB4.out (by omega)); have hr4 : w4.cell? ⟨w.heap.size + 1, 0, none⟩ = some (.slice none 0 0) := HR4.out.cell (i := 0) (by simp); have hrf4 := HR4.out.frozen; have hq4 : w4.cell? ⟨w.heap.size + 2, 0, none⟩ = some (.slice none 0 0) := HQ4.out.cell (i := 0) (by simp); have hqf4 := HQ4.out.frozen; clear b4 o4)
      | fail)
  have HRR := Lib.hid ((HR4.out.set 0 (.slice A3 xa.length c3)).setOther (a := ⟨w.heap.size + 2, 0, none⟩) (by dsimp only; omega) (.slice A4 xb.length c4))
  have HQQ := Lib.hid ((HQ4.out.setOther (a := ⟨w.heap.size + 1, 0, none⟩) (by dsimp only; omega) (.slice A3 xa.length c3)).set 0 (.slice A4 xb.length c4))
  have hy1 : ((w4.setCell ⟨w.heap.size + 1, 0, none⟩ (.slice A3 xa.length c3)).setCell ⟨w.heap.size + 1 + 1, 0, none⟩ (.slice A4 xb.length c4)).cell? ⟨w.heap.size + 1, 0, none⟩ = some (.slice A3 xa.length c3) := HRR.out.cell (i := 0) (by simp)
  have hy2 : ((w4.setCell ⟨w.heap.size + 1, 0, none⟩ (.slice A3 xa.length c3)).setCell ⟨w.heap.size + 1 + 1, 0, none⟩ (.slice A4 xb.length c4)).cell? ⟨w.heap.size + 1 + 1, 0, none⟩ = some (.slice A4 xb.length c4) := HQQ.out.cell (i := 0) (by simp)
  go_wp2
  refine bodyPost_ret (v := .tuple #[.agg #[.slice A3 xa.length c3], .agg #[.slice A4 xb.length c4]]) (by simp [results, Try.results68, go_sem, hy1, hy2]) rfl ?_
  have HO3' := Lib.hid (HO3.out.below (HB4.out))
  refine ⟨_, _, rfl, ?_, RowN.mono ((HO3'.out.set (b := w.heap.size + 1) ?_).set (b := w.heap.size + 1 + 1) ?_) ?_, RowN.mono ((HO4.out.set (b := w.heap.size + 1) ?_).set (b := w.heap.size + 1 + 1) ?_) ?_⟩
  · refine Below.setCell (Below.setCell ((HB2.out.alloc (by omega) _).trans ((HB3.out.mono (by omega)).trans (HB4.out.mono (by omega)))) (by dsimp only; omega) _) (by dsimp only; omega) _
  all_goals (first | omega | (simp; omega))
end Go.Proofs.Ytiealgnmhjebeaa
