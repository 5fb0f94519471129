/- WidthOf: the width and the depth of a term: the model and the program. -/
import Derived.Test.YtdgimjmdgppboaaPrT
import Derived.Test.YtdgimjmdgppboaaRetIIB
namespace Go.Proofs.Ytdgimjmdgppboaa
set_option maxRecDepth 100000
open Go Go.RowKit Go.Deep

theorem ext_bd : ∀ {t : Tr}, VTr t → 0 ≤ (extT t).1 ∧ (extT t).1 ≤ 12 * ((nodesOf t).length : Int) ∧ 0 ≤ (extT t).2 ∧ (extT t).2 ≤ ((nodesOf t).length : Int)
  | .leaf n i o, h => by
    obtain ⟨h1, h2, h3, h4⟩ := h.fits
    simp only [Tr.inw, Tr.outw] at h1 h2 h3 h4
    simp only [extT, nodesOf, List.length_cons, List.length_nil]
    omega
  | .seq a b i o, h => by
    obtain ⟨a1, a2, a3, a4⟩ := ext_bd h.1
    obtain ⟨b1, b2, b3, b4⟩ := ext_bd h.2.1
    simp only [extT, nodesOf, List.length_append, List.length_cons, List.length_nil]
    omega
  | .par a b i o, h => by
    obtain ⟨a1, a2, a3, a4⟩ := ext_bd h.1
    obtain ⟨b1, b2, b3, b4⟩ := ext_bd h.2.1
    simp only [extT, nodesOf, List.length_append, List.length_cons, List.length_nil]
    omega
abbrev ExtSaid (w : World) (a d : Int) (e : Ending) (w' : World) : Prop := e = .returned (.tuple #[.int .i64 a, .int .i64 d]) ∧ Below w.heap.size w w'
theorem ext_leaf (w : World) (k v : Int) (s : ByteArray) (i o : Int) : Calls Try.prog 78 #[.agg #[.int .i64 k, .int .i64 v, .string s, .int .i64 i, .int .i64 o]] w (ExtSaid w (max i o) 1) := by
  go_enter Try.func78, Try.ntmps78
  go_wp2
  refine bodyPost_ret (v := .tuple #[.int .i64 (max i o), .int .i64 1]) (by simp [results, Try.results78, go_sem]) rfl ?_
  exact ⟨rfl, by repeat' (first | exact Below.refl _ _ | apply Below.drew | apply Below.setCell | apply Below.alloc | (simp; done) | omega | (simp; omega))⟩
theorem ext_seq (w : World) (Ta Tb : TypeId) (Va Vb : Value) (ga gb : FuncId) (i o wa da wb db : Int)
    (hma : ∀ n w, 0 < n → Sem.run Try.prog (method n Ta Va "loop.example/g01073/impl.extent") w = .ok (ga, Va) w) (hca : ∀ w, Sem.run Try.prog (callFunc ga #[Va]) w = .ok (.enter ga #[Va]) w) (hCa : ∀ w, Calls Try.prog ga #[Va] w (ExtSaid w wa da))
    (hmb : ∀ n w, 0 < n → Sem.run Try.prog (method n Tb Vb "loop.example/g01073/impl.extent") w = .ok (gb, Vb) w) (hcb : ∀ w, Sem.run Try.prog (callFunc gb #[Vb]) w = .ok (.enter gb #[Vb]) w) (hCb : ∀ w, Calls Try.prog gb #[Vb] w (ExtSaid w wb db))
    (hd1 : 0 ≤ da + db) (hd2 : da + db ≤ 1000000) :
    Calls Try.prog 82 #[.agg #[.iface Ta Va, .iface Tb Vb, .int .i64 i, .int .i64 o]] w (ExtSaid w (max wa wb) (da + db)) := by
  have HCa := Lib.hid hCa
  have HCb := Lib.hid hCb
  have HT0 := Lib.hid (cellsAt_new' w #[.iface Ta Va, .iface Tb Vb, .int .i64 i, .int .i64 o] 101 [.iface Ta Va, .iface Tb Vb, .int .i64 i, .int .i64 o] w.heap.size rfl rfl)
  clear hCa hCb
  have hw : IntKind.i64.wrap (da + db) = da + db := Go.IntWalk.i64_in _ ⟨by omega, by omega⟩
  go_enter Try.func82, Try.ntmps82
  go_wp2_with (first | ((with_reducible refine (HCa.out _).mono ?_); rintro e w1 ⟨rfl, b1⟩; have hb1 : w1.cell? ⟨w.heap.size, 1, none⟩ = some (.iface Tb Vb) := (HT0.out.below b1 (by simp)).cell (i := 1) (by simp); have HB1 := Lib.hid b1; clear b1) | ((with_reducible refine (HCb.out _).mono ?_); rintro e w2 ⟨rfl, b2⟩; have HB2 := Lib.hid b2; clear b2) | fail)
  have hsz : w.heap.size ≤ w1.heap.size := Nat.le_trans (by simp) HB1.out.size
  refine bodyPost_ret (v := .tuple #[.int .i64 (max wa wb), .int .i64 (da + db)]) (by simp [results, Try.results82, go_sem]) rfl ?_
  exact ⟨rfl, (Below.alloc (Below.refl w.heap.size w) (Nat.le_refl _) _).trans ((HB1.out.mono (by simp)).trans (HB2.out.mono hsz))⟩
theorem ext_par (w : World) (Ta Tb : TypeId) (Va Vb : Value) (ga gb : FuncId) (i o wa da wb db : Int)
    (hma : ∀ n w, 0 < n → Sem.run Try.prog (method n Ta Va "loop.example/g01073/impl.extent") w = .ok (ga, Va) w) (hca : ∀ w, Sem.run Try.prog (callFunc ga #[Va]) w = .ok (.enter ga #[Va]) w) (hCa : ∀ w, Calls Try.prog ga #[Va] w (ExtSaid w wa da))
    (hmb : ∀ n w, 0 < n → Sem.run Try.prog (method n Tb Vb "loop.example/g01073/impl.extent") w = .ok (gb, Vb) w) (hcb : ∀ w, Sem.run Try.prog (callFunc gb #[Vb]) w = .ok (.enter gb #[Vb]) w) (hCb : ∀ w, Calls Try.prog gb #[Vb] w (ExtSaid w wb db))
    (hd1 : 0 ≤ wa + wb) (hd2 : wa + wb ≤ 1000000) :
    Calls Try.prog 86 #[.agg #[.iface Ta Va, .iface Tb Vb, .int .i64 i, .int .i64 o]] w (ExtSaid w (wa + wb) (max da db)) := by
  have HCa := Lib.hid hCa
  have HCb := Lib.hid hCb
  have HT0 := Lib.hid (cellsAt_new' w #[.iface Ta Va, .iface Tb Vb, .int .i64 i, .int .i64 o] 102 [.iface Ta Va, .iface Tb Vb, .int .i64 i, .int .i64 o] w.heap.size rfl rfl)
  clear hCa hCb
  have hw : IntKind.i64.wrap (wa + wb) = wa + wb := Go.IntWalk.i64_in _ ⟨by omega, by omega⟩
  go_enter Try.func86, Try.ntmps86
  go_wp2_with (first | ((with_reducible refine (HCa.out _).mono ?_); rintro e w1 ⟨rfl, b1⟩; have hb1 : w1.cell? ⟨w.heap.size, 1, none⟩ = some (.iface Tb Vb) := (HT0.out.below b1 (by simp)).cell (i := 1) (by simp); have HB1 := Lib.hid b1; clear b1) | ((with_reducible refine (HCb.out _).mono ?_); rintro e w2 ⟨rfl, b2⟩; have HB2 := Lib.hid b2; clear b2) | fail)
  have hsz : w.heap.size ≤ w1.heap.size := Nat.le_trans (by simp) HB1.out.size
  refine bodyPost_ret (v := .tuple #[.int .i64 (wa + wb), .int .i64 (max da db)]) (by simp [results, Try.results86, go_sem]) rfl ?_
  exact ⟨rfl, (Below.alloc (Below.refl w.heap.size w) (Nat.le_refl _) _).trans ((HB1.out.mono (by simp)).trans (HB2.out.mono hsz))⟩
theorem trV_ext : ∀ t : Tr, VTr t → (nodesOf t).length ≤ 400 → ∃ T V g, trV t = .iface T V ∧ (∀ n w, 0 < n → Sem.run Try.prog (method n T V "loop.example/g01073/impl.extent") w = .ok (g, V) w) ∧ (∀ w, Sem.run Try.prog (callFunc g #[V]) w = .ok (.enter g #[V]) w) ∧ (∀ w, Calls Try.prog g #[V] w (ExtSaid w (extT t).1 (extT t).2))
  | .leaf n i o, _, _ => by
    refine ⟨tLeafT, .agg #[.int .i64 n.k, .int .i64 n.v, .string n.s, .int .i64 i, .int .i64 o], 78, rfl, fun m w hm => ?_, fun w => by kernel_rfl, fun w => ext_leaf w _ _ _ i o⟩
    obtain ⟨m, rfl⟩ : ∃ q, m = q + 1 := ⟨m - 1, by omega⟩
    kernel_rfl
  | .seq a b i o, hv, hl => by
    have hl2 : (nodesOf a).length + (nodesOf b).length ≤ 400 := by simp only [nodesOf, List.length_append, List.length_cons, List.length_nil] at hl; omega
    obtain ⟨a1, a2, a3, a4⟩ := ext_bd hv.1
    obtain ⟨b1, b2, b3, b4⟩ := ext_bd hv.2.1
    obtain ⟨Ta, Va, ga, ea, hma, hca, hCa⟩ := trV_ext a hv.1 (by omega)
    obtain ⟨Tb, Vb, gb, eb, hmb, hcb, hCb⟩ := trV_ext b hv.2.1 (by omega)
    refine ⟨tSeqT, .agg #[trV a, trV b, .int .i64 i, .int .i64 o], 82, rfl, fun m w hm => ?_, fun w => by kernel_rfl, fun w => ?_⟩
    · obtain ⟨m, rfl⟩ : ∃ q, m = q + 1 := ⟨m - 1, by omega⟩
      kernel_rfl
    · rw [ea, eb]
      exact ext_seq w Ta Tb Va Vb ga gb i o _ _ _ _ hma hca hCa hmb hcb hCb (by omega) (by omega)
  | .par a b i o, hv, hl => by
    have hl2 : (nodesOf a).length + (nodesOf b).length ≤ 400 := by simp only [nodesOf, List.length_append, List.length_cons, List.length_nil] at hl; omega
    obtain ⟨a1, a2, a3, a4⟩ := ext_bd hv.1
    obtain ⟨b1, b2, b3, b4⟩ := ext_bd hv.2.1
    obtain ⟨Ta, Va, ga, ea, hma, hca, hCa⟩ := trV_ext a hv.1 (by omega)
    obtain ⟨Tb, Vb, gb, eb, hmb, hcb, hCb⟩ := trV_ext b hv.2.1 (by omega)
    refine ⟨tParT, .agg #[trV a, trV b, .int .i64 i, .int .i64 o], 86, rfl, fun m w hm => ?_, fun w => by kernel_rfl, fun w => ?_⟩
    · obtain ⟨m, rfl⟩ : ∃ q, m = q + 1 := ⟨m - 1, by omega⟩
      kernel_rfl
    · rw [ea, eb]
      exact ext_par w Ta Tb Va Vb ga gb i o _ _ _ _ hma hca hCa hmb hcb hCb (by omega) (by omega)
/-! ### The model -/
theorem l1Most_any (w : World) (a b : Int) : Calls Try.prog 43 #[.int .i64 a, .int .i64 b] w fun e w' => e = .returned (.int .i64 (max a b)) ∧ w' = w := by
  by_cases h : b < a
  · have HM := Lib.hid (show max a b = a by omega)
    rw [HM.out]
    go_enter Try.func43, Try.ntmps43
    go_wp2
    go_ret
    exact ⟨rfl, rfl⟩
  · have HM := Lib.hid (show max a b = b by omega)
    rw [HM.out]
    go_enter Try.func43, Try.ntmps43
    go_wp2
    go_ret
    exact ⟨rfl, rfl⟩
set_option maxRecDepth 100000 in
set_option maxHeartbeats 6400000 in
theorem width_leaf (w : World) (B : Nat) (v : Value) (n : Nd) (hn : isLeafB n = true) (hv : LfN w B v [n]) (hB : B ≤ w.heap.size) :
    Calls Try.prog 29 #[.agg #[v]] w (ExtSaid w (max (leafW n).1 (leafW n).2) 1) := by
  obtain ⟨k1, k14, -, -, -⟩ := leaf_range hn
  have HB0 := Lib.hid (Below.alloc (Below.refl w.heap.size w) (Nat.le_refl _) (.cells #[v] tTm))
  have htp := tmTop_any (w.alloc (.cells #[v] tTm)) B v [n] (hv.below HB0.out hB) (by simp; omega) (by simp) (by simp)
  rw [show ([n].getD ([n].length - 1) nd0) = n from rfl] at htp
  have HTP := Lib.hid htp
  have HT0 := Lib.hid (cellsAt_new' w #[v] tTm [v] w.heap.size rfl rfl)
  have HV := Lib.hid hv.1
  have HB := Lib.hid hB
  have hsz0 : (w.alloc (.cells #[v] tTm)).heap.size = w.heap.size + 1 := by simp
  obtain ⟨A, c, rfl⟩ := hv.len
  rw [show [n].length = 1 from rfl] at *
  clear hv hB htp hn
  go_enter Try.func29, Try.ntmps29
  go_wp2_with fail
  refine HTP.out.mono ?_
  rintro e w2 ⟨rfl, b2⟩
  have HB2 := Lib.hid (HB0.out.trans (b2.mono (by rw [hsz0]; omega)))
  have HT2 := Lib.hid (HT0.out.below b2 (by rw [hsz0]; omega))
  have ht0 : w2.cell? ⟨w.heap.size, 0, none⟩ = some (.slice A 1 c) := HT2.out.cell (i := 0) (by simp)
  obtain ⟨b, o, rfl, hb, hc0, hc1, hc2⟩ := (HV.out.below HB2.out HB.out).at (k := 0) (by simp)
  rw [show [n].getD 0 nd0 = n from rfl, Nat.zero_mul, Nat.add_zero] at hc0 hc1 hc2
  have hk15 : n.k < 15 := by omega
  clear b2
  go_wp2_with (first | (go_at_call 42; refine (tmArity_any _ n).mono ?_; rintro e w3 ⟨rfl, b3⟩; have HB3 := Lib.hid (HB2.out.trans (b3.mono HB2.out.size)); unfold pairV; clear b3) | (go_at_call 43; refine (l1Most_any _ _ _).mono ?_; rintro e w' ⟨rfl, rfl⟩) | fail)
  refine bodyPost_ret (v := .tuple #[.int .i64 (max (leafW n).1 (leafW n).2), .int .i64 1]) (by simp [results, Try.results29, go_sem]) rfl ?_
  exact ⟨rfl, HB3.out⟩
set_option maxRecDepth 100000 in
set_option maxHeartbeats 6400000 in
theorem width_seq (w : World) (B : Nat) (v : Value) (t ta tb : Tr) (hj : Jt t ta tb) (hV : VTr t) (hl : (nodesOf t).length ≤ 400) (hv : LfN w B v (nodesOf t)) (hB : B ≤ w.heap.size) (wa da wb db : Int) (hd1 : 0 ≤ da + db) (hd2 : da + db ≤ 1000000) (hk : (((nodesOf t).getD ((nodesOf t).length - 1) nd0).k = 15))
    (hA : ∀ (w : World) (B : Nat) (v : Value), LfN w B v (nodesOf ta) → B ≤ w.heap.size → Calls Try.prog 29 #[.agg #[v]] w (ExtSaid w wa da))
    (hC : ∀ (w : World) (B : Nat) (v : Value), LfN w B v (nodesOf tb) → B ≤ w.heap.size → Calls Try.prog 29 #[.agg #[v]] w (ExtSaid w wb db)) :
    Calls Try.prog 29 #[.agg #[v]] w (ExtSaid w (max wa wb) (da + db)) := by
  have hpos := nodes_pos t
  obtain ⟨hva, hvb⟩ := hj.valid hV
  obtain ⟨K, -, hn⟩ := hj.nodes
  have hla : (nodesOf ta).length ≤ 400 := by rw [hn, List.length_append] at hl; omega
  have hlb : (nodesOf tb).length ≤ 400 := by rw [hn, List.length_append, List.length_append] at hl; omega
  have HB0 := Lib.hid (Below.alloc (Below.refl w.heap.size w) (Nat.le_refl _) (.cells #[v] tTm))
  have HTP := Lib.hid (tmTop_any (w.alloc (.cells #[v] tTm)) B v (nodesOf t) (hv.below HB0.out hB) (by simp; omega) hpos hl)
  rw [hk] at HTP
  have HT0 := Lib.hid (cellsAt_new' w #[v] tTm [v] w.heap.size rfl rfl)
  have HPP := Lib.hid (fun (w' : World) (hb : Below w.heap.size w w') => tmParts_any w' B v t ta tb hj hV hl (hv.below hb hB) (Nat.le_trans hB hb.size))
  have HAA := Lib.hid hA
  have HCC := Lib.hid hC
  have hsz0 : (w.alloc (.cells #[v] tTm)).heap.size = w.heap.size + 1 := by simp
  obtain ⟨A, c, rfl⟩ := hv.len
  have HLA : Hid (∀ (w' : World) (B' B2 : Nat) (v' : Value), RowN w' B' v' (nodesOf ta) → B2 = w'.heap.size → LfN w' B2 v' (nodesOf ta)) := Lib.hid (fun w' B' B2 v' h e => by rw [e]; exact LfN.tree hva hla h.own.readB)
  have HLB : Hid (∀ (w' : World) (B' B2 : Nat) (v' : Value), RowN w' B' v' (nodesOf tb) → B2 = w'.heap.size → LfN w' B2 v' (nodesOf tb)) := Lib.hid (fun w' B' B2 v' h e => by rw [e]; exact LfN.tree hvb hlb h.own.readB)
  have hwr : IntKind.i64.wrap (da + db) = da + db := Go.IntWalk.i64_in _ ⟨by omega, by omega⟩
  clear hv hB hk hA hC hn hl hla hlb hpos hj hV
  generalize nodesOf t = x at *
  go_enter Try.func29, Try.ntmps29
  go_wp2_with fail
  refine HTP.out.mono ?_
  rintro e w2 ⟨rfl, b2⟩
  have HB2 := Lib.hid (HB0.out.trans (b2.mono (by rw [hsz0]; omega)))
  have HT2 := Lib.hid (HT0.out.below b2 (by rw [hsz0]; omega))
  have ht0 : w2.cell? ⟨w.heap.size, 0, none⟩ = some (.slice A x.length c) := HT2.out.cell (i := 0) (by simp)
  clear b2
  go_wp2_with fail
  refine (HPP.out _ HB2.out).mono ?_
  rintro e w3 ⟨va, vb, rfl, b3, oa, ob⟩
  have HB3 := Lib.hid (HB2.out.trans (b3.mono HB2.out.size))
  obtain ⟨A3, c3, rfl⟩ := oa.form
  obtain ⟨A4, c4, rfl⟩ := ob.form
  have HOB := Lib.hid ob
  generalize hxa : nodesOf ta = xa at *
  generalize hxb : nodesOf tb = xb at *
  have HW4 : Hid (Below w3.heap.size w3 ((w3.alloc (.cells #[.slice A3 xa.length c3] tTm)).alloc (.cells #[.slice A4 xb.length c4] tTm))) := Lib.hid (by repeat' (first | exact Below.refl _ _ | apply Below.drew | apply below_drewN | apply Below.setCell | apply Below.alloc | (simp; done) | omega | (simp; omega)))
  have hca := HAA.out ((w3.alloc (.cells #[.slice A3 xa.length c3] tTm)).alloc (.cells #[.slice A4 xb.length c4] tTm)) w3.heap.size (.slice A3 xa.length c3) ((HLA.out w3 _ _ _ oa rfl).below HW4.out (Nat.le_refl _)) (by simp; omega)
  have HCA := Lib.hid hca
  have HCB0 := Lib.hid (cellsAt_new' (w3.alloc (.cells #[.slice A3 xa.length c3] tTm)) #[.slice A4 xb.length c4] tTm [.slice A4 xb.length c4] (w3.heap.size + 1) (by simp) rfl)
  have HLB3 := Lib.hid (HLB.out w3 _ _ _ ob rfl)
  have hsz4 : ((w3.alloc (.cells #[.slice A3 xa.length c3] tTm)).alloc (.cells #[.slice A4 xb.length c4] tTm)).heap.size = w3.heap.size + 2 := by simp
  clear hca oa ob b3 ht0
  go_wp2_with fail
  refine HCA.out.mono ?_
  rintro e w5 ⟨rfl, b5⟩
  have HB5 := Lib.hid (HB3.out.trans ((HW4.out.mono HB3.out.size).trans (b5.mono (by rw [hsz4]; have := HB3.out.size; omega))))
  have hc5 : w5.cell? ⟨w3.heap.size + 1, 0, none⟩ = some (.slice A4 xb.length c4) := (HCB0.out.below b5 (by rw [hsz4]; omega)).cell (i := 0) (by simp)
  have hb5 : LfN w5 w3.heap.size (.slice A4 xb.length c4) xb := (HLB3.out.below HW4.out (Nat.le_refl _)).below b5 (by rw [hsz4]; omega)
  have HCB := Lib.hid (HCC.out w5 w3.heap.size (.slice A4 xb.length c4) hb5 (by have := b5.size; rw [hsz4] at this; omega))
  clear b5 hb5
  go_wp2_with fail
  refine HCB.out.mono ?_
  rintro e w6 ⟨rfl, b6⟩
  have HB6 := Lib.hid (HB5.out.trans (b6.mono HB5.out.size))
  clear b6
  go_wp2_with (first | (go_at_call 43; refine (l1Most_any _ _ _).mono ?_; rintro e w' ⟨rfl, rfl⟩) | fail)
  refine bodyPost_ret (v := .tuple #[.int .i64 (max wa wb), .int .i64 (da + db)]) (by simp [results, Try.results29, go_sem]) rfl ?_
  exact ⟨rfl, HB6.out⟩
set_option maxRecDepth 100000 in
set_option maxHeartbeats 6400000 in
theorem width_par (w : World) (B : Nat) (v : Value) (t ta tb : Tr) (hj : Jt t ta tb) (hV : VTr t) (hl : (nodesOf t).length ≤ 400) (hv : LfN w B v (nodesOf t)) (hB : B ≤ w.heap.size) (wa da wb db : Int) (hd1 : 0 ≤ wa + wb) (hd2 : wa + wb ≤ 1000000) (hk : (((nodesOf t).getD ((nodesOf t).length - 1) nd0).k = 16))
    (hA : ∀ (w : World) (B : Nat) (v : Value), LfN w B v (nodesOf ta) → B ≤ w.heap.size → Calls Try.prog 29 #[.agg #[v]] w (ExtSaid w wa da))
    (hC : ∀ (w : World) (B : Nat) (v : Value), LfN w B v (nodesOf tb) → B ≤ w.heap.size → Calls Try.prog 29 #[.agg #[v]] w (ExtSaid w wb db)) :
    Calls Try.prog 29 #[.agg #[v]] w (ExtSaid w (wa + wb) (max da db)) := by
  have hpos := nodes_pos t
  obtain ⟨hva, hvb⟩ := hj.valid hV
  obtain ⟨K, -, hn⟩ := hj.nodes
  have hla : (nodesOf ta).length ≤ 400 := by rw [hn, List.length_append] at hl; omega
  have hlb : (nodesOf tb).length ≤ 400 := by rw [hn, List.length_append, List.length_append] at hl; omega
  have HB0 := Lib.hid (Below.alloc (Below.refl w.heap.size w) (Nat.le_refl _) (.cells #[v] tTm))
  have HTP := Lib.hid (tmTop_any (w.alloc (.cells #[v] tTm)) B v (nodesOf t) (hv.below HB0.out hB) (by simp; omega) hpos hl)
  rw [hk] at HTP
  have HT0 := Lib.hid (cellsAt_new' w #[v] tTm [v] w.heap.size rfl rfl)
  have HPP := Lib.hid (fun (w' : World) (hb : Below w.heap.size w w') => tmParts_any w' B v t ta tb hj hV hl (hv.below hb hB) (Nat.le_trans hB hb.size))
  have HAA := Lib.hid hA
  have HCC := Lib.hid hC
  have hsz0 : (w.alloc (.cells #[v] tTm)).heap.size = w.heap.size + 1 := by simp
  obtain ⟨A, c, rfl⟩ := hv.len
  have HLA : Hid (∀ (w' : World) (B' B2 : Nat) (v' : Value), RowN w' B' v' (nodesOf ta) → B2 = w'.heap.size → LfN w' B2 v' (nodesOf ta)) := Lib.hid (fun w' B' B2 v' h e => by rw [e]; exact LfN.tree hva hla h.own.readB)
  have HLB : Hid (∀ (w' : World) (B' B2 : Nat) (v' : Value), RowN w' B' v' (nodesOf tb) → B2 = w'.heap.size → LfN w' B2 v' (nodesOf tb)) := Lib.hid (fun w' B' B2 v' h e => by rw [e]; exact LfN.tree hvb hlb h.own.readB)
  have hwr : IntKind.i64.wrap (wa + wb) = wa + wb := Go.IntWalk.i64_in _ ⟨by omega, by omega⟩
  clear hv hB hk hA hC hn hl hla hlb hpos hj hV
  generalize nodesOf t = x at *
  go_enter Try.func29, Try.ntmps29
  go_wp2_with fail
  refine HTP.out.mono ?_
  rintro e w2 ⟨rfl, b2⟩
  have HB2 := Lib.hid (HB0.out.trans (b2.mono (by rw [hsz0]; omega)))
  have HT2 := Lib.hid (HT0.out.below b2 (by rw [hsz0]; omega))
  have ht0 : w2.cell? ⟨w.heap.size, 0, none⟩ = some (.slice A x.length c) := HT2.out.cell (i := 0) (by simp)
  clear b2
  go_wp2_with fail
  refine (HPP.out _ HB2.out).mono ?_
  rintro e w3 ⟨va, vb, rfl, b3, oa, ob⟩
  have HB3 := Lib.hid (HB2.out.trans (b3.mono HB2.out.size))
  obtain ⟨A3, c3, rfl⟩ := oa.form
  obtain ⟨A4, c4, rfl⟩ := ob.form
  have HOB := Lib.hid ob
  generalize hxa : nodesOf ta = xa at *
  generalize hxb : nodesOf tb = xb at *
  have HW4 : Hid (Below w3.heap.size w3 ((w3.alloc (.cells #[.slice A3 xa.length c3] tTm)).alloc (.cells #[.slice A4 xb.length c4] tTm))) := Lib.hid (by repeat' (first | exact Below.refl _ _ | apply Below.drew | apply below_drewN | apply Below.setCell | apply Below.alloc | (simp; done) | omega | (simp; omega)))
  have hca := HAA.out ((w3.alloc (.cells #[.slice A3 xa.length c3] tTm)).alloc (.cells #[.slice A4 xb.length c4] tTm)) w3.heap.size (.slice A3 xa.length c3) ((HLA.out w3 _ _ _ oa rfl).below HW4.out (Nat.le_refl _)) (by simp; omega)
  have HCA := Lib.hid hca
  have HCB0 := Lib.hid (cellsAt_new' (w3.alloc (.cells #[.slice A3 xa.length c3] tTm)) #[.slice A4 xb.length c4] tTm [.slice A4 xb.length c4] (w3.heap.size + 1) (by simp) rfl)
  have HLB3 := Lib.hid (HLB.out w3 _ _ _ ob rfl)
  have hsz4 : ((w3.alloc (.cells #[.slice A3 xa.length c3] tTm)).alloc (.cells #[.slice A4 xb.length c4] tTm)).heap.size = w3.heap.size + 2 := by simp
  clear hca oa ob b3 ht0
  go_wp2_with fail
  refine HCA.out.mono ?_
  rintro e w5 ⟨rfl, b5⟩
  have HB5 := Lib.hid (HB3.out.trans ((HW4.out.mono HB3.out.size).trans (b5.mono (by rw [hsz4]; have := HB3.out.size; omega))))
  have hc5 : w5.cell? ⟨w3.heap.size + 1, 0, none⟩ = some (.slice A4 xb.length c4) := (HCB0.out.below b5 (by rw [hsz4]; omega)).cell (i := 0) (by simp)
  have hb5 : LfN w5 w3.heap.size (.slice A4 xb.length c4) xb := (HLB3.out.below HW4.out (Nat.le_refl _)).below b5 (by rw [hsz4]; omega)
  have HCB := Lib.hid (HCC.out w5 w3.heap.size (.slice A4 xb.length c4) hb5 (by have := b5.size; rw [hsz4] at this; omega))
  clear b5 hb5
  go_wp2_with fail
  refine HCB.out.mono ?_
  rintro e w6 ⟨rfl, b6⟩
  have HB6 := Lib.hid (HB5.out.trans (b6.mono HB5.out.size))
  clear b6
  go_wp2_with (first | (go_at_call 43; refine (l1Most_any _ _ _).mono ?_; rintro e w' ⟨rfl, rfl⟩) | fail)
  refine bodyPost_ret (v := .tuple #[.int .i64 (wa + wb), .int .i64 (max da db)]) (by simp [results, Try.results29, go_sem]) rfl ?_
  exact ⟨rfl, HB6.out⟩
theorem getD_last (l : List Nd) (n : Nd) : (l ++ [n]).getD ((l ++ [n]).length - 1) nd0 = n := by
  rw [List.length_append, List.length_cons, List.length_nil, Nat.zero_add, Nat.add_sub_cancel, List.getD_eq_getElem?_getD, List.getElem?_append_right (Nat.le_refl _), Nat.sub_self]
  rfl
theorem Jt.top {t a b : Tr} {K : Int} (h : nodesOf t = nodesOf a ++ (nodesOf b ++ [jointN K])) : ((nodesOf t).getD ((nodesOf t).length - 1) nd0).k = K := by
  rw [h, ← List.append_assoc, getD_last]
  rfl
theorem tmWidth_any : ∀ (t : Tr), VTr t → (nodesOf t).length ≤ 400 → ∀ (w : World) (B : Nat) (v : Value), LfN w B v (nodesOf t) → B ≤ w.heap.size → Calls Try.prog 29 #[.agg #[v]] w (ExtSaid w (extT t).1 (extT t).2)
  | .leaf n i o, hV, _, w, B, v, hv, hB => by
    obtain ⟨h1, rfl, rfl⟩ := hV
    exact width_leaf w B v n h1 hv hB
  | .seq a b i o, hV, hl, w, B, v, hv, hB => by
    have hl2 : (nodesOf a).length + (nodesOf b).length ≤ 400 := by simp only [nodesOf, List.length_append, List.length_cons, List.length_nil] at hl; omega
    obtain ⟨a1, a2, a3, a4⟩ := ext_bd hV.1
    obtain ⟨b1, b2, b3, b4⟩ := ext_bd hV.2.1
    exact width_seq w B v (.seq a b i o) a b (Or.inl ⟨i, o, rfl⟩) hV hl hv hB _ _ _ _ (by omega) (by omega) (Jt.top rfl) (tmWidth_any a hV.1 (by omega)) (tmWidth_any b hV.2.1 (by omega))
  | .par a b i o, hV, hl, w, B, v, hv, hB => by
    have hl2 : (nodesOf a).length + (nodesOf b).length ≤ 400 := by simp only [nodesOf, List.length_append, List.length_cons, List.length_nil] at hl; omega
    obtain ⟨a1, a2, a3, a4⟩ := ext_bd hV.1
    obtain ⟨b1, b2, b3, b4⟩ := ext_bd hV.2.1
    exact width_par w B v (.par a b i o) a b (Or.inr ⟨i, o, rfl⟩) hV hl hv hB _ _ _ _ (by omega) (by omega) (Jt.top rfl) (tmWidth_any a hV.1 (by omega)) (tmWidth_any b hV.2.1 (by omega))
/-! ### Both -/
def wdW (x : List Nd) : Int := match treeOf x with | some t => (extT t).1 | none => 0
def wdD (x : List Nd) : Int := match treeOf x with | some t => (extT t).2 | none => 0
set_option maxHeartbeats 3200000 in
theorem spec_WidthOf (w : World) (B : Nat) (v : Value) (x : List Nd) (hv : LfN w B v x) (hB : B ≤ w.heap.size) (_ : szN x ≤ 1048576) :
    Calls Try.prog 12 #[.agg #[v]] w (SRetIIB w (wdW x) (wdD x) (tyOk x)) := by
  have HB0 := Lib.hid (Below.alloc (Below.refl w.heap.size w) (Nat.le_refl _) (.cells #[v] tTm))
  have HVA := Lib.hid (tmValid_any (w.alloc (.cells #[v] tTm)) B v x (hv.below HB0.out hB) (by simp; omega))
  have HT0 := Lib.hid (cellsAt_new' w #[v] tTm [v] w.heap.size rfl rfl)
  have hsz0 : (w.alloc (.cells #[v] tTm)).heap.size = w.heap.size + 1 := by simp
  cases ht : treeOf x with
  | none =>
    have HOK : Hid (okS x = false) := Lib.hid (by rw [ok_both, ht]; rfl)
    have H1 : Hid (wdW x = 0) := Lib.hid (by unfold wdW; rw [ht])
    have H2 : Hid (wdD x = 0) := Lib.hid (by unfold wdD; rw [ht])
    have H3 : Hid (tyOk x = false) := Lib.hid (by unfold tyOk; rw [ht]; rfl)
    obtain ⟨A, c, rfl⟩ := hv.len
    clear ht hv hB
    go_enter Try.func12, Try.ntmps12
    go_wp2_with fail
    refine HVA.out.mono ?_
    rintro e w2 ⟨rfl, b2⟩
    rw [HOK.out]
    have HB2 := Lib.hid (HB0.out.trans (b2.mono (by rw [hsz0]; omega)))
    clear b2
    go_wp2
    refine bodyPost_ret (v := .tuple #[.int .i64 0, .int .i64 0, .bool false]) (by simp [results, Try.results12, go_sem]) rfl ?_
    unfold SRetIIB
    rw [H1.out, H2.out, H3.out]
    exact ⟨rfl, HB2.out⟩
  | some t =>
    have HOK : Hid (okS x = true) := Lib.hid (by rw [ok_both, ht]; rfl)
    have H1 : Hid (wdW x = (extT t).1) := Lib.hid (by unfold wdW; rw [ht])
    have H2 : Hid (wdD x = (extT t).2) := Lib.hid (by unfold wdD; rw [ht])
    have H3 : Hid (tyOk x = true) := Lib.hid (by unfold tyOk; rw [ht]; rfl)
    obtain ⟨hV, hn, hl⟩ := tree_valid ht
    have HTW : Hid (∀ (w' : World), Below w.heap.size w w' → Calls Try.prog 29 #[.agg #[v]] w' (ExtSaid w' (extT t).1 (extT t).2)) :=
      Lib.hid (fun w' hb => tmWidth_any t hV (by rw [hn]; exact hl) w' B v (by rw [hn]; exact hv.below hb hB) (Nat.le_trans hB hb.size))
    obtain ⟨A, c, rfl⟩ := hv.len
    generalize (extT t).1 = ew at *
    generalize (extT t).2 = ed at *
    clear ht hv hB hV hn hl
    go_enter Try.func12, Try.ntmps12
    go_wp2_with fail
    refine HVA.out.mono ?_
    rintro e w2 ⟨rfl, b2⟩
    rw [HOK.out]
    have HB2 := Lib.hid (HB0.out.trans (b2.mono (by rw [hsz0]; omega)))
    have ht0 : w2.cell? ⟨w.heap.size, 0, none⟩ = some (.slice A x.length c) := (HT0.out.below b2 (by rw [hsz0]; omega)).cell (i := 0) (by simp)
    clear b2
    go_wp2_with fail
    refine (HTW.out _ HB2.out).mono ?_
    rintro e w3 ⟨rfl, b3⟩
    have HB3 := Lib.hid (HB2.out.trans (b3.mono HB2.out.size))
    clear b3
    go_wp2
    refine bodyPost_ret (v := .tuple #[.int .i64 ew, .int .i64 ed, .bool true]) (by simp [results, Try.results12, go_sem]) rfl ?_
    unfold SRetIIB
    rw [H1.out, H2.out, H3.out]
    exact ⟨rfl, HB3.out⟩
set_option maxRecDepth 100000 in
set_option maxHeartbeats 3200000 in
theorem impl_WidthOf (w : World) (B : Nat) (v : Value) (x : List Nd) (hv : LfN w B v x) (hB : B ≤ w.heap.size) (_ : szN x ≤ 1048576) :
    Calls Try.prog 13 #[.agg #[v]] w (IRetIIB w (wdW x) (wdD x) (tyOk x)) := by
  have HPO := Lib.hid (partOf_any (w.alloc (.cells #[v] tTm)) B v x (hv.below (Below.alloc (Below.refl _ _) (Nat.le_refl _) _) hB) (by simp; omega))
  have HB0 := Lib.hid (Below.alloc (Below.refl w.heap.size w) (Nat.le_refl _) (.cells #[v] tTm))
  obtain ⟨A, c, rfl⟩ := hv.len
  clear hv hB
  cases ht : treeOf x with
  | none =>
    have H1 : Hid (wdW x = 0) := Lib.hid (by unfold wdW; rw [ht])
    have H2 : Hid (wdD x = 0) := Lib.hid (by unfold wdD; rw [ht])
    have H3 : Hid (tyOk x = false) := Lib.hid (by unfold tyOk; rw [ht]; rfl)
    have HT := Lib.hid ht
    clear ht
    go_enter Try.func13, Try.ntmps13
    go_wp2_with (go_at_call 26; refine HPO.out.mono ?_; rintro e w2 ⟨u, ok, rfl, b2, hok, hu⟩; have HB2 := Lib.hid (HB0.out.trans (b2.mono (by simp))); rw [HT.out] at hok; subst hok; clear b2 hu)
    refine bodyPost_ret (v := .tuple #[.int .i64 0, .int .i64 0, .bool false]) (by simp [results, Try.results13, go_sem]) rfl ?_
    unfold IRetIIB
    rw [H1.out, H2.out, H3.out]
    exact ⟨rfl, HB2.out⟩
  | some t =>
    have H1 : Hid (wdW x = (extT t).1) := Lib.hid (by unfold wdW; rw [ht])
    have H2 : Hid (wdD x = (extT t).2) := Lib.hid (by unfold wdD; rw [ht])
    have H3 : Hid (tyOk x = true) := Lib.hid (by unfold tyOk; rw [ht]; rfl)
    obtain ⟨hV, hn, hl⟩ := tree_valid ht
    have HT := Lib.hid ht
    obtain ⟨Tt, Vt, gt, et, hm, hc, hC⟩ := trV_ext t hV (by rw [hn]; exact hl)
    have HC := Lib.hid hC
    have HET := Lib.hid et
    generalize (extT t).1 = ew at *
    generalize (extT t).2 = ed at *
    clear hC et ht hV hn hl
    go_enter Try.func13, Try.ntmps13
    go_wp2_with (first | (go_at_call 26; refine HPO.out.mono ?_; rintro e w2 ⟨u, ok, rfl, b2, hok, hu⟩; have HB2 := Lib.hid (HB0.out.trans (b2.mono (by simp))); rw [HT.out] at hok; subst hok; have hu2 := (hu t HT.out).trans HET.out; subst hu2; clear b2 hu) | ((with_reducible refine (HC.out _).mono ?_); rintro e w3 ⟨rfl, b3⟩; have HB3 := Lib.hid (HB2.out.trans (b3.mono HB2.out.size)); clear b3) | fail)
    refine bodyPost_ret (v := .tuple #[.int .i64 ew, .int .i64 ed, .bool true]) (by simp [results, Try.results13, go_sem]) rfl ?_
    unfold IRetIIB
    rw [H1.out, H2.out, H3.out]
    exact ⟨rfl, HB3.out⟩
end Go.Proofs.Ytdgimjmdgppboaa
