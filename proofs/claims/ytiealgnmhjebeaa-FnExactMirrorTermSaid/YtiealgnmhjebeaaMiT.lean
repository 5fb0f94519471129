/- MirrorTerm: the program's mirror image of a tree, through an interface. -/
import Derived.Test.YtiealgnmhjebeaaApT
import Derived.Test.YtiealgnmhjebeaaCkT
import Derived.Test.YtiealgnmhjebeaaRetTermB
import Derived.Deep.RegionHeld3
namespace Go.Proofs.Ytiealgnmhjebeaa
set_option maxRecDepth 100000
open Go Go.RowKit Go.Deep

abbrev MirSaid (w : World) (R : Value) (e : Ending) (w' : World) : Prop := e = .returned R ∧ Below w.heap.size w w'
set_option maxHeartbeats 1600000 in
theorem mirImg_any (w : World) (k v : Int) (s : ByteArray) (k1 : 1 ≤ k) (k14 : k ≤ 14) : Calls Try.prog 56 #[.agg #[.int .i64 k, .int .i64 v, .string s]] w (MirSaid w (.agg #[.int .i64 (mirK k), .int .i64 v, .string s])) := by
  by_cases h9 : 9 ≤ k
  ·
    have e : mirK k = k - 6 := by unfold mirK; rw [if_pos h9]
    rw [e]
    clear e
    have hw : IntKind.i64.wrap (k - 6) = k - 6 := Go.IntWalk.i64_in _ ⟨by omega, by omega⟩
    go_enter Try.func56, Try.ntmps56
    go_wp2
    refine bodyPost_ret (v := .agg #[.int .i64 (k - 6), .int .i64 v, .string s]) (by simp [results, Try.results56, go_sem]) rfl ?_
    exact ⟨rfl, by repeat' (first | exact Below.refl _ _ | apply Below.drew | apply below_drewN | apply Below.setCell | apply Below.alloc | (simp; done) | omega | (simp; omega))⟩
  · by_cases h3 : 3 ≤ k
    ·
      have e : mirK k = k + 6 := by unfold mirK; rw [if_neg h9, if_pos h3]
      rw [e]
      clear e
      have hw : IntKind.i64.wrap (k + 6) = k + 6 := Go.IntWalk.i64_in _ ⟨by omega, by omega⟩
      go_enter Try.func56, Try.ntmps56
      go_wp2
      refine bodyPost_ret (v := .agg #[.int .i64 (k + 6), .int .i64 v, .string s]) (by simp [results, Try.results56, go_sem]) rfl ?_
      exact ⟨rfl, by repeat' (first | exact Below.refl _ _ | apply Below.drew | apply below_drewN | apply Below.setCell | apply Below.alloc | (simp; done) | omega | (simp; omega))⟩
    ·
      have e : mirK k = k := by unfold mirK; rw [if_neg h9, if_neg h3]
      rw [e]
      clear e
      go_enter Try.func56, Try.ntmps56
      go_wp2
      refine bodyPost_ret (v := .agg #[.int .i64 (k), .int .i64 v, .string s]) (by simp [results, Try.results56, go_sem]) rfl ?_
      exact ⟨rfl, by repeat' (first | exact Below.refl _ _ | apply Below.drew | apply below_drewN | apply Below.setCell | apply Below.alloc | (simp; done) | omega | (simp; omega))⟩
set_option maxRecDepth 100000 in
set_option maxHeartbeats 3200000 in
theorem mir_leaf (w : World) (n : Nd) (i o : Int) (hn : isLeafB n = true) : Calls Try.prog 168 #[.agg #[.int .i64 n.k, .int .i64 n.v, .string n.s, .int .i64 i, .int .i64 o]] w (MirSaid w (trV (mirT (.leaf n i o)))) := by
  obtain ⟨k1, k14, -, -, -⟩ := leaf_range hn
  obtain ⟨R, HR⟩ : ∃ R, Hid (trV (mirT (.leaf n i o)) = R) := ⟨_, Lib.hid rfl⟩
  rw [HR.out]
  have HLP := Lib.hid (show ∀ w0, Calls Try.prog 128 #[.agg #[.int .i64 (mirK n.k), .int .i64 n.v, .string n.s]] w0 fun e w' => e = .returned R ∧ Below w0.heap.size w0 w' from fun w0 => by rw [← HR.out]; exact leafPart_any w0 (mirL n))
  have HMI := Lib.hid (fun w0 => mirImg_any w0 n.k n.v n.s k1 k14)
  clear hn
  generalize mirK n.k = mk at HLP HMI
  go_enter Try.func168, Try.ntmps168
  go_wp2_with fail
  refine (HMI.out _).mono ?_
  rintro e w2 ⟨rfl, b2⟩
  have HB2 := Lib.hid (show Below w.heap.size w w2 from Below.trans (by repeat' (first | exact Below.refl _ _ | apply Below.alloc | (simp; done))) (b2.mono (by simp)))
  clear b2
  go_wp2_with fail
  refine (HLP.out _).mono ?_
  rintro e w3 ⟨rfl, b3⟩
  have HB3 := Lib.hid (HB2.out.trans (b3.mono HB2.out.size))
  clear b3
  go_wp2
  go_ret
  exact ⟨rfl, HB3.out⟩
set_option maxRecDepth 100000 in
set_option maxHeartbeats 6400000 in
theorem mir_seq (w : World) (Ta Tb : TypeId) (Va Vb Ra Rb R : Value) (ga gb : FuncId) (i o : Int)
    (hma : ∀ n w, 0 < n → Sem.run Try.prog (method n Ta Va "loop.example/g01073/impl.mirrored") w = .ok (ga, Va) w) (hca : ∀ w, Sem.run Try.prog (callFunc ga #[Va]) w = .ok (.enter ga #[Va]) w) (hCa : ∀ w, Calls Try.prog ga #[Va] w (MirSaid w Ra))
    (hmb : ∀ n w, 0 < n → Sem.run Try.prog (method n Tb Vb "loop.example/g01073/impl.mirrored") w = .ok (gb, Vb) w) (hcb : ∀ w, Sem.run Try.prog (callFunc gb #[Vb]) w = .ok (.enter gb #[Vb]) w) (hCb : ∀ w, Calls Try.prog gb #[Vb] w (MirSaid w Rb))
    (hC : ∀ w, Calls Try.prog 129 #[Rb, Ra] w (MirSaid w R)) :
    Calls Try.prog 172 #[.agg #[.iface Ta Va, .iface Tb Vb, .int .i64 i, .int .i64 o]] w (MirSaid w R) := by
  have HCa := Lib.hid hCa
  have HCb := Lib.hid hCb
  have HC := Lib.hid hC
  have HT0 := Lib.hid (cellsAt_new' w #[.iface Ta Va, .iface Tb Vb, .int .i64 i, .int .i64 o] 193 [.iface Ta Va, .iface Tb Vb, .int .i64 i, .int .i64 o] w.heap.size rfl rfl)
  have HSD : Hid (∀ w' : World, CellsAt w' w.heap.size 193 [.iface Ta Va, .iface Tb Vb, .int .i64 i, .int .i64 o] → w'.cell? ⟨w.heap.size, 0, none⟩ = some (.iface Ta Va) ∧ w'.cell? ⟨w.heap.size, 1, none⟩ = some (.iface Tb Vb)) := Lib.hid (fun w' h => ⟨h.cell (i := 0) (by simp), h.cell (i := 1) (by simp)⟩)
  have HB0 := Lib.hid (show Below w.heap.size w (w.alloc (.cells #[.iface Ta Va, .iface Tb Vb, .int .i64 i, .int .i64 o] 193)) from (Below.refl _ _).alloc (Nat.le_refl _) _)
  clear hCa hCb hC
  go_enter Try.func172, Try.ntmps172
  go_wp2
  go_region_held3 (fun w' => w'.cell? ⟨w.heap.size, 0, none⟩ = some (.iface Ta Va) ∧ w'.cell? ⟨w.heap.size, 1, none⟩ = some (.iface Tb Vb))
    (first | (refine HSD.out _ ?_; repeat' (first | with_reducible exact HT3.out | with_reducible exact HT2.out | with_reducible exact HT1.out | with_reducible exact HT0.out | apply CellsAt.drew | apply CellsAt.alloc)) | fail)
    (first
      | (go_split_ands; (with_reducible refine (HCb.out _).mono ?_); rintro e w1 ⟨rfl, b1⟩; have HT1 := Lib.hid ((by repeat' (first | with_reducible exact HT0.out | apply CellsAt.drew) : CellsAt _ w.heap.size 193 [.iface Ta Va, .iface Tb Vb, .int .i64 i, .int .i64 o]).below b1 (by simp)); have HB1 : Hid (Below w.heap.size w w1) := Lib.hid (HB0.out.trans (Below.trans (Below.refl _ _).drew (b1.mono (by simp)))); have hsz1 : w.heap.size + 1 ≤ w1.heap.size := Nat.le_trans (by simp) b1.size; clear b1)
      | (go_split_ands; (with_reducible refine (HCa.out _).mono ?_); rintro e w2 ⟨rfl, b2⟩; have HT2 := Lib.hid (HT1.out.below b2 (by omega)); have HB2 : Hid (Below w.heap.size w w2) := Lib.hid (HB1.out.trans (b2.mono (by omega))); have hsz2 : w1.heap.size ≤ w2.heap.size := b2.size; clear b2)
      | (go_at_call 129; go_split_ands; refine (HC.out _).mono ?_; rintro e w3 ⟨rfl, b3⟩; have HT3 := Lib.hid (HT2.out.below b3 (by omega)); have HB3 : Hid (Below w.heap.size w w3) := Lib.hid (HB2.out.trans (b3.mono (by omega))); clear b3)
      | fail)
  all_goals go_wp2
  all_goals go_ret
  all_goals exact ⟨rfl, HB3.out⟩
set_option maxRecDepth 100000 in
set_option maxHeartbeats 6400000 in
theorem mir_par (w : World) (Ta Tb : TypeId) (Va Vb Ra Rb R : Value) (ga gb : FuncId) (i o : Int)
    (hma : ∀ n w, 0 < n → Sem.run Try.prog (method n Ta Va "loop.example/g01073/impl.mirrored") w = .ok (ga, Va) w) (hca : ∀ w, Sem.run Try.prog (callFunc ga #[Va]) w = .ok (.enter ga #[Va]) w) (hCa : ∀ w, Calls Try.prog ga #[Va] w (MirSaid w Ra))
    (hmb : ∀ n w, 0 < n → Sem.run Try.prog (method n Tb Vb "loop.example/g01073/impl.mirrored") w = .ok (gb, Vb) w) (hcb : ∀ w, Sem.run Try.prog (callFunc gb #[Vb]) w = .ok (.enter gb #[Vb]) w) (hCb : ∀ w, Calls Try.prog gb #[Vb] w (MirSaid w Rb))
    (hC : ∀ w, Calls Try.prog 130 #[Ra, Rb] w (MirSaid w R)) :
    Calls Try.prog 176 #[.agg #[.iface Ta Va, .iface Tb Vb, .int .i64 i, .int .i64 o]] w (MirSaid w R) := by
  have HCa := Lib.hid hCa
  have HCb := Lib.hid hCb
  have HC := Lib.hid hC
  have HT0 := Lib.hid (cellsAt_new' w #[.iface Ta Va, .iface Tb Vb, .int .i64 i, .int .i64 o] 194 [.iface Ta Va, .iface Tb Vb, .int .i64 i, .int .i64 o] w.heap.size rfl rfl)
  have HSD : Hid (∀ w' : World, CellsAt w' w.heap.size 194 [.iface Ta Va, .iface Tb Vb, .int .i64 i, .int .i64 o] → w'.cell? ⟨w.heap.size, 0, none⟩ = some (.iface Ta Va) ∧ w'.cell? ⟨w.heap.size, 1, none⟩ = some (.iface Tb Vb)) := Lib.hid (fun w' h => ⟨h.cell (i := 0) (by simp), h.cell (i := 1) (by simp)⟩)
  have HB0 := Lib.hid (show Below w.heap.size w (w.alloc (.cells #[.iface Ta Va, .iface Tb Vb, .int .i64 i, .int .i64 o] 194)) from (Below.refl _ _).alloc (Nat.le_refl _) _)
  clear hCa hCb hC
  go_enter Try.func176, Try.ntmps176
  go_wp2
  go_region_held3 (fun w' => w'.cell? ⟨w.heap.size, 0, none⟩ = some (.iface Ta Va) ∧ w'.cell? ⟨w.heap.size, 1, none⟩ = some (.iface Tb Vb))
    (first | (refine HSD.out _ ?_; repeat' (first | with_reducible exact HT3.out | with_reducible exact HT2.out | with_reducible exact HT1.out | with_reducible exact HT0.out | apply CellsAt.drew | apply CellsAt.alloc)) | fail)
    (first
      | (go_split_ands; (with_reducible refine (HCa.out _).mono ?_); rintro e w1 ⟨rfl, b1⟩; have HT1 := Lib.hid ((by repeat' (first | with_reducible exact HT0.out | apply CellsAt.drew) : CellsAt _ w.heap.size 194 [.iface Ta Va, .iface Tb Vb, .int .i64 i, .int .i64 o]).below b1 (by simp)); have HB1 : Hid (Below w.heap.size w w1) := Lib.hid (HB0.out.trans (Below.trans (Below.refl _ _).drew (b1.mono (by simp)))); have hsz1 : w.heap.size + 1 ≤ w1.heap.size := Nat.le_trans (by simp) b1.size; clear b1)
      | (go_split_ands; (with_reducible refine (HCb.out _).mono ?_); rintro e w2 ⟨rfl, b2⟩; have HT2 := Lib.hid (HT1.out.below b2 (by omega)); have HB2 : Hid (Below w.heap.size w w2) := Lib.hid (HB1.out.trans (b2.mono (by omega))); have hsz2 : w1.heap.size ≤ w2.heap.size := b2.size; clear b2)
      | (go_at_call 130; go_split_ands; refine (HC.out _).mono ?_; rintro e w3 ⟨rfl, b3⟩; have HT3 := Lib.hid (HT2.out.below b3 (by omega)); have HB3 : Hid (Below w.heap.size w w3) := Lib.hid (HB2.out.trans (b3.mono (by omega))); clear b3)
      | fail)
  all_goals go_wp2
  all_goals go_ret
  all_goals exact ⟨rfl, HB3.out⟩
theorem trV_mir : ∀ t : Tr, VTr t → ∃ T V g, trV t = .iface T V ∧ (∀ n w, 0 < n → Sem.run Try.prog (method n T V "loop.example/g01073/impl.mirrored") w = .ok (g, V) w) ∧ (∀ w, Sem.run Try.prog (callFunc g #[V]) w = .ok (.enter g #[V]) w) ∧ (∀ w, Calls Try.prog g #[V] w (MirSaid w (trV (mirT t))))
  | .leaf n i o, hv => by
    refine ⟨tLeafT, .agg #[.int .i64 n.k, .int .i64 n.v, .string n.s, .int .i64 i, .int .i64 o], 168, rfl, fun m w hm => ?_, fun w => by kernel_rfl, fun w => mir_leaf w n i o hv.1⟩
    obtain ⟨m, rfl⟩ : ∃ q, m = q + 1 := ⟨m - 1, by omega⟩
    kernel_rfl
  | .seq a b i o, hv => by
    obtain ⟨Ta, Va, ga, ea, hma, hca, hCa⟩ := trV_mir a hv.1
    obtain ⟨Tb, Vb, gb, eb, hmb, hcb, hCb⟩ := trV_mir b hv.2.1
    refine ⟨tSeqT, .agg #[trV a, trV b, .int .i64 i, .int .i64 o], 172, rfl, fun m w hm => ?_, fun w => by kernel_rfl, fun w => ?_⟩
    · obtain ⟨m, rfl⟩ : ∃ q, m = q + 1 := ⟨m - 1, by omega⟩
      kernel_rfl
    · rw [ea, eb]
      exact mir_seq w Ta Tb Va Vb _ _ _ ga gb i o hma hca hCa hmb hcb hCb (fun w => compose_any w (mirT b) (mirT a))
  | .par a b i o, hv => by
    obtain ⟨Ta, Va, ga, ea, hma, hca, hCa⟩ := trV_mir a hv.1
    obtain ⟨Tb, Vb, gb, eb, hmb, hcb, hCb⟩ := trV_mir b hv.2.1
    refine ⟨tParT, .agg #[trV a, trV b, .int .i64 i, .int .i64 o], 176, rfl, fun m w hm => ?_, fun w => by kernel_rfl, fun w => ?_⟩
    · obtain ⟨m, rfl⟩ : ∃ q, m = q + 1 := ⟨m - 1, by omega⟩
      kernel_rfl
    · rw [ea, eb]
      exact mir_par w Ta Tb Va Vb _ _ _ ga gb i o hma hca hCa hmb hcb hCb (fun w => juxtapose_any w (mirT a) (mirT b) (mirT_valid hv.1).1.fits (mirT_valid hv.2.1).1.fits)
theorem nodes_plain0 : ∀ {t : Tr}, VTr t → ∀ n ∈ nodesOf t, n.s = ByteArray.empty
  | .leaf n i o, h, m, hm => by
    obtain rfl := List.mem_singleton.1 hm
    have := h.1
    unfold isLeafB at this
    simp at this
    exact this.2
  | .seq a b i o, h, m, hm => by
    simp only [nodesOf, List.mem_append, List.mem_singleton] at hm
    rcases hm with hm | hm | rfl
    · exact nodes_plain0 h.1 m hm
    · exact nodes_plain0 h.2.1 m hm
    · rfl
  | .par a b i o, h, m, hm => by
    simp only [nodesOf, List.mem_append, List.mem_singleton] at hm
    rcases hm with hm | hm | rfl
    · exact nodes_plain0 h.1 m hm
    · exact nodes_plain0 h.2.1 m hm
    · rfl
def miL (x : List Nd) : List Nd := match treeOf x with | some t => nodesOf (mirT t) | none => []
theorem OwnN.tree {w : World} {S : Nat → Prop} {v : Value} {t : Tr} (hv : VTr t) (hl : (nodesOf t).length ≤ 400) (h : OwN w S v (nodesOf t)) : OwnN w S v (nodesOf t) := by
  refine ⟨h, by unfold cntN; omega, fun k hk => ?_⟩
  have hp : ∀ n ∈ nodesOf t, n.s = ByteArray.empty := nodes_plain0 hv
  rw [hp _ (getD_mem' hk nd0)]
  exact Nat.zero_le _
set_option maxRecDepth 100000 in
set_option maxHeartbeats 6400000 in
theorem impl_MirrorTerm (w : World) (B : Nat) (v : Value) (x : List Nd) (hv : LfN w B v x) (hB : B ≤ w.heap.size) (_ : szN x ≤ 1048576) :
    Calls Try.prog 11 #[.agg #[v]] w (IRetTermB w (miL x) (tyOk x)) := by
  have HB0 := Lib.hid (show Below w.heap.size w ((w.alloc (.cells #[v] tTm)).alloc (.cells #[.slice none 0 0] tTm)) from ((Below.refl _ _).alloc (Nat.le_refl _) _).alloc (by simp) _)
  have HPO := Lib.hid (partOf_any ((w.alloc (.cells #[v] tTm)).alloc (.cells #[.slice none 0 0] tTm)) B v x (hv.below HB0.out hB) (by simp; omega))
  have HR0 := Lib.hid (cellsAt_new' (w.alloc (.cells #[v] tTm)) #[.slice none 0 0] tTm [.slice none 0 0] (w.heap.size + 1) (by simp) rfl)
  have hsz0 : ((w.alloc (.cells #[v] tTm)).alloc (.cells #[.slice none 0 0] tTm)).heap.size = w.heap.size + 2 := by simp
  obtain ⟨A, c, rfl⟩ := hv.len
  clear hv hB
  cases ht : treeOf x with
  | none =>
    have H3 : Hid (tyOk x = false) := Lib.hid (by unfold tyOk; rw [ht]; rfl)
    have H1 : Hid (miL x = []) := Lib.hid (by unfold miL; rw [ht])
    have HT := Lib.hid ht
    clear ht
    go_enter Try.func11, Try.ntmps11
    go_wp2_with fail
    refine HPO.out.mono ?_
    rintro e w2 ⟨u, ok, rfl, b2, hok, hu⟩
    rw [HT.out] at hok
    subst hok
    have HB2 := Lib.hid (HB0.out.trans (b2.mono (by rw [hsz0]; omega)))
    have HR2 := Lib.hid (HR0.out.below b2 (by rw [hsz0]; omega))
    have hr2 : w2.cell? ⟨w.heap.size + 1, 0, none⟩ = some (.slice none 0 0) := HR2.out.cell (i := 0) (by simp)
    have hrf2 := HR2.out.frozen
    have hq2 : (w2.setCell ⟨w.heap.size + 1, 0, none⟩ (.slice none 0 0)).cell? ⟨w.heap.size + 1, 0, none⟩ = some (.slice none 0 0) := (HR2.out.set 0 (.slice none 0 0)).cell (i := 0) (by simp)
    clear b2 hu
    go_wp2
    refine bodyPost_ret (v := .tuple #[.agg #[.slice none 0 0], .bool false]) (by simp [results, Try.results11, go_sem, hq2]) rfl ?_
    unfold IRetTermB
    rw [H1.out, H3.out]
    exact ⟨_, rfl, HB2.out.setCell (by dsimp only; omega) _, ⟨⟨none, 0, rfl, Nat.le_refl _, Or.inl rfl⟩, Nat.zero_le _, fun k hk => absurd hk (Nat.not_lt_zero k)⟩⟩
  | some t =>
    have H3 : Hid (tyOk x = true) := Lib.hid (by unfold tyOk; rw [ht]; rfl)
    have H1 : Hid (miL x = nodesOf (mirT t)) := Lib.hid (by unfold miL; rw [ht])
    obtain ⟨hV, hn, hl⟩ := tree_valid ht
    obtain ⟨mV, -, -, mL⟩ := mirT_valid hV
    have hml : (nodesOf (mirT t)).length ≤ 400 := by rw [mL, hn]; exact hl
    have HON := Lib.hid (fun (w' : World) (S : Nat → Prop) (v' : Value) (h : OwN w' S v' (nodesOf (mirT t))) => OwnN.tree mV hml h)
    have HTO := Lib.hid (fun w0 => termOf_any w0 (mirT t) (by omega))
    have HTT := Lib.hid (show ∀ t', treeOf x = some t' → t' = t from fun t' h => Option.some.inj (h.symm.trans ht))
    have HT := Lib.hid ht
    have HTS : Hid ((treeOf x).isSome = true) := Lib.hid (by rw [ht]; rfl)
    obtain ⟨Tt, Vt, gt, et, hm, hc, hC⟩ := trV_mir t hV
    have HC := Lib.hid hC
    have HET := Lib.hid et
    generalize nodesOf (mirT t) = z at *
    obtain ⟨R, HRR⟩ : ∃ R, Hid (trV (mirT t) = R) := ⟨_, Lib.hid rfl⟩
    rw [HRR.out] at HTO HC
    clear hC et ht hV hn hl mV mL hml
    go_enter Try.func11, Try.ntmps11
    go_wp2_with fail
    refine HPO.out.mono ?_
    rintro e w2 ⟨u, ok, rfl, b2, hok, hu⟩
    rw [HTS.out] at hok
    subst hok
    have hu2 := (hu t HT.out).trans HET.out
    subst hu2
    have HB2 := Lib.hid (HB0.out.trans (b2.mono (by rw [hsz0]; omega)))
    have HR2 := Lib.hid (HR0.out.below b2 (by rw [hsz0]; omega))
    have hsz2 : w.heap.size + 2 ≤ w2.heap.size := by rw [← hsz0]; exact b2.size
    clear b2 hu
    go_wp2_with fail
    refine (HC.out _).mono ?_
    rintro e w3 ⟨rfl, b3⟩
    have HB3 := Lib.hid (HB2.out.trans (b3.mono HB2.out.size))
    have HR3 := Lib.hid (HR2.out.below b3 (by omega))
    have hsz3 : w2.heap.size ≤ w3.heap.size := b3.size
    clear b3
    go_wp2_with fail
    refine (HTO.out _).mono ?_
    rintro e w4 ⟨v4, rfl, b4, o4⟩
    obtain ⟨A4, c4, rfl⟩ := o4.form
    have HO4 := Lib.hid o4
    have HB4 := Lib.hid (HB3.out.trans (b4.mono HB3.out.size))
    have HR4 := Lib.hid (HR3.out.below b4 (by omega))
    have hsz4 : w3.heap.size ≤ w4.heap.size := b4.size
    have hr4 : w4.cell? ⟨w.heap.size + 1, 0, none⟩ = some (.slice none 0 0) := HR4.out.cell (i := 0) (by simp)
    have hrf4 := HR4.out.frozen
    have hq4 : (w4.setCell ⟨w.heap.size + 1, 0, none⟩ (.slice A4 z.length c4)).cell? ⟨w.heap.size + 1, 0, none⟩ = some (.slice A4 z.length c4) := (HR4.out.set 0 (.slice A4 z.length c4)).cell (i := 0) (by simp)
    clear b4 o4
    go_wp2
    refine bodyPost_ret (v := .tuple #[.agg #[.slice A4 z.length c4], .bool true]) (by simp [results, Try.results11, go_sem, hq4]) rfl ?_
    unfold IRetTermB
    rw [H1.out, H3.out]
    exact ⟨_, rfl, HB4.out.setCell (by dsimp only; omega) _, HON.out _ _ _ ((HO4.out.own.blocks (fun q hq hql => blk_setCell_other _ _ _ _ (by dsimp only; omega))).mono (fun q hq _ => by omega))⟩
end Go.Proofs.Ytiealgnmhjebeaa
