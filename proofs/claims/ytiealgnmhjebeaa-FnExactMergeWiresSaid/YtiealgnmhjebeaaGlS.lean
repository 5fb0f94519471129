/- Wires made one: the model's hgGlue; MergeWires: both sides. -/
import Derived.Test.YtiealgnmhjebeaaGlB
import Derived.Test.YtiealgnmhjebeaaGrV
namespace Go.Proofs.Ytiealgnmhjebeaa
set_option maxRecDepth 100000
open Go Go.RowKit Go.Deep

set_option maxRecDepth 100000 in
set_option maxHeartbeats 3200000 in
theorem hgGlue_any (w : World) (B : Nat) (uE uI uO ua ub : Value) (N : Nat) (es : List Ed) (xi xo a b : List Int) (hE : LfE w B uE es) (hI : LfR w B uI xi) (hO : LfR w B uO xo) (ha : RdS w (fun q => q < B) ua a) (hb : RdS w (fun q => q < B) ub b) (hB : B ≤ w.heap.size) (hN : N ≤ 1000)
    (hle : es.length ≤ 1000) (hli : xi.length ≤ 1000) (hlo : xo.length ≤ 1000) (hlr : ∀ k, k < es.length → (es.getD k ed0).i.length ≤ 1000 ∧ (es.getD k ed0).o.length ≤ 1000) (hcn : cntE es ≤ 1099511627776)
    (hla : a.length ≤ 1000) (hab : a.length ≤ b.length) (hlb : b.length ≤ 1000) (hra : inRg N a) (hrb : inRg N b) (hoc : ∀ x, x ∈ occL es xi xo → 0 ≤ x ∧ x < N) :
    Calls Try.prog 44 #[.agg #[.int .i64 N, uE, uI, uO], ua, ub] w fun e w' => ∃ v1 v2 v3, e = .returned (.agg #[.int .i64 (pCnt N a b es xi xo), v1, v2, v3]) ∧ Below w.heap.size w w' ∧ OwnE w' (fun q => w.heap.size ≤ q) v1 (mapEs (pNum N a b es xi xo) es) ∧ OwnR w' (fun q => w.heap.size ≤ q) v2 (pickL xi (pNum N a b es xi xo)) ∧ OwnR w' (fun q => w.heap.size ≤ q) v3 (pickL xo (pNum N a b es xi xo)) := by
  have hvi : allL xi 0 (N - 1) = true := (allL_iff xi N).2 fun x hx => hoc x (mem_occ.2 (Or.inl hx))
  have hvo : allL xo 0 (N - 1) = true := (allL_iff xo N).2 fun x hx => hoc x (mem_occ.2 (Or.inr (Or.inl hx)))
  have hve : ∀ k, k < es.length → allL (es.getD k ed0).i 0 (N - 1) = true ∧ allL (es.getD k ed0).o 0 (N - 1) = true := fun k hk => ⟨(allL_iff _ N).2 fun x hx => hoc x (mem_occ.2 (Or.inr (Or.inr ⟨_, getD_mem' hk ed0, Or.inl hx⟩))), (allL_iff _ N).2 fun x hx => hoc x (mem_occ.2 (Or.inr (Or.inr ⟨_, getD_mem' hk ed0, Or.inr hx⟩)))⟩
  obtain ⟨g1, g2, g3, g4⟩ := gl_graph hab hra hrb hoc
  have HG := Lib.hid (fun (w' : World) (h : Below w.heap.size w w') => hgGlued_any w' B uE uI uO ua ub N es xi xo a b (hE.below h hB) (hI.below h hB) (hO.below h hB) (ha.below h hB) (hb.below h hB) (Nat.le_trans hB h.size) hN hle hli hlo hlr hcn hla hab hlb hra hrb hvi hvo hve)
  rw [g1, g2, g3, g4] at HG
  obtain ⟨AE, cE, rfl⟩ := hE.len
  obtain ⟨AI, cI, rfl⟩ := hI.len
  obtain ⟨AO, cO, rfl⟩ := hO.len
  obtain ⟨A1, c1, rfl⟩ := rdS_len ha
  obtain ⟨A2, c2, rfl⟩ := rdS_len hb
  clear hE hI hO ha hb hB hlr hcn hra hrb hoc hvi hvo hve g1 g2 g3 g4
  generalize pNum N a b es xi xo = nu at HG ⊢
  generalize pCnt N a b es xi xo = m at HG ⊢
  go_enter Try.func44, Try.ntmps44
  go_wp2_with fail
  refine (HG.out _ (((Below.refl w.heap.size w).alloc (Nat.le_refl _) _).alloc (by simp) _)).mono ?_
  rintro e w2 ⟨v1, v2, v3, v4, rfl, b2, o1, o2, o3, -⟩
  have HB2 := Lib.hid ((((Below.refl w.heap.size w).alloc (Nat.le_refl _) (.cells #[.int .i64 N, .slice AE es.length cE, .slice AI xi.length cI, .slice AO xo.length cO] 42)).alloc (by simp) (.cells #[.int .i64 0, .slice none 0 0, .slice none 0 0, .slice none 0 0] 42)).trans (b2.mono (by simp; omega)))
  have HR2 := Lib.hid (show w2.heap[w.heap.size + 1]? = some (.cells #[.int .i64 0, .slice none 0 0, .slice none 0 0, .slice none 0 0] 42 (0, 0)) from (b2.block _ (by simp)).trans (by have := blk_alloc_new (w.alloc (.cells #[.int .i64 N, .slice AE es.length cE, .slice AI xi.length cI, .slice AO xo.length cO] 42)) (.cells #[.int .i64 0, .slice none 0 0, .slice none 0 0, .slice none 0 0] 42); simpa using this))
  have HO1 := Lib.hid (o1.mono (T := fun q => w.heap.size + 2 ≤ q ∧ q < w2.heap.size) (fun q hq hl => ⟨by simp at hq; omega, hl⟩))
  have HO2 := Lib.hid (o2.mono (T := fun q => w.heap.size + 2 ≤ q ∧ q < w2.heap.size) (fun q hq hl => ⟨by simp at hq; omega, hl⟩))
  have HO3 := Lib.hid (o3.mono (T := fun q => w.heap.size + 2 ≤ q ∧ q < w2.heap.size) (fun q hq hl => ⟨by simp at hq; omega, hl⟩))
  have hs2 : w.heap.size + 2 ≤ w2.heap.size := by have := b2.size; simp at this; omega
  have hl2 : w.heap.size + 1 < w2.heap.size := by omega
  obtain ⟨B1, d1, rfl⟩ := o1.len
  obtain ⟨B2, d2, rfl⟩ := o2.len
  obtain ⟨B3, d3, rfl⟩ := o3.len
  have hx0 := box_cell HR2.out 0
  have hx1 := box_cell HR2.out 1
  have hx2 := box_cell HR2.out 2
  have hx3 := box_cell HR2.out 3
  have hxf := box_free HR2.out
  simp at hx0 hx1 hx2 hx3
  clear b2 o1 o2 o3
  go_wp2
  refine bodyPost_ret (v := .agg #[.int .i64 m, .slice B1 (mapEs nu es).length d1, .slice B2 (pickL xi nu).length d2, .slice B3 (pickL xo nu).length d3]) (by simp [results, Try.results44, go_sem, hx0, hx1, hx2, hx3, hl2]) rfl ?_
  refine ⟨_, _, _, rfl, by repeat' (first | exact HB2.out | apply Below.setCell | apply Below.alloc | (simp; done) | omega | (simp; omega)), ?_, ?_, ?_⟩
  · exact (HO1.out.blocks (fun q hq _ => (blk_alloc_lt _ _ _ (by rw [nblk_setCell, nblk_setCell, nblk_setCell, nblk_setCell]; exact hq.2)).trans (by repeat rw [blk_setCell_other _ _ _ _ (by dsimp only; omega)]))).mono fun q hq _ => by omega
  · exact (HO2.out.blocks (fun q hq _ => (blk_alloc_lt _ _ _ (by rw [nblk_setCell, nblk_setCell, nblk_setCell, nblk_setCell]; exact hq.2)).trans (by repeat rw [blk_setCell_other _ _ _ _ (by dsimp only; omega)]))).mono fun q hq _ => by omega
  · exact (HO3.out.blocks (fun q hq _ => (blk_alloc_lt _ _ _ (by rw [nblk_setCell, nblk_setCell, nblk_setCell, nblk_setCell]; exact hq.2)).trans (by repeat rw [blk_setCell_other _ _ _ _ (by dsimp only; omega)]))).mono fun q hq _ => by omega
/-- What MergeWires returns. -/
def mwB (n : Int) (es : List Ed) (xi xo : List Int) (v x : Int) : Bool := validB n es xi xo && (decide (0 ≤ v) && decide (v < n)) && (decide (0 ≤ x) && decide (x < n))
def mwN (n : Int) (es : List Ed) (xi xo : List Int) (v x : Int) : Int := if mwB n es xi xo v x then (pCnt n.toNat [v] [x] es xi xo : Nat) else 0
def mwE (n : Int) (es : List Ed) (xi xo : List Int) (v x : Int) : List Ed := if mwB n es xi xo v x then mapEs (pNum n.toNat [v] [x] es xi xo) es else []
def mwI (n : Int) (es : List Ed) (xi xo : List Int) (v x : Int) : List Int := if mwB n es xi xo v x then pickL xi (pNum n.toNat [v] [x] es xi xo) else []
def mwO (n : Int) (es : List Ed) (xi xo : List Int) (v x : Int) : List Int := if mwB n es xi xo v x then pickL xo (pNum n.toNat [v] [x] es xi xo) else []
theorem mwB_iff {n : Int} {es : List Ed} {xi xo : List Int} {v x : Int} : mwB n es xi xo v x = true ↔ validB n es xi xo = true ∧ (0 ≤ v ∧ v < n) ∧ (0 ≤ x ∧ x < n) := by
  unfold mwB
  simp only [Bool.and_eq_true, decide_eq_true_eq]
  constructor
  · rintro ⟨⟨a, b⟩, c⟩; exact ⟨a, b, c⟩
  · rintro ⟨a, b, c⟩; exact ⟨⟨a, b⟩, c⟩
theorem inRg_one {N : Nat} {v : Int} (h0 : 0 ≤ v) (h1 : v < N) : inRg N [v] := mem_inRg fun x hx => by
  simp only [List.mem_singleton] at hx
  subst hx
  exact ⟨h0, h1⟩
theorem allOcc_len {es : List Ed} {xi xo : List Int} {n : Int} (h : validB n es xi xo = true) : (occL es xi xo).length ≤ 1000 := by
  obtain ⟨⟨-, -, a, b, c⟩, d, -, -⟩ := valid_iff.1 h
  exact occ_len d a b c
set_option maxRecDepth 100000 in
set_option maxHeartbeats 6400000 in
theorem spec_MergeWires (w : World) (B : Nat) (uE uI uO : Value) (n : Int) (es : List Ed) (xi xo : List Int) (v x : Int) (hE : LfE w B uE es) (hI : LfR w B uI xi) (hO : LfR w B uO xo) (_ : Bi v) (_ : Bi x) (hB : B ≤ w.heap.size) (_ : szE es ≤ 1048576) (_ : szR xi ≤ 1048576) (_ : szR xo ≤ 1048576) :
    Calls Try.prog 16 #[.agg #[.int .i64 n, uE, uI, uO], .int .i64 v, .int .i64 x] w (SRetGraphB w (mwN n es xi xo v x) (mwE n es xi xo v x) (mwI n es xi xo v x) (mwO n es xi xo v x) (mwB n es xi xo v x)) := by
  have HGL := Lib.hid (fun (hval : validB n es xi xo = true) (h1 : 0 ≤ v ∧ v < n) (h2 : 0 ≤ x ∧ x < n) (w' : World) (hb : Below w.heap.size w w') (B' : Nat) (hB1 : B ≤ B') (hB2 : B' ≤ w'.heap.size) (ua ub : Value) (ha : RdS w' (fun q => q < B') ua [v]) (hb2 : RdS w' (fun q => q < B') ub [x]) =>
    (show Calls Try.prog 44 #[.agg #[.int .i64 n, uE, uI, uO], ua, ub] w' _ from by
      have hsm := valid_small hval
      have hvi := valid_iff.1 hval
      have hnn : ((n.toNat : Nat) : Int) = n := by omega
      have := hgGlue_any w' B' uE uI uO ua ub n.toNat es xi xo [v] [x] ((hE.below hb hB).mono hB1) ⟨(hI.1.below hb hB).mono (fun q hq => Nat.lt_of_lt_of_le hq hB1), hI.2⟩ ⟨(hO.1.below hb hB).mono (fun q hq => Nat.lt_of_lt_of_le hq hB1), hO.2⟩ ha hb2 hB2 (by omega) (by omega) (by omega) (by omega) hsm.2.2.2.2 (by omega) (by simp) (by simp) (by simp) (inRg_one h1.1 (by omega)) (inRg_one h2.1 (by omega)) (fun y hy => by have := hvi.2.2.1 y hy; omega)
      rw [hnn] at this
      exact this))
  obtain ⟨AE, cE, rfl⟩ := hE.len
  obtain ⟨AI, cI, rfl⟩ := hI.len
  obtain ⟨AO, cO, rfl⟩ := hO.len
  have HB := Lib.hid hB
  have HG := Lib.hid (fun (w' : World) (hb : Below w.heap.size w w') => hgValid_any w' B n es xi xo AE cE AI cI AO cO (hE.1.below hb hB) (hI.1.below hb hB) (hO.1.below hb hB) (Nat.le_trans hB hb.size) hE.2.1 hI.2 hO.2 hE.2.2)
  clear hE hI hO hB
  go_enter Try.func16, Try.ntmps16
  go_wp2_with fail
  refine (HG.out _ (((Below.refl w.heap.size w).alloc (Nat.le_refl _) _).alloc (by simp) _)).mono ?_
  rintro e w2 ⟨rfl, b2⟩
  have HB2 := Lib.hid ((((Below.refl w.heap.size w).alloc (Nat.le_refl _) (.cells #[.int .i64 n, .slice AE es.length cE, .slice AI xi.length cI, .slice AO xo.length cO] 42)).alloc (by simp) (.cells #[.int .i64 0, .slice none 0 0, .slice none 0 0, .slice none 0 0] 42)).trans (b2.mono (by simp; omega)))
  have HX2 := Lib.hid (show w2.heap[w.heap.size]? = some (.cells #[.int .i64 n, .slice AE es.length cE, .slice AI xi.length cI, .slice AO xo.length cO] 42 (0, 0)) from (b2.block _ (by simp; omega)).trans ((blk_alloc_lt _ _ _ (by simp)).trans (blk_alloc_new w _)))
  have HR2 := Lib.hid (show w2.heap[w.heap.size + 1]? = some (.cells #[.int .i64 0, .slice none 0 0, .slice none 0 0, .slice none 0 0] 42 (0, 0)) from (b2.block _ (by simp)).trans (by have := blk_alloc_new (w.alloc (.cells #[.int .i64 n, .slice AE es.length cE, .slice AI xi.length cI, .slice AO xo.length cO] 42)) (.cells #[.int .i64 0, .slice none 0 0, .slice none 0 0, .slice none 0 0] 42); simpa using this))
  have hs2 : w.heap.size + 2 ≤ w2.heap.size := by have := b2.size; simp at this; omega
  have hl2 : w.heap.size + 1 < w2.heap.size := by omega
  clear b2
  have hy0 := box_cell HX2.out 0
  have hy1 := box_cell HX2.out 1
  have hy2 := box_cell HX2.out 2
  have hy3 := box_cell HX2.out 3
  have hx0 := box_cell HR2.out 0
  have hx1 := box_cell HR2.out 1
  have hx2 := box_cell HR2.out 2
  have hx3 := box_cell HR2.out 3
  have hxf := box_free HR2.out
  simp at hy0 hy1 hy2 hy3 hx0 hx1 hx2 hx3
  cases hval : validB n es xi xo with
  | false =>
    have HM := Lib.hid (show mwB n es xi xo v x = false from by unfold mwB; rw [hval]; rfl)
    clear hval
    go_wp2
    refine bodyPost_ret (v := .tuple #[.agg #[.int .i64 0, .slice none 0 0, .slice none 0 0, .slice none 0 0], .bool false]) (by simp [results, Try.results16, go_sem, hx0, hx1, hx2, hx3]) rfl ?_
    unfold mwN mwE mwI mwO
    rw [HM.out]
    exact ⟨_, _, _, rfl, by repeat' (first | exact HB2.out | apply Below.drew | apply Below.setCell | apply Below.alloc | (simp; done) | omega | (simp; omega)), ownE_nil _ _ _ _, ownR_nil _ _ _ _, ownR_nil _ _ _ _⟩
  | true =>
    have hn := (valid_iff.1 hval).1
    have hwn : IntKind.i64.wrap (n - 1) = n - 1 := Go.IntWalk.i64_in _ ⟨by omega, by omega⟩
    by_cases h1 : 0 ≤ v ∧ v < n
    · have HL1 := Lib.hid (fun w0 => l1In_t v 0 (n - 1) w0 h1.1 (by omega))
      by_cases h2 : 0 ≤ x ∧ x < n
      · have HL2 := Lib.hid (fun w0 => l1In_t x 0 (n - 1) w0 h2.1 (by omega))
        have HM := Lib.hid (mwB_iff.2 ⟨hval, h1, h2⟩)
        have HGM := Lib.hid (HGL.out hval h1 h2)
        clear hval h1 h2 hn HGL
        go_wp2_with (first | (go_at_call 43; (with_reducible refine (HL1.out _).mono ?_); rintro e w' ⟨rfl, rfl⟩) | (go_at_call 43; (with_reducible refine (HL2.out _).mono ?_); rintro e w' ⟨rfl, rfl⟩) | fail)
        obtain ⟨W3, HW3⟩ : ∃ W3, W3 = (w2.alloc (.cells #[.int .i64 v] 3)).alloc (.cells #[.int .i64 x] 3) := ⟨_, rfl⟩
        rw [← HW3]
        have HB3 := Lib.hid (show Below w2.heap.size w2 W3 from by rw [HW3]; exact ((Below.refl _ _).alloc (Nat.le_refl _) _).alloc (by simp) _)
        have hs3 : w2.heap.size + 2 ≤ W3.heap.size := by rw [HW3]; simp
        have HC1 := Lib.hid (show IR W3 w2.heap.size [v] from by rw [HW3]; exact (cellsAt_new w2 #[.int .i64 v] 3).alloc _)
        have HC2 := Lib.hid (show IR W3 (w2.heap.size + 1) [x] from by rw [HW3]; exact cellsAt_new' (w2.alloc (.cells #[.int .i64 v] 3)) #[.int .i64 x] 3 _ (w2.heap.size + 1) (by simp) rfl)
        clear HW3
        have HB3w := Lib.hid (HB2.out.trans (HB3.out.mono HB2.out.size))
        refine (HGM.out W3 HB3w.out W3.heap.size (Nat.le_trans HB.out HB3w.out.size) (Nat.le_refl _) (.slice (some ⟨w2.heap.size, 0, none⟩) 1 1) (.slice (some ⟨w2.heap.size + 1, 0, none⟩) 1 1) (HC1.out.rd _ (by omega)) (HC2.out.rd _ (by omega))).mono ?_
        rintro e w4 ⟨v1, v2, v3, rfl, b4, o1, o2, o3⟩
        have hrb := (b4.block (w.heap.size + 1) (by omega)).trans ((HB3.out.block (w.heap.size + 1) hl2).trans HR2.out)
        clear hx0 hx1 hx2 hx3 hxf
        have hx0 := box_cell hrb 0
        have hx1 := box_cell hrb 1
        have hx2 := box_cell hrb 2
        have hx3 := box_cell hrb 3
        have hxf := box_free hrb
        simp at hx0 hx1 hx2 hx3
        have hl4 : w.heap.size + 1 < w4.heap.size := by have := b4.size; omega
        have HB4 := Lib.hid (HB3w.out.trans (b4.mono HB3w.out.size))
        obtain ⟨A1, c1, rfl⟩ := o1.len
        obtain ⟨A2, c2, rfl⟩ := o2.len
        obtain ⟨A3, c3, rfl⟩ := o3.len
        have HO1 := Lib.hid o1
        have HO2 := Lib.hid o2
        have HO3 := Lib.hid o3
        clear hrb b4 o1 o2 o3
        obtain ⟨nu, HNU⟩ : ∃ nu, Hid (pNum n.toNat [v] [x] es xi xo = nu) := ⟨_, Lib.hid rfl⟩
        obtain ⟨m, HMM⟩ : ∃ m, Hid (pCnt n.toNat [v] [x] es xi xo = m) := ⟨_, Lib.hid rfl⟩
        rw [HNU.out] at HO1 HO2 HO3
        rw [HNU.out, HMM.out]
        go_wp2
        refine bodyPost_ret (v := .tuple #[.agg #[.int .i64 m, .slice A1 (mapEs nu es).length c1, .slice A2 (pickL xi nu).length c2, .slice A3 (pickL xo nu).length c3], .bool true]) (by simp [results, Try.results16, go_sem, hx0, hx1, hx2, hx3]) rfl ?_
        unfold mwN mwE mwI mwO
        rw [HM.out, HNU.out, HMM.out]
        simp only [if_true]
        refine ⟨_, _, _, rfl, by repeat' (first | exact HB4.out | apply Below.setCell | (simp; done)), ?_, ?_, ?_⟩
        · exact (HO1.out.blocks (fun q hq _ => by repeat rw [blk_setCell_other _ _ _ _ (by dsimp only; omega)])).mono fun q hq _ => by omega
        · exact (HO2.out.blocks (fun q hq _ => by repeat rw [blk_setCell_other _ _ _ _ (by dsimp only; omega)])).mono fun q hq _ => by omega
        · exact (HO3.out.blocks (fun q hq _ => by repeat rw [blk_setCell_other _ _ _ _ (by dsimp only; omega)])).mono fun q hq _ => by omega
      · have HL2 := Lib.hid (fun w0 => l1In_f x 0 (n - 1) w0 (by omega))
        have HM := Lib.hid (show mwB n es xi xo v x = false from by cases h : mwB n es xi xo v x with | false => rfl | true => exact absurd (mwB_iff.1 h).2.2 h2)
        clear hval h1 h2 hn HGL
        go_wp2_with (first | (go_at_call 43; (with_reducible refine (HL1.out _).mono ?_); rintro e w' ⟨rfl, rfl⟩) | (go_at_call 43; (with_reducible refine (HL2.out _).mono ?_); rintro e w' ⟨rfl, rfl⟩) | fail)
        refine bodyPost_ret (v := .tuple #[.agg #[.int .i64 0, .slice none 0 0, .slice none 0 0, .slice none 0 0], .bool false]) (by simp [results, Try.results16, go_sem, hx0, hx1, hx2, hx3]) rfl ?_
        unfold mwN mwE mwI mwO
        rw [HM.out]
        exact ⟨_, _, _, rfl, by repeat' (first | exact HB2.out | apply Below.drew | apply Below.setCell | apply Below.alloc | (simp; done) | omega | (simp; omega)), ownE_nil _ _ _ _, ownR_nil _ _ _ _, ownR_nil _ _ _ _⟩
    · have HL1 := Lib.hid (fun w0 => l1In_f v 0 (n - 1) w0 (by omega))
      have HM := Lib.hid (show mwB n es xi xo v x = false from by cases h : mwB n es xi xo v x with | false => rfl | true => exact absurd (mwB_iff.1 h).2.1 h1)
      clear hval h1 hn HGL
      go_wp2_with (first | (go_at_call 43; (with_reducible refine (HL1.out _).mono ?_); rintro e w' ⟨rfl, rfl⟩) | fail)
      refine bodyPost_ret (v := .tuple #[.agg #[.int .i64 0, .slice none 0 0, .slice none 0 0, .slice none 0 0], .bool false]) (by simp [results, Try.results16, go_sem, hx0, hx1, hx2, hx3]) rfl ?_
      unfold mwN mwE mwI mwO
      rw [HM.out]
      exact ⟨_, _, _, rfl, by repeat' (first | exact HB2.out | apply Below.drew | apply Below.setCell | apply Below.alloc | (simp; done) | omega | (simp; omega)), ownE_nil _ _ _ _, ownR_nil _ _ _ _, ownR_nil _ _ _ _⟩
end Go.Proofs.Ytiealgnmhjebeaa
