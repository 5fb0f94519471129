/- MergeWires: the program. -/
import Derived.Test.YtiealgnmhjebeaaGlS
import Derived.Test.YtiealgnmhjebeaaGlB
namespace Go.Proofs.Ytiealgnmhjebeaa
set_option maxRecDepth 100000
open Go Go.RowKit Go.Deep

theorem inIx_two {n v x : Int} : inIx n [v, x] = (decide (0 ≤ v ∧ v < n) && decide (0 ≤ x ∧ x < n)) := by simp [inIx]
set_option maxRecDepth 100000 in
set_option maxHeartbeats 6400000 in
theorem impl_MergeWires (w : World) (B : Nat) (uE uI uO : Value) (n : Int) (es : List Ed) (xi xo : List Int) (v x : Int) (hE : LfE w B uE es) (hI : LfR w B uI xi) (hO : LfR w B uO xo) (_ : Bi v) (_ : Bi x) (hB : B ≤ w.heap.size) (_ : szE es ≤ 1048576) (_ : szR xi ≤ 1048576) (_ : szR xo ≤ 1048576) :
    Calls Try.prog 18 #[.agg #[.int .i64 n, uE, uI, uO], .int .i64 v, .int .i64 x] w (IRetGraphB w (mwN n es xi xo v x) (mwE n es xi xo v x) (mwI n es xi xo v x) (mwO n es xi xo v x) (mwB n es xi xo v x)) := by
  have HOP := Lib.hid (fun (w' : World) (hb : Below w.heap.size w w') => openOf_any w' B n es xi xo uE uI uO (hE.below hb hB) (hI.below hb hB) (hO.below hb hB) (Nat.le_trans hB hb.size))
  have HI := Lib.hid hI
  have HO := Lib.hid hO
  have HB := Lib.hid hB
  obtain ⟨AE, cE, rfl⟩ := hE.len
  obtain ⟨AI, cI, rfl⟩ := hI.len
  obtain ⟨AO, cO, rfl⟩ := hO.len
  clear hE hI hO hB
  go_enter Try.func18, Try.ntmps18
  go_wp2_with fail
  refine (HOP.out _ (((Below.refl w.heap.size w).alloc (Nat.le_refl _) _).alloc (by simp) _)).mono ?_
  rintro e w2 ⟨b2, h2⟩
  have HB2 := Lib.hid ((((Below.refl w.heap.size w).alloc (Nat.le_refl _) (.cells #[.int .i64 n, .slice AE es.length cE, .slice AI xi.length cI, .slice AO xo.length cO] 42)).alloc (by simp) (.cells #[.int .i64 0, .slice none 0 0, .slice none 0 0, .slice none 0 0] 42)).trans (b2.mono (by simp; omega)))
  have HR2 := Lib.hid (show w2.heap[w.heap.size + 1]? = some (.cells #[.int .i64 0, .slice none 0 0, .slice none 0 0, .slice none 0 0] 42 (0, 0)) from (b2.block _ (by simp)).trans (by have := blk_alloc_new (w.alloc (.cells #[.int .i64 n, .slice AE es.length cE, .slice AI xi.length cI, .slice AO xo.length cO] 42)) (.cells #[.int .i64 0, .slice none 0 0, .slice none 0 0, .slice none 0 0] 42); simpa using this))
  have hs2 : w.heap.size + 2 ≤ w2.heap.size := by have := b2.size; simp at this; omega
  have hl2 : w.heap.size + 1 < w2.heap.size := by omega
  have hl3 : ¬ w.heap.size + 1 = w2.heap.size := by omega
  clear b2
  have hx0 := box_cell HR2.out 0
  have hx1 := box_cell HR2.out 1
  have hx2 := box_cell HR2.out 2
  have hx3 := box_cell HR2.out 3
  have hxf := box_free HR2.out
  simp at hx0 hx1 hx2 hx3
  rcases h2 with ⟨hv, A1, n1, c1, A2, n2, c2, A3, n3, c3, m, rfl⟩ | ⟨hv, b, c, rfl, hbb, hro⟩
  · have HM := Lib.hid (show mwB n es xi xo v x = false from by unfold mwB; rw [hv]; rfl)
    clear hv
    unfold ogV
    go_wp2
    refine bodyPost_ret (v := .tuple #[.agg #[.int .i64 0, .slice none 0 0, .slice none 0 0, .slice none 0 0], .bool false]) (by simp [results, Try.results18, go_sem, hx0, hx1, hx2, hx3, hl2]) rfl ?_
    unfold mwN mwE mwI mwO
    rw [HM.out]
    exact ⟨_, _, _, fun _ => False, fun _ => False, fun _ => False, rfl, by repeat' (first | exact HB2.out | apply Below.drew | apply Below.setCell | apply Below.alloc | (simp; done) | omega | (simp; omega)), fun _ h => h.elim, fun _ h => h.elim, fun _ h => h.elim, fun _ h => h.elim, fun _ h => h.elim, fun _ h => h.elim, ownE_nil _ _ _ _, ownR_nil _ _ _ _, ownR_nil _ _ _ _⟩
  · have HV := Lib.hid hv
    have HRO := Lib.hid hro
    clear hro
    unfold ogV
    go_wp2_with fail
    obtain ⟨W3, HW3⟩ : ∃ W3, W3 = (w2.alloc (.cells #[.slice AI xi.length cI, .slice AO xo.length cO, .int .i64 n, .slice (some ⟨b, 0, none⟩) es.length c] 77)).alloc (.cells #[.int .i64 v, .int .i64 x] 3) := ⟨_, rfl⟩
    rw [← HW3]
    have HB3 := Lib.hid (show Below w2.heap.size w2 W3 from by rw [HW3]; exact ((Below.refl _ _).alloc (Nat.le_refl _) _).alloc (by simp) _)
    have hs3 : w2.heap.size + 2 ≤ W3.heap.size := by rw [HW3]; simp
    have HOGX := Lib.hid (show W3.heap[w2.heap.size]? = some (.cells #[.slice AI xi.length cI, .slice AO xo.length cO, .int .i64 n, .slice (some ⟨b, 0, none⟩) es.length c] 77 (0, 0)) from by rw [HW3]; exact (blk_alloc_lt _ _ _ (by simp)).trans (blk_alloc_new w2 _))
    have HC3 := Lib.hid (show IR W3 (w2.heap.size + 1) [v, x] from by rw [HW3]; exact cellsAt_new' (w2.alloc (.cells #[.slice AI xi.length cI, .slice AO xo.length cO, .int .i64 n, .slice (some ⟨b, 0, none⟩) es.length c] 77)) #[.int .i64 v, .int .i64 x] 3 _ (w2.heap.size + 1) (by simp) rfl)
    clear HW3 hx0 hx1 hx2 hx3 hxf
    have HB3w := Lib.hid (HB2.out.trans (HB3.out.mono HB2.out.size))
    have HR3 := Lib.hid ((HB3.out.block (w.heap.size + 1) hl2).trans HR2.out)
    have hx0 := box_cell HR3.out 0
    have hx1 := box_cell HR3.out 1
    have hx2 := box_cell HR3.out 2
    have hx3 := box_cell HR3.out 3
    have hxf := box_free HR3.out
    simp at hx0 hx1 hx2 hx3
    have hl33 : w.heap.size + 1 < W3.heap.size := by omega
    refine (areIx_any W3 W3.heap.size (.slice (some ⟨w2.heap.size + 1, 0, none⟩) 2 2) n [v, x] (HC3.out.rd _ (by omega)) (by simp)).mono ?_
    rintro e w3 ⟨rfl, rfl⟩
    rw [inIx_two]
    by_cases h12 : (0 ≤ v ∧ v < n) ∧ (0 ≤ x ∧ x < n)
    · have HM := Lib.hid (mwB_iff.2 ⟨hv, h12.1, h12.2⟩)
      have HTT := Lib.hid (show (decide (0 ≤ v ∧ v < n) && decide (0 ≤ x ∧ x < n)) = true from by simp [h12.1.1, h12.1.2, h12.2.1, h12.2.2])
      rw [HTT.out]
      have hvi := valid_iff.1 hv
      have hnn : ((n.toNat : Nat) : Int) = n := by omega
      have hva := gl_valid (N := n.toNat) (a := [v]) (b := [x]) (by rw [hnn]; exact hv) (by simp) (inRg_one h12.1.1 (by omega)) (inRg_one h12.2.1 (by omega))
      have HGL := Lib.hid (fun (w' : World) (hb : Below W3.heap.size W3 w') (B' : Nat) (hB1 : W3.heap.size ≤ B') (hB2 : B' ≤ w'.heap.size) (ua ub : Value) (ha : RdS w' (fun q => q < B') ua [v]) (hb2 : RdS w' (fun q => q < B') ub [x]) =>
        (show Calls Try.prog 48 #[.agg #[.slice AI xi.length cI, .slice AO xo.length cO, .int .i64 n, .slice (some ⟨b, 0, none⟩) es.length c], ua, ub] w' _ from by
          have hsm := valid_small hv
          have hbw : Below w.heap.size w w' := HB3w.out.trans (hb.mono HB3w.out.size)
          have hb23 : Below w2.heap.size w2 w' := HB3.out.trans (hb.mono HB3.out.size)
          have hBB := HB.out
          have := glued_any w' B' (.slice AI xi.length cI) (.slice AO xo.length cO) (.slice (some ⟨b, 0, none⟩) es.length c) ua ub n.toNat es xi xo [v] [x] ((HI.out.1.below hbw HB.out).mono (fun q hq => by omega)) ((HO.out.1.below hbw HB.out).mono (fun q hq => by omega)) ((HRO.out.below hb23 (Nat.le_refl _)).mono (by omega)) ha hb2 hB2 (by omega) (by omega) (by omega) (by omega) hsm.2.2.2.2 (by have := allOcc_len hv; omega) (by simp) (by simp) (by simp) (inRg_one h12.1.1 (by omega)) (inRg_one h12.2.1 (by omega)) (fun y hy => by have := hvi.2.2.1 y hy; omega)
          rw [hnn] at this
          unfold ogV at this
          exact this))
      have hpl : (mapEs (pNum n.toNat [v] [x] es xi xo) es).length = es.length ∧ (pickL xi (pNum n.toNat [v] [x] es xi xo)).length = xi.length ∧ (pickL xo (pNum n.toNat [v] [x] es xi xo)).length = xo.length := ⟨mapEs_len _ _, pickL_len _ _, pickL_len _ _⟩
      have hsm := valid_small hv
      have HPL := Lib.hid (show (mapEs (pNum n.toNat [v] [x] es xi xo) es).length ≤ 1000 ∧ (pickL xi (pNum n.toNat [v] [x] es xi xo)).length ≤ 1000 ∧ (pickL xo (pNum n.toNat [v] [x] es xi xo)).length ≤ 1000 from by omega)
      obtain ⟨nu, HNU⟩ : ∃ nu, Hid (pNum n.toNat [v] [x] es xi xo = nu) := ⟨_, Lib.hid rfl⟩
      obtain ⟨m, HMM⟩ : ∃ m, Hid (pCnt n.toNat [v] [x] es xi xo = m) := ⟨_, Lib.hid rfl⟩
      rw [HNU.out] at hva HGL HPL
      rw [HMM.out] at hva HGL
      have HVA := Lib.hid hva
      clear hva hpl hvi hsm h12 hv hnn
      have hq0 := box_cell HOGX.out 0
      have hq1 := box_cell HOGX.out 1
      have hq2 := box_cell HOGX.out 2
      have hq3 := box_cell HOGX.out 3
      simp at hq0 hq1 hq2 hq3
      go_wp2_with fail
      obtain ⟨W5, HW5⟩ : ∃ W5, W5 = (W3.alloc (.cells #[.int .i64 v] 3)).alloc (.cells #[.int .i64 x] 3) := ⟨_, rfl⟩
      rw [← HW5]
      have HB5 := Lib.hid (show Below W3.heap.size W3 W5 from by rw [HW5]; exact ((Below.refl _ _).alloc (Nat.le_refl _) _).alloc (by simp) _)
      have hs5 : W3.heap.size + 2 ≤ W5.heap.size := by rw [HW5]; simp
      have HC1 := Lib.hid (show IR W5 W3.heap.size [v] from by rw [HW5]; exact (cellsAt_new W3 #[.int .i64 v] 3).alloc _)
      have HC2 := Lib.hid (show IR W5 (W3.heap.size + 1) [x] from by rw [HW5]; exact cellsAt_new' (W3.alloc (.cells #[.int .i64 v] 3)) #[.int .i64 x] 3 _ (W3.heap.size + 1) (by simp) rfl)
      clear HW5
      refine (HGL.out W5 HB5.out W5.heap.size (by omega) (Nat.le_refl _) (.slice (some ⟨W3.heap.size, 0, none⟩) 1 1) (.slice (some ⟨W3.heap.size + 1, 0, none⟩) 1 1) (HC1.out.rd _ (by omega)) (HC2.out.rd _ (by omega))).mono ?_
      rintro e w6 ⟨v1, v2, v3, rfl, b6, ow6⟩
      have hs6 := b6.size
      have HB6w := Lib.hid (HB3w.out.trans ((HB5.out.trans (b6.mono HB5.out.size)).mono HB3w.out.size))
      have HRS := Lib.hid (show Calls Try.prog 49 #[.agg #[v1, v2, .int .i64 m, v3]] w6 (IRetGraphB w6 m (mapEs nu es) (pickL xi nu) (pickL xo nu) true) from by
        have hp := HPL.out
        have hr := ow6.rd
        have h := result_any w6 w6.heap.size v1 v2 v3 m (mapEs nu es) (pickL xi nu) (pickL xo nu) hr.1 hr.2.1 hr.2.2 (Nat.le_refl _) (by omega) (by omega) (by omega)
        unfold ogV at h
        refine h.mono ?_
        rintro e w'' (h | h)
        · rw [HVA.out] at h
          exact absurd h.1 (by decide)
        · exact h.2)
      have HR6 := Lib.hid ((b6.block (w.heap.size + 1) (by omega)).trans ((HB5.out.block (w.heap.size + 1) (by omega)).trans HR3.out))
      clear b6 ow6 hq0 hq1 hq2 hq3 hx0 hx1 hx2 hx3 hxf
      go_wp2_with fail
      refine HRS.out.mono ?_
      rintro e w7 ⟨u1, u2, u3, S1, S2, S3, rfl, b7, s1, s2, s3, d12, d13, d23, o1, o2, o3⟩
      obtain ⟨A4, c4, rfl⟩ := o1.len
      obtain ⟨A5, c5, rfl⟩ := o2.len
      obtain ⟨A6, c6, rfl⟩ := o3.len
      have hrb := (b7.block (w.heap.size + 1) (by omega)).trans HR6.out
      have hx0 := box_cell hrb 0
      have hx1 := box_cell hrb 1
      have hx2 := box_cell hrb 2
      have hx3 := box_cell hrb 3
      have hxf := box_free hrb
      simp at hx0 hx1 hx2 hx3
      have hl7 : w.heap.size + 1 < w7.heap.size := by have := b7.size; omega
      have HB7 := Lib.hid (HB6w.out.trans (b7.mono HB6w.out.size))
      have HOW := Lib.hid (show _ ∧ _ ∧ _ ∧ _ ∧ _ ∧ _ ∧ _ ∧ _ ∧ _ from ⟨s1, s2, s3, d12, d13, d23, o1, o2, o3⟩)
      clear hrb b7 s1 s2 s3 d12 d13 d23 o1 o2 o3
      go_wp2
      refine bodyPost_ret (v := .tuple #[.agg #[.int .i64 m, .slice A4 (mapEs nu es).length c4, .slice A5 (pickL xi nu).length c5, .slice A6 (pickL xo nu).length c6], .bool true]) (by simp [results, Try.results18, go_sem, hx0, hx1, hx2, hx3]) rfl ?_
      unfold mwN mwE mwI mwO
      rw [HM.out, HNU.out, HMM.out]
      simp only [if_true]
      obtain ⟨s1, s2, s3, d12, d13, d23, o1, o2, o3⟩ := HOW.out
      refine ⟨_, _, _, S1, S2, S3, rfl, by repeat' (first | exact HB7.out | apply Below.setCell | (simp; done)), fun q hq => by have := s1 q hq; omega, fun q hq => by have := s2 q hq; omega, fun q hq => by have := s3 q hq; omega, d12, d13, d23, o1.blocks ?_, o2.blocks ?_, o3.blocks ?_⟩
      · exact fun q hq _ => by have := s1 q hq; repeat rw [blk_setCell_other _ _ _ _ (by dsimp only; omega)]
      · exact fun q hq _ => by have := s2 q hq; repeat rw [blk_setCell_other _ _ _ _ (by dsimp only; omega)]
      · exact fun q hq _ => by have := s3 q hq; repeat rw [blk_setCell_other _ _ _ _ (by dsimp only; omega)]
    · have HM := Lib.hid (show mwB n es xi xo v x = false from by cases h : mwB n es xi xo v x with | false => rfl | true => exact absurd (mwB_iff.1 h).2 h12)
      have HTT := Lib.hid (show (decide (0 ≤ v ∧ v < n) && decide (0 ≤ x ∧ x < n)) = false from by
        cases h : (decide (0 ≤ v ∧ v < n) && decide (0 ≤ x ∧ x < n)) with
        | false => rfl
        | true =>
          simp only [Bool.and_eq_true, decide_eq_true_eq] at h
          exact absurd h h12)
      rw [HTT.out]
      clear h12 hv
      go_wp2
      refine bodyPost_ret (v := .tuple #[.agg #[.int .i64 0, .slice none 0 0, .slice none 0 0, .slice none 0 0], .bool false]) (by simp [results, Try.results18, go_sem, hx0, hx1, hx2, hx3]) rfl ?_
      unfold mwN mwE mwI mwO
      rw [HM.out]
      exact ⟨_, _, _, fun _ => False, fun _ => False, fun _ => False, rfl, by repeat' (first | exact HB3w.out | apply Below.drew | apply Below.setCell | apply Below.alloc | (simp; done) | omega | (simp; omega)), fun _ h => h.elim, fun _ h => h.elim, fun _ h => h.elim, fun _ h => h.elim, fun _ h => h.elim, fun _ h => h.elim, ownE_nil _ _ _ _, ownR_nil _ _ _ _, ownR_nil _ _ _ _⟩
end Go.Proofs.Ytiealgnmhjebeaa
