/- IsGraph. -/
import Derived.Test.YthnhholeaiojjaaDoorOpO
import Derived.Test.YthnhholeaiojjaaDoorGrG
import Derived.Test.YthnhholeaiojjaaDoorRetB
import Derived.Test.YthnhholeaiojjaaDoorFdWalks
namespace Go.Proofs.YthnhholeaiojjaaDoor
set_option maxRecDepth 100000
open Go Go.RowKit Go.Deep

/-- Whether the value of a leaf is of the field, where it multiplies by it. -/
def overB (p k v : Int) : Bool := !(decide (k = 7 ∨ k = 13)) || elems p [v]
set_option maxHeartbeats 1600000 in
theorem isOver_any (w : World) (p k v : Int) (ht : Tab w) : Calls Tryd.prog 16 #[.int .i64 p, .agg #[.int .i64 k, .int .i64 v, .string ByteArray.empty]] w (SaysB w (overB p k v)) := by
  have HHF := Lib.hid (fun w0 => hasFactor_any w0 k)
  have HT := Lib.hid ht
  clear ht
  by_cases h : k = 7 ∨ k = 13
  · have HO := Lib.hid (show overB p k v = elems p [v] by unfold overB; rw [decide_eq_true h]; rfl)
    rw [decide_eq_true h] at HHF
    clear h
    go_enter Tryd.func16, Tryd.ntmps16
    go_wp2_with fail
    refine (HHF.out _).mono ?_
    rintro e w2 ⟨rfl, rfl⟩
    go_wp2_with fail
    refine (areElements_any p [v] 1 1 _ _ ((HT.out.below (Below.refl _ _)).below (by repeat' (first | exact Below.refl _ _ | apply Below.drew | apply Below.alloc | (simp; done) | omega | (simp; omega)))) rfl (by simp) ?_).mono ?_
    · intro j hj
      match j, hj with
      | 0, _ => simp [go_sem]
    rintro e w3 ⟨rfl, rfl⟩
    go_wp2
    go_ret
    exact ⟨by rw [HO.out]; rfl, by repeat' (first | exact Below.refl _ _ | apply Below.drew | apply below_drewN | apply Below.setCell | apply Below.alloc | (simp; done) | omega | (simp; omega))⟩
  · have HO := Lib.hid (show overB p k v = true by unfold overB; rw [decide_eq_false h]; rfl)
    rw [decide_eq_false h] at HHF
    clear h
    go_enter Tryd.func16, Tryd.ntmps16
    go_wp2_with fail
    refine (HHF.out _).mono ?_
    rintro e w2 ⟨rfl, rfl⟩
    go_wp2
    go_ret
    exact ⟨by rw [HO.out]; rfl, by repeat' (first | exact Below.refl _ _ | apply Below.drew | apply below_drewN | apply Below.setCell | apply Below.alloc | (simp; done) | omega | (simp; omega))⟩
set_option maxHeartbeats 1600000 in
theorem oeOut_any (w : World) (p : Int) (b : Nat) (e : Ed) (A1 A2 : Option Addr) (c1 c2 : Nat) (ht : Tab w) (hp : w.cell? ⟨b, 0, none⟩ = some (.int .i64 p)) :
    Calls Tryd.prog 15 #[oeV (.slice A1 e.i.length c1) (.slice A2 e.o.length c2) e.k e.v, .pointer (some ⟨b, 0, none⟩)] w (SaysB w (!overB p e.k e.v)) := by
  have hb := World.block_lt_of_cell? w _ hp
  dsimp only at hb
  have hp2 : ∀ o : Obj, (w.alloc o).cell? ⟨b, 0, none⟩ = some (.int .i64 p) := fun o => (World.cell?_of_block (w := w) (blk_alloc_lt _ _ _ hb)).trans hp
  have HT := Lib.hid ht
  have HOV := Lib.hid (fun (o : Obj) => isOver_any (w.alloc o) p e.k e.v (ht.below ((Below.refl _ _).alloc (Nat.le_refl _) o)))
  clear ht
  unfold oeV
  go_enter Tryd.func15, Tryd.ntmps15
  go_wp2_with fail
  refine (HOV.out _).mono ?_
  rintro x w2 ⟨rfl, b2⟩
  have HB2 := Lib.hid (((Below.refl w.heap.size w).alloc (Nat.le_refl _) _).trans (b2.mono (by simp)))
  clear b2
  cases ho : overB p e.k e.v with
  | true =>
    go_wp2
    go_ret
    exact ⟨by rw [ho]; rfl, HB2.out⟩
  | false =>
    go_wp2
    go_ret
    exact ⟨by rw [ho]; rfl, HB2.out⟩
set_option maxRecDepth 100000 in
set_option maxHeartbeats 3200000 in
theorem indexG_any (w : World) (B : Nat) (p : Int) (b : Nat) (v : Value) (x : List Ed) (ht : Tab w) (hp : w.cell? ⟨b, 0, none⟩ = some (.int .i64 p)) (hv : RdO w B v x) (hB : B ≤ w.heap.size) (hn : x.length ≤ 1000000) :
    Calls Tryd.prog 29 #[v, .func (.func 15) #[] #[.pointer (some ⟨b, 0, none⟩)]] w
      fun e w' => ∃ i : Int, e = .returned (.int .i64 i) ∧ (0 ≤ i ↔ x.any (fun e => !overB p e.k e.v) = true) ∧ Below w.heap.size w w' := by
  obtain ⟨A, c, rfl⟩ := hv.len
  have HV := Lib.hid hv
  have HT := Lib.hid ht
  have HP := Lib.hid hp
  have hbl : b < w.heap.size := World.block_lt_of_cell? w _ hp
  clear hv ht hp
  go_enter Tryd.func29, Tryd.ntmps29
  go_wp2
  go_loopw [8] (fun i wr => ∃ k : Nat, k ≤ x.length ∧ i = .int .i64 k ∧ Hid (Below w.heap.size w wr) ∧ Hid (∀ j, j < k → (!overB p (x.getD j ed0).k (x.getD j ed0).v) = false)) (fun i _ => x.length - (intOf i).toNat)
  case atStart => exact ⟨0, Nat.zero_le _, rfl, Lib.hid (Below.refl _ _), Lib.hid fun j hj => absurd hj (Nat.not_lt_zero j)⟩
  case round =>
    obtain ⟨k, hk, rfl, HB2, HS⟩ := hrel
    by_cases hlt : k < x.length
    · obtain ⟨b1, o1, A1, c1, A2, c2, rfl, hb1, hc0, hc1, hc2, hc3, hc4, -, -⟩ := (HV.out.below HB2.out hB).at hlt
      have hkI : (k : Int) < (x.length : Int) := by omega
      have HFX0 := Lib.hid (oeOut_any wr p b (x.getD k ed0) A1 A2 c1 c2 (HT.out.below HB2.out) ((HB2.out.cell (p := ⟨b, 0, none⟩) hbl).trans HP.out))
      clear hb1
      cases hfx : (!overB p (x.getD k ed0).k (x.getD k ed0).v) with
      | false =>
        rw [hfx] at HFX0
        have HS2 := Lib.hid (show ∀ j, j < k + 1 → (!overB p (x.getD j ed0).k (x.getD j ed0).v) = false from fun j hj => by
          by_cases c : j = k
          · rw [c]; exact hfx
          · exact HS.out j (by omega))
        clear hfx
        generalize x.getD k ed0 = ed at hc0 hc1 hc2 hc3 hc4 HFX0
        unfold oeV at HFX0
        go_wp2_with fail
        refine HFX0.out.mono ?_
        rintro e w2 ⟨rfl, b2⟩
        have HB3 := Lib.hid (HB2.out.trans (b2.mono HB2.out.size))
        clear b2
        go_wp2
        go_roundw
        case rel => exact ⟨k + 1, by omega, by go_num, HB3, HS2⟩
        case measure => simp [intOf]; omega
      | true =>
        rw [hfx] at HFX0
        have HY := Lib.hid (anyE_yes (f := fun e => !overB p e.k e.v) hlt hfx)
        clear hfx
        generalize x.getD k ed0 = ed at hc0 hc1 hc2 hc3 hc4 HFX0
        unfold oeV at HFX0
        go_wp2_with fail
        refine HFX0.out.mono ?_
        rintro e w2 ⟨rfl, b2⟩
        have HB3 := Lib.hid (HB2.out.trans (b2.mono HB2.out.size))
        clear b2
        go_wp2
        go_ret
        exact ⟨k, rfl, by rw [HY.out]; simp, HB3.out⟩
    · have HN := Lib.hid (anyE_no (f := fun e => !overB p e.k e.v) fun j hj => HS.out j (by omega))
      have hkI : ¬ (k : Int) < (x.length : Int) := by omega
      go_wp2
      go_ret
      exact ⟨-1, rfl, by simpa using HN.out, HB2.out⟩
set_option maxHeartbeats 1600000 in
theorem anyOut_any (w : World) (B : Nat) (p : Int) (b : Nat) (v : Value) (x : List Ed) (ht : Tab w) (hp : w.cell? ⟨b, 0, none⟩ = some (.int .i64 p)) (hv : RdO w B v x) (hB : B ≤ w.heap.size) (hn : x.length ≤ 1000000) :
    Calls Tryd.prog 18 #[v, .func (.func 15) #[] #[.pointer (some ⟨b, 0, none⟩)]] w (SaysB w (x.any fun e => !overB p e.k e.v)) := by
  obtain ⟨A, c, rfl⟩ := hv.len
  have HI := Lib.hid (indexG_any w B p b _ x ht hp hv hB hn)
  clear hv ht hp
  go_enter Tryd.func18, Tryd.ntmps18
  go_wp2_with fail
  refine HI.out.mono ?_
  rintro e w2 ⟨i, rfl, hi, b2⟩
  have HII := Lib.hid hi
  have HB2 := Lib.hid b2
  clear hi b2
  go_wp2
  go_ret
  refine ⟨congrArg (fun b => Ending.returned (Value.bool b)) ?_, HB2.out⟩
  have := HII.out
  rw [Bool.eq_iff_iff, ← this]
  simp
theorem good_iff {p n : Int} {es : List Ed} {xi xo : List Int} (hf : fld p = true) (hv : validB n es xi xo = true) : goodB p n es xi xo = !(es.any fun e => !overB p e.k e.v) := by
  have hall : ∀ e, e ∈ es → (overB p e.k e.v = true ↔ e.v < p) := fun e he => by
    obtain ⟨-, d, -, -⟩ := valid_iff.1 hv
    rw [List.any_eq_false] at d
    have h1 := (edP_iff e).1 (by simpa using d e he)
    have h2 := h1.2.2.1
    unfold isLeafB greatest at h2
    simp only [Bool.and_eq_true, decide_eq_true_eq] at h2
    have hp : 2 ≤ p := by
      unfold fld at hf
      simp only [Bool.and_eq_true, decide_eq_true_eq] at hf
      omega
    unfold overB
    by_cases c : e.k = 7 ∨ e.k = 13
    · rw [decide_eq_true c, Bool.not_true, Bool.false_or, elems_iff]
      constructor
      · intro h
        have := (el_iff p e.v).1 (h.2 e.v (by simp))
        omega
      · intro h
        refine ⟨hf, fun z hz => ?_⟩
        simp at hz
        subst hz
        exact (el_iff p e.v).2 (by omega)
    · rw [decide_eq_false c]
      simp
      have := h2.1.2
      rw [if_neg (by omega), if_neg c] at this
      omega
  unfold goodB
  rw [hf, hv, Bool.eq_iff_iff]
  simp only [Bool.true_and, List.all_eq_true, decide_eq_true_eq, Bool.not_eq_true', List.any_eq_false]
  constructor
  · intro h e he
    have := (hall e he).2 (h e he)
    simp [this]
  · intro h e he
    refine (hall e he).1 ?_
    have := h e he
    simpa using this
set_option maxRecDepth 100000 in
set_option maxHeartbeats 3200000 in
theorem impl_IsGraph (w : World) (B : Nat) (uE uI uO : Value) (p n : Int) (es : List Ed) (xi xo : List Int) (ht : Tab w) (hE : LfE w B uE es) (hI : LfR w B uI xi) (hO : LfR w B uO xo) (hB : B ≤ w.heap.size) (_ : szE es ≤ 1048576) (_ : szR xi ≤ 1048576) (_ : szR xo ≤ 1048576) :
    Calls Tryd.prog 7 #[.int .i64 p, .agg #[.int .i64 n, uE, uI, uO]] w (IRetB w (goodB p n es xi xo)) := by
  have HOP := Lib.hid (fun (w' : World) (hb : Below w.heap.size w w') => openOf_any w' B n es xi xo uE uI uO (hE.below hb hB) (hI.below hb hB) (hO.below hb hB) (Nat.le_trans hB hb.size))
  have HT := Lib.hid ht
  have hq : validB n es xi xo = true → es.length ≤ 60 := fun h => (valid_iff.1 h).1.2.2.1
  have HQ := Lib.hid hq
  obtain ⟨AE, cE, rfl⟩ := hE.len
  obtain ⟨AI, cI, rfl⟩ := hI.len
  obtain ⟨AO, cO, rfl⟩ := hO.len
  clear hE hI hO ht hq
  go_enter Tryd.func7, Tryd.ntmps7
  go_wp2_with fail
  refine (HOP.out _ (((Below.refl w.heap.size w).alloc (Nat.le_refl _) _).alloc (by simp) _)).mono ?_
  rintro e w2 ⟨b2, h2⟩
  have HB2 := Lib.hid ((((Below.refl w.heap.size w).alloc (Nat.le_refl _) _).alloc (by simp) _).trans (b2.mono (by simp; omega)))
  have hx0 : w2.cell? ⟨w.heap.size, 0, none⟩ = some (.int .i64 p) := (b2.cell (p := ⟨w.heap.size, 0, none⟩) (by simp; omega)).trans (by simp [go_sem])
  have hs2 : w.heap.size + 2 ≤ w2.heap.size := by have := b2.size; simp at this; omega
  have hl2 : w.heap.size < w2.heap.size := by omega
  have hl3 : ¬ w.heap.size = w2.heap.size := by omega
  clear b2
  rcases h2 with ⟨hv, A1, n1, c1, A2, n2, c2, A3, n3, c3, m, rfl⟩ | ⟨hv, b, c, rfl, hbb, hro⟩
  · have HV := Lib.hid (show goodB p n es xi xo = false by unfold goodB; rw [hv]; simp)
    unfold ogV
    go_wp2
    go_ret
    exact ⟨by rw [HV.out]; rfl, by repeat' (first | exact HB2.out | apply Below.drew | apply Below.setCell | apply Below.alloc | (simp; done) | omega | (simp; omega))⟩
  · have HV := Lib.hid hv
    have HRO := Lib.hid hro
    have hle := HQ.out hv
    clear hv hro
    unfold ogV
    have HIF := Lib.hid (fun (w' : World) (hb : Below w2.heap.size w2 w') => isField_any p w' (HT.out.below (HB2.out.trans (hb.mono (by omega)))))
    cases hf : fld p with
    | false =>
      have HG := Lib.hid (show goodB p n es xi xo = false by unfold goodB; rw [hf]; simp)
      rw [hf] at HIF
      go_wp2_with fail
      refine (HIF.out _ ?_).mono ?_
      · repeat' (first | exact Below.refl _ _ | apply Below.drew | apply Below.setCell | apply Below.alloc | (simp; done) | omega | (simp; omega))
      rintro e w3 ⟨rfl, rfl⟩
      go_wp2
      go_ret
      exact ⟨by rw [HG.out]; rfl, by repeat' (first | exact HB2.out | apply Below.drew | apply Below.setCell | apply Below.alloc | (simp; done) | omega | (simp; omega))⟩
    | true =>
      have HG := Lib.hid (good_iff (es := es) (xi := xi) (xo := xo) (n := n) hf HV.out)
      rw [hf] at HIF
      have HAO := Lib.hid (fun (w' : World) (hb : Below w2.heap.size w2 w') => anyOut_any w' w2.heap.size p w.heap.size (.slice (some ⟨b, 0, none⟩) es.length c) es (HT.out.below (HB2.out.trans (hb.mono (by omega)))) ((hb.cell (p := ⟨w.heap.size, 0, none⟩) (by dsimp only; omega)).trans hx0) (HRO.out.below hb (Nat.le_refl _)) hb.size (by omega))
      go_wp2_with fail
      refine (HIF.out _ ?_).mono ?_
      · repeat' (first | exact Below.refl _ _ | apply Below.drew | apply Below.setCell | apply Below.alloc | (simp; done) | omega | (simp; omega))
      rintro e w3 ⟨rfl, rfl⟩
      go_wp2_with fail
      refine (HAO.out _ ?_).mono ?_
      · repeat' (first | exact Below.refl _ _ | apply Below.drew | apply Below.setCell | apply Below.alloc | (simp; done) | omega | (simp; omega))
      rintro e w4 ⟨rfl, b4⟩
      have HB4 := Lib.hid (show Below w.heap.size w w4 from (show Below w.heap.size w _ from by repeat' (first | exact HB2.out | apply Below.drew | apply Below.setCell | apply Below.alloc | (simp; done) | omega | (simp; omega))).trans (b4.mono (by simp; omega)))
      clear b4
      cases ha : (es.any fun e => !overB p e.k e.v) with
      | true =>
        go_wp2
        go_ret
        exact ⟨by rw [HG.out, ha]; first | rfl | simp [ha], HB4.out⟩
      | false =>
        go_wp2
        go_ret
        exact ⟨by rw [HG.out, ha]; first | rfl | simp [ha], HB4.out⟩
set_option maxHeartbeats 1600000 in
theorem spec_IsGraph (w : World) (B : Nat) (uE uI uO : Value) (p n : Int) (es : List Ed) (xi xo : List Int) (hE : LfE w B uE es) (hI : LfR w B uI xi) (hO : LfR w B uO xo) (hB : B ≤ w.heap.size) (_ : szE es ≤ 1048576) (_ : szR xi ≤ 1048576) (_ : szR xo ≤ 1048576) :
    Calls Tryd.prog 5 #[.int .i64 p, .agg #[.int .i64 n, uE, uI, uO]] w (SRetB w (goodB p n es xi xo)) := by
  obtain ⟨AE, cE, rfl⟩ := hE.len
  obtain ⟨AI, cI, rfl⟩ := hI.len
  obtain ⟨AO, cO, rfl⟩ := hO.len
  have HG := Lib.hid (fun (w' : World) (hb : Below w.heap.size w w') => hgGood_any w' B p n es xi xo AE cE AI cI AO cO (hE.1.below hb hB) (hI.1.below hb hB) (hO.1.below hb hB) (Nat.le_trans hB hb.size) hE.2.1 hI.2 hO.2 hE.2.2)
  clear hE hI hO
  go_enter Tryd.func5, Tryd.ntmps5
  go_wp2_with fail
  refine (HG.out _ ?_).mono ?_
  · repeat' (first | exact Below.refl _ _ | apply Below.drew | apply Below.setCell | apply Below.alloc | (simp; done) | omega | (simp; omega))
  rintro e w2 ⟨rfl, b2⟩
  have HB2 := Lib.hid (show Below w.heap.size w w2 from (show Below w.heap.size w _ from by repeat' (first | exact Below.refl _ _ | apply Below.drew | apply Below.setCell | apply Below.alloc | (simp; done) | omega | (simp; omega))).trans (b2.mono (by simp)))
  clear b2
  go_wp2
  go_ret
  exact ⟨rfl, HB2.out⟩
end Go.Proofs.YthnhholeaiojjaaDoor
