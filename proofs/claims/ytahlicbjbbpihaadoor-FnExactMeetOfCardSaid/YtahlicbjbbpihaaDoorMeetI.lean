/- The meet of two spaces: the helpers of both sides. -/
import Derived.Test.YtahlicbjbbpihaaDoorSumI
import Derived.Test.YtahlicbjbbpihaaDoorSpOrth
import Derived.Test.YtahlicbjbbpihaaDoorNullB
namespace Go.Proofs.YtahlicbjbbpihaaDoor
set_option maxRecDepth 100000
open Go Go.RowKit Go.Deep

theorem meet_rref {p : Int} (hf : fld p = true) {n c : Nat} {X : List (List Int)} (h : Mat p n c X) : nullB p (rref p X c) c = nullB p X c := by
  unfold nullB
  rw [rref_rref hf h]
theorem meet_isRed {p : Int} (hf : fld p = true) {n c : Nat} {X : List (List Int)} (h : Mat p n c X) : IsRed p (rref p X c).length c (rref p X c) := by
  have := rref_red hf h
  rwa [← rref_len hf h] at this
def meetB (p : Int) (R S : List (List Int)) (n : Nat) : List (List Int) := nullB p (nullB p R n ++ nullB p S n) n
theorem meet_mat {p : Int} (hf : fld p = true) (R S : List (List Int)) (n : Nat) : Mat p ((nullB p R n).length + (nullB p S n).length) n (nullB p R n ++ nullB p S n) := mat_app (nullB_mat hf R) (nullB_mat hf S)
set_option maxHeartbeats 1600000 in
theorem spMeet_any (w : World) (B : Nat) (va vb : Value) (p : Int) (c : Nat) (R S : List (List Int)) (ha : RdG w B va R) (hb : RdG w B vb S) (hB : B ≤ w.heap.size) (hf : fld p = true) (hR : Mat p R.length c R) (hS : Mat p S.length c S) (hn1 : R.length ≤ 1000000) (hn2 : S.length ≤ 1000000) (hc : c ≤ 100000) :
    Calls Tryd.prog 66 #[.int .i64 p, .int .i64 c, va, vb] w (MadeG w (meetB p R S c)) := by
  obtain ⟨A1, c1, rfl⟩ := ha.len
  obtain ⟨A2, c2, rfl⟩ := hb.len
  have HA := Lib.hid ha
  have HS := Lib.hid hb
  have HF := Lib.hid hf
  have HRM := Lib.hid hR
  have HSM := Lib.hid hS
  have HMM := Lib.hid (meet_mat hf R S c)
  have HL1 := Lib.hid (nullB_le hf (c := c) R)
  have HL2 := Lib.hid (nullB_le hf (c := c) S)
  clear ha hb hf hR hS
  go_enter Tryd.func66, Tryd.ntmps66
  go_wp2_with fail
  refine (spNull_any w B _ p R.length c R HA.out hB HF.out HRM.out hn1 (by omega)).mono ?_
  rintro e w1 ⟨v1, rfl, b1, o1⟩
  obtain ⟨A3, c3, rfl⟩ := OwG.len o1
  have HB1 := Lib.hid b1
  have HO1 := Lib.hid (OwG.readB o1)
  have HS1 := Lib.hid (HS.out.below b1 hB)
  have hs1 : w.heap.size ≤ w1.heap.size := b1.size
  have hB1 : B ≤ w1.heap.size := Nat.le_trans hB hs1
  clear b1 o1
  go_wp2_with fail
  refine (spNull_any w1 B _ p S.length c S HS1.out hB1 HF.out HSM.out hn2 (by omega)).mono ?_
  rintro e w2 ⟨v2, rfl, b2, o2⟩
  obtain ⟨A4, c4, rfl⟩ := OwG.len o2
  have HB2 := Lib.hid (HB1.out.trans (b2.mono hs1))
  have HO2 := Lib.hid (OwG.readB o2)
  have HP2 := Lib.hid ((HO1.out.below b2 (Nat.le_refl _)).mono b2.size)
  have hs2 : w.heap.size ≤ w2.heap.size := HB2.out.size
  clear b2 o2
  go_wp2_with fail
  refine (spJoin_any w2 w2.heap.size _ _ (nullB p R c) (nullB p S c) HP2.out HO2.out (Nat.le_refl _) (by have h1 := HL1.out; have h2 := HL2.out; omega)).mono ?_
  rintro e w3 ⟨v3, rfl, b3, o3⟩
  have HB3 := Lib.hid (HB2.out.trans (b3.mono hs2))
  have HO3 := Lib.hid o3
  have hs3 : w.heap.size ≤ w3.heap.size := HB3.out.size
  clear b3 o3
  go_wp2_with fail
  refine (spNull_any w3 w3.heap.size _ p _ c _ HO3.out (Nat.le_refl _) HF.out HMM.out (by have h1 := HL1.out; have h2 := HL2.out; omega) (by omega)).mono ?_
  rintro e w4 ⟨v4, rfl, b4, o4⟩
  have HB4 := Lib.hid (HB3.out.trans (b4.mono hs3))
  have HO4 := Lib.hid (OwG.mono (T := fun q => w.heap.size ≤ q) o4 (fun q hq _ => Nat.le_trans hs3 hq))
  clear b4 o4
  go_wp2
  go_ret
  exact ⟨_, rfl, HB4.out, HO4.out⟩
set_option maxHeartbeats 3200000 in
theorem meetOf_any (w : World) (B : Nat) (va vb : Value) (p : Int) (c : Nat) (R S : List (List Int)) (ha : RdG w B va R) (hb : RdG w B vb S) (hB : B ≤ w.heap.size) (hf : fld p = true) (hR : IsRed p R.length c R) (hS : IsRed p S.length c S) (hc : c ≤ 100000) :
    Calls Tryd.prog 67 #[.int .i64 p, .agg #[.int .i64 c, va], .agg #[.int .i64 c, vb]] w (MadeSp w c (meetB p R S c)) := by
  obtain ⟨A1, c1, rfl⟩ := ha.len
  obtain ⟨A2, c2, rfl⟩ := hb.len
  have HVB := Lib.hid (show Below w.heap.size w (((w.alloc (.cells #[.int .i64 c, .slice A1 R.length c1] tSp)).alloc (.cells #[.int .i64 c, .slice A2 S.length c2] tSp)).alloc (.cells #[.int .i64 0, .slice none 0 0] tSp)) by repeat' (first | exact Below.refl _ _ | apply Below.alloc | (simp; done) | (simp; omega)))
  have HA := Lib.hid (ha.below HVB.out hB)
  have HS := Lib.hid (hb.below HVB.out hB)
  have hB0 : B ≤ (((w.alloc (.cells #[.int .i64 c, .slice A1 R.length c1] tSp)).alloc (.cells #[.int .i64 c, .slice A2 S.length c2] tSp)).alloc (.cells #[.int .i64 0, .slice none 0 0] tSp)).heap.size := Nat.le_trans hB HVB.out.size
  have HX0 := Lib.hid (((cellsAt_new w #[.int .i64 c, .slice A1 R.length c1] tSp).alloc (.cells #[.int .i64 c, .slice A2 S.length c2] tSp)).alloc (.cells #[.int .i64 0, .slice none 0 0] tSp))
  have HM0 := Lib.hid ((cellsAt_new' (w.alloc (.cells #[.int .i64 c, .slice A1 R.length c1] tSp)) #[.int .i64 c, .slice A2 S.length c2] tSp _ (w.heap.size + 1) (by simp) rfl).alloc (.cells #[.int .i64 0, .slice none 0 0] tSp))
  have HY0 := Lib.hid (cellsAt_new' ((w.alloc (.cells #[.int .i64 c, .slice A1 R.length c1] tSp)).alloc (.cells #[.int .i64 c, .slice A2 S.length c2] tSp)) #[.int .i64 0, .slice none 0 0] tSp _ (w.heap.size + 2) (by simp) rfl)
  have hsz0 : (((w.alloc (.cells #[.int .i64 c, .slice A1 R.length c1] tSp)).alloc (.cells #[.int .i64 c, .slice A2 S.length c2] tSp)).alloc (.cells #[.int .i64 0, .slice none 0 0] tSp)).heap.size = w.heap.size + 3 := by simp
  have HF := Lib.hid hf
  have HRE := Lib.hid hR
  have HSE := Lib.hid hS
  have HMM := Lib.hid (meet_mat hf R S c)
  have HL1 := Lib.hid (nullB_le hf (c := c) R)
  have HL2 := Lib.hid (nullB_le hf (c := c) S)
  have HN1 := Lib.hid (nullB_mat hf (c := c) R)
  have HN2 := Lib.hid (nullB_mat hf (c := c) S)
  clear ha hb hf hR hS hB
  go_enter Tryd.func67, Tryd.ntmps67
  go_upto_region 1 with fail
  generalize (((w.alloc (.cells #[.int .i64 c, .slice A1 R.length c1] tSp)).alloc (.cells #[.int .i64 c, .slice A2 S.length c2] tSp)).alloc (.cells #[.int .i64 0, .slice none 0 0] tSp)) = W at HVB HA HS hB0 HX0 HM0 HY0 hsz0 ⊢
  have hW1 : w.heap.size + 3 ≤ W.heap.size := by omega
  clear hsz0
  obtain ⟨hx0, hx1, hxf0, hxf1, hxs⟩ := HX0.out.two
  obtain ⟨hm0, hm1, hmf0, hmf1, hms⟩ := HM0.out.two
  have HELD : Hid (∀ w' : World, w'.heap[w.heap.size]? = W.heap[w.heap.size]? → w'.heap[w.heap.size + 1]? = W.heap[w.heap.size + 1]? → w'.cell? ⟨w.heap.size, 0, none⟩ = some (.int .i64 c) ∧ w'.cell? ⟨w.heap.size, 1, none⟩ = some (.slice A1 R.length c1) ∧ w'.cell? ⟨w.heap.size + 1, 0, none⟩ = some (.int .i64 c) ∧ w'.cell? ⟨w.heap.size + 1, 1, none⟩ = some (.slice A2 S.length c2)) := Lib.hid (fun w' H K => ⟨(World.cell?_of_block (w := W) H).trans hx0, (World.cell?_of_block (w := W) H).trans hx1, (World.cell?_of_block (w := W) K).trans hm0, (World.cell?_of_block (w := W) K).trans hm1⟩)
  have HQ0 : Hid (W.drew.heap[w.heap.size]? = W.heap[w.heap.size]?) := Lib.hid rfl
  have HK0 : Hid (W.drew.heap[w.heap.size + 1]? = W.heap[w.heap.size + 1]?) := Lib.hid rfl
  have HAD := Lib.hid (show RdG W.drew B (.slice A1 R.length c1) R from HA.out)
  have hBD : B ≤ W.drew.heap.size := hB0
  clear hx0 hx1 hxf0 hxf1 hxs hm0 hm1 hmf0 hmf1 hms
  go_wp2
  go_region_held3 (fun w' => w'.cell? ⟨w.heap.size, 0, none⟩ = some (.int .i64 c) ∧ w'.cell? ⟨w.heap.size, 1, none⟩ = some (.slice A1 R.length c1) ∧ w'.cell? ⟨w.heap.size + 1, 0, none⟩ = some (.int .i64 c) ∧ w'.cell? ⟨w.heap.size + 1, 1, none⟩ = some (.slice A2 S.length c2))
    (first | with_reducible exact HELD.out _ HQ0.out HK0.out | with_reducible exact HELD.out _ HQ3.out HK3.out | with_reducible exact HELD.out _ HQ4.out HK4.out | with_reducible exact HELD.out _ HQ5.out HK5.out | with_reducible exact HELD.out _ HQ6.out HK6.out | exact HELD.out _ (((blk_setCell_other _ _ _ _ (by dsimp only; omega)).trans (blk_setCell_other _ _ _ _ (by dsimp only; omega))).trans HQ6.out) (((blk_setCell_other _ _ _ _ (by dsimp only; omega)).trans (blk_setCell_other _ _ _ _ (by dsimp only; omega))).trans HK6.out))
    (first
      | (have HO5' := HO5; go_at_call 79; go_split_ands; refine (orthogonalOf_any w5 w5.heap.size _ p c (rref p (nullB p R c ++ nullB p S c) c) HO5.out (Nat.le_refl _) HF.out (meet_isRed HF.out HMM.out) (by omega)).mono ?_; rw [meet_rref HF.out HMM.out]; rintro e w6 ⟨v6, rfl, b6, o6⟩; obtain ⟨A6, c6, rfl⟩ := OwG.len o6; have HB6 : Hid (Below W.heap.size W w6) := Lib.hid (HB5.out.trans (b6.mono hs5)); have HQ6 : Hid (w6.heap[w.heap.size]? = W.heap[w.heap.size]?) := Lib.hid (HB6.out.block _ (by omega)); have HK6 : Hid (w6.heap[w.heap.size + 1]? = W.heap[w.heap.size + 1]?) := Lib.hid (HB6.out.block _ (by omega)); have HO6 := Lib.hid (OwG.mono (T := fun q => W.heap.size ≤ q) o6 (fun q hq _ => Nat.le_trans hs5 hq)); have HY6 := Lib.hid (HY0.out.below HB6.out (by omega)); obtain ⟨hy0, hy1, hyf0, hyf1, hys⟩ := HY6.out.two; clear b6 o6)
      | (have HO3' := HO3; go_at_call 79; go_split_ands; refine (orthogonalOf_any w3 B _ p c S HS3.out hB3 HF.out HSE.out (by omega)).mono ?_; rintro e w4 ⟨v4, rfl, b4, o4⟩; obtain ⟨A4, c4, rfl⟩ := OwG.len o4; have HB4 : Hid (Below W.heap.size W w4) := Lib.hid (HB3.out.trans (b4.mono hs3)); have HQ4 : Hid (w4.heap[w.heap.size]? = W.heap[w.heap.size]?) := Lib.hid (HB4.out.block _ (by omega)); have HK4 : Hid (w4.heap[w.heap.size + 1]? = W.heap[w.heap.size + 1]?) := Lib.hid (HB4.out.block _ (by omega)); have HO4 := Lib.hid (OwG.readB o4); have HG4 := Lib.hid ((HO3.out.below b4 (Nat.le_refl _)).mono (B' := w4.heap.size) b4.size); have hs4 : W.heap.size ≤ w4.heap.size := HB4.out.size; clear b4 o4)
      | (go_at_call 79; go_split_ands; refine (orthogonalOf_any W.drew B _ p c R HAD.out hBD HF.out HRE.out (by omega)).mono ?_; rintro e w3 ⟨v3, rfl, b3, o3⟩; obtain ⟨A3, c3, rfl⟩ := OwG.len o3; have HB3 : Hid (Below W.heap.size W w3) := Lib.hid ((Below.refl _ _).drew.trans b3); have HQ3 : Hid (w3.heap[w.heap.size]? = W.heap[w.heap.size]?) := Lib.hid (HB3.out.block _ (by omega)); have HK3 : Hid (w3.heap[w.heap.size + 1]? = W.heap[w.heap.size + 1]?) := Lib.hid (HB3.out.block _ (by omega)); have HO3 := Lib.hid (OwG.readB o3); have HS3 := Lib.hid (HS.out.below HB3.out hB0); have hs3 : W.heap.size ≤ w3.heap.size := HB3.out.size; have hB3 : B ≤ w3.heap.size := Nat.le_trans hB0 hs3; clear b3 o3)
      | (go_at_call 62; go_split_ands; refine (sumOf_any w4 w4.heap.size _ _ p c (nullB p R c) (nullB p S c) HG4.out HO4.out (Nat.le_refl _) HF.out HN1.out HN2.out (by have h1 := HL1.out; have h2 := HL2.out; omega) (by omega)).mono ?_; rintro e w5 ⟨v5, rfl, b5, o5⟩; obtain ⟨A5, c5, rfl⟩ := OwG.len o5; have HB5 : Hid (Below W.heap.size W w5) := Lib.hid (HB4.out.trans (b5.mono hs4)); have HQ5 : Hid (w5.heap[w.heap.size]? = W.heap[w.heap.size]?) := Lib.hid (HB5.out.block _ (by omega)); have HK5 : Hid (w5.heap[w.heap.size + 1]? = W.heap[w.heap.size + 1]?) := Lib.hid (HB5.out.block _ (by omega)); have HO5 := Lib.hid (OwG.readB o5); have hs5 : W.heap.size ≤ w5.heap.size := HB5.out.size; clear b5 o5))
  have HBE := Lib.hid (HVB.out.trans (HB6.out.mono HVB.out.size))
  go_wp2
  refine bodyPost_ret (v := .agg #[.int .i64 c, .slice A6 (nullB p (nullB p R c ++ nullB p S c) c).length c6]) (by simp [results, Tryd.results67, go_sem, hy0, hy1]) rfl ?_
  refine ⟨_, rfl, (by refine Below.trans HBE.out ?_; repeat' (first | exact Below.refl _ _ | apply Below.drew | apply Below.setCell | apply Below.alloc | (simp; done) | omega | (simp; omega))), (HO6.out.blocks (fun q hq _ => ?_)).mono (fun q hq _ => by omega)⟩
  repeat rw [blk_setCell_other _ _ _ _ (by dsimp only; omega)]
end Go.Proofs.YtahlicbjbbpihaaDoor
