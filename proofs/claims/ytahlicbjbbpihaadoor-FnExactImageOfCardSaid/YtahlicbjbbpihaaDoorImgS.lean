/- ImageOf: the model's side. -/
import Derived.Test.YtahlicbjbbpihaaDoorVecF
import Derived.Test.YtahlicbjbbpihaaDoorMxMul2
namespace Go.Proofs.YtahlicbjbbpihaaDoor
set_option maxRecDepth 100000
open Go Go.RowKit Go.Deep

set_option maxHeartbeats 1600000 in
set_option maxRecDepth 100000 in
theorem spImage_any (w : World) (B : Nat) (vb vm : Value) (p : Int) (k n c : Nat) (R M : List (List Int)) (hb : RdG w B vb R) (hm : RdG w B vm M) (hB : B ≤ w.heap.size) (hf : fld p = true) (hR : Mat p k n R) (hM : Mat p n c M) (hk : k ≤ 1000000) (hn : n ≤ 1000000) (hc : c ≤ 1000000) :
    Calls Tryd.prog 85 #[.int .i64 p, vb, .agg #[.int .i64 c, vm]] w (MadeG w (rref p (mmul p c R M) c)) := by
  obtain ⟨i0, hi0, hz0, hz1, hz2⟩ := info_parts infoR
  obtain ⟨h1, h2⟩ := fld_bd hf
  obtain ⟨A1, c1, rfl⟩ := hb.len
  obtain ⟨A2, c2, rfl⟩ := hm.len
  have HVB := Lib.hid (show Below w.heap.size w (w.alloc (.cells #[.int .i64 c, .slice A2 M.length c2] tM)) from (Below.refl _ _).alloc (Nat.le_refl _) _)
  have HG := Lib.hid (hb.below HVB.out hB)
  have HMG := Lib.hid (hm.below HVB.out hB)
  have hB0 : B ≤ (w.alloc (.cells #[.int .i64 c, .slice A2 M.length c2] tM)).heap.size := Nat.le_trans hB HVB.out.size
  have HX0 := Lib.hid (cellsAt_new w #[.int .i64 c, .slice A2 M.length c2] tM)
  have hsz0 : (w.alloc (.cells #[.int .i64 c, .slice A2 M.length c2] tM)).heap.size = w.heap.size + 1 := by simp
  have HF := Lib.hid hf
  have HR := Lib.hid hR
  have HM := Lib.hid hM
  have HRL := Lib.hid hR.1
  have HPM := Lib.hid (mmul_mat (p := p) h1 c R M)
  clear hb hm hf hR hM hB
  go_enter Tryd.func85, Tryd.ntmps85
  go_upto_region 2 with fail
  generalize (w.alloc (.cells #[.int .i64 c, .slice A2 M.length c2] tM)) = W at HVB HG HMG hB0 HX0 hsz0 ⊢
  have hW1 : w.heap.size + 1 ≤ W.heap.size := by omega
  clear hsz0
  have HCX : Hid (∀ w' : World, Below W.heap.size W w' → w'.cell? ⟨w.heap.size, 0, none⟩ = some (.int .i64 c) ∧ w'.cell? ⟨w.heap.size, 1, none⟩ = some (.slice A2 M.length c2)) := Lib.hid (fun w' hb => by
    obtain ⟨a0, a1, -⟩ := (HX0.out.below hb (by omega)).two
    exact ⟨a0, a1⟩)
  go_wp2
  go_loopw [12, 7, 9] (fun i o _ wr => ∃ (q : Nat) (vs : List Value), q ≤ R.length ∧ i = .int .i64 q ∧ Hid (Below W.heap.size W wr) ∧ Hid (GridA wr tI tR (fun b => W.heap.size ≤ b) o vs (mmul p c (R.take q) M))) (fun i _ _ _ => R.length - (intOf i).toNat)
  case atStart => exact ⟨0, [], Nat.zero_le _, rfl, Lib.hid (Below.refl _ _), Lib.hid (GridA.nil _ _ _ _)⟩
  case round =>
    obtain ⟨q, vs, hq, rfl, HB2, HGA⟩ := hrel
    obtain ⟨hx0, hx1⟩ := HCX.out wr HB2.out
    by_cases hlt : q < R.length
    · obtain ⟨b1, o1, A3, c3, rfl, hb1, hc1, hrd⟩ := (HG.out.below HB2.out hB0).at hlt
      have HRD := Lib.hid hrd
      have HROW := Lib.hid (HR.out.vec (getD_mem' hlt []))
      have HNX := Lib.hid (mmul_take_succ (p := p) (c := c) (b := M) hlt)
      have HLV := Lib.hid (show vs.length = q by have := HGA.out.len; rw [mmul_len, List.length_take] at this; omega)
      have hBr : B ≤ wr.heap.size := Nat.le_trans hB0 HB2.out.size
      have hqI : (q : Int) < (R.length : Int) := by omega
      have hqn : q ≤ 1000000 := by have := HRL.out; omega
      clear hrd hb1
      generalize R.getD q [] = xr at hc1 HRD HROW HNX
      go_wp2_with fail
      refine (spSum_any wr B _ _ p c xr M HRD.out (HMG.out.below HB2.out hB0) hBr h1 h2 hc (by rw [HM.out.1]; exact hn) (by rw [HROW.out.1, HM.out.1]) HROW.out.2 (fun r hr => HM.out.vec hr)).mono ?_
      rintro e w2 ⟨v2, rfl, b2, o2⟩
      have hol := OwR.len o2
      rw [vmul_len] at hol
      obtain ⟨A4, c4, rfl⟩ := hol
      have HG2 := Lib.hid ((HGA.out.mono (T := fun b => W.heap.size ≤ b ∧ b < wr.heap.size) (fun b h1 h2 => ⟨h1, h2⟩)).blocks (w' := w2) (fun b hb _ => b2.block b hb.2))
      have HB3 := Lib.hid b2
      have HO2 := Lib.hid o2
      have hs2 : wr.heap.size ≤ w2.heap.size := b2.size
      have hs1 : W.heap.size ≤ wr.heap.size := HB2.out.size
      clear b2 o2
      generalize vmul p c xr M = pv at HNX HO2
      go_wp2_with (at_builtin; refine wpList_append_lies _ (by rfl) (.tmp 16) (.tmp 24) 22 (by rfl) 0 33 i0 _ 1 24 Tryd.underlying22 hi0 hz0 hz1 hz2 rfl (by omega) u7 vs.length vs (by rfl) ((HG2.out.blocks (w' := w2.alloc _) (fun k hk hl => blk_alloc_lt _ _ _ hl)).outer) ⟨w2.heap.size, 0, none⟩ 1 1 [.slice A4 c c4] (by rfl) (by rfl) (World.news_of_block (cs := #[.slice A4 c c4]) (t := 33) (fr := (0, 0)) (heap_alloc_new w2 _)) (by simp [Value.oneCell']) (by omega) (by rw [HLV.out]; unfold maxLen; omega) (by rw [HLV.out]; omega) (Nat.zero_le _) (w2.heap.size + 1) (by simp) ?_; intro gg cap w3 hown1 hgrow hat hlt3)
      have HBL := Lib.hid ((((HB2.out).trans (HB3.out.mono hs1)).alloc (Nat.le_trans hs1 hs2) (.cells #[.slice A4 c c4] 33)).grown hgrow (by simp; omega) (fun b hb => HGA.out.inS b hb))
      have HP := Lib.hid (((HG2.out.blocks (w' := w2.alloc (.cells #[.slice A4 c c4] 33)) (fun b hb hl => blk_alloc_lt _ _ _ hl))).push ((HO2.out.blocks (w' := w2.alloc (.cells #[.slice A4 c c4] 33)) (fun b hb hl _ _ => blk_alloc_lt _ _ _ hl)).mono (T := fun b => wr.heap.size ≤ b ∧ b < w2.heap.size + 1) (fun b hb hl => ⟨hb, by simpa using hl⟩)) (fun b h1 h2 => by omega) hown1 hgrow (by simpa using hat))
      clear hown1 hgrow hat hlt3
      go_wp2
      go_roundw
      case rel => exact ⟨q + 1, _, by omega, by go_num, HBL, Lib.hid (by
        rw [HNX.out]
        refine HP.out.mono (T := fun b => W.heap.size ≤ b) (fun b hb _ => ?_)
        simp at hb
        omega)⟩
      case measure => simp [intOf]; omega
    · have HE := Lib.hid (show R.take q = R from List.take_of_length_le (by omega))
      have HGE := HGA.out
      rw [HE.out] at HGE
      obtain ⟨Av, cpv, rfl, -, -⟩ := HGE.room
      have HRG := Lib.hid (OwG.readB HGE.toOwG)
      have hs5 : W.heap.size ≤ wr.heap.size := HB2.out.size
      have hln : (mmul p c R M).length = R.length := mmul_len _ _ _ _
      have HLN := Lib.hid hln
      have hRk : R.length ≤ 1000000 := by have := HRL.out; omega
      clear HGE HGA hln
      go_wp2_with fail
      refine (spReduce_any wr wr.heap.size _ p R.length c (mmul p c R M) HRG.out (Nat.le_refl _) HF.out HPM.out hRk hc).mono ?_
      rintro e w2 ⟨v2, rfl, b2, o2⟩
      have HB7 := Lib.hid b2
      have HO7 := Lib.hid o2
      obtain ⟨A4, c4, rfl⟩ := OwG.len o2
      clear b2 o2
      have hsW : w.heap.size ≤ W.heap.size := HVB.out.size
      go_wp2
      go_ret
      exact ⟨_, rfl, HVB.out.trans ((HB2.out.trans (HB7.out.mono hs5)).mono hsW), HO7.out.mono (fun b hb _ => by omega)⟩
end Go.Proofs.YtahlicbjbbpihaaDoor
