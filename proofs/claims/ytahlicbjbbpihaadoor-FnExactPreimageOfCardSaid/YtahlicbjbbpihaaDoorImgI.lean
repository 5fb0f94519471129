/- ImageOf: the program's side. -/
import Derived.Test.YtahlicbjbbpihaaDoorSpanF
import Derived.Test.YtahlicbjbbpihaaDoorNullM
import Derived.Test.YtahlicbjbbpihaaDoorMxMul
namespace Go.Proofs.YtahlicbjbbpihaaDoor
set_option maxRecDepth 100000
open Go Go.RowKit Go.Deep

set_option maxHeartbeats 1600000 in
theorem imageOf_any (w : World) (B : Nat) (vb vm : Value) (p : Int) (k n c : Nat) (R M : List (List Int)) (hb : RdG w B vb R) (hm : RdG w B vm M) (hB : B ≤ w.heap.size) (hf : fld p = true) (hR : Mat p k n R) (hM : Mat p n c M) (hk : k ≤ 1000000) (hn : n ≤ 1000000) (hc : c ≤ 1000000) :
    Calls Tryd.prog 88 #[.int .i64 p, .agg #[.int .i64 n, vb], .agg #[.int .i64 c, vm]] w (MadeSp w c (rref p (mmul p c R M) c)) := by
  obtain ⟨h1, h2⟩ := fld_bd hf
  obtain ⟨A1, c1, rfl⟩ := hb.len
  obtain ⟨A2, c2, rfl⟩ := hm.len
  have HVB := Lib.hid (show Below w.heap.size w (((w.alloc (.cells #[.int .i64 n, .slice A1 R.length c1] tSp)).alloc (.cells #[.int .i64 c, .slice A2 M.length c2] tM)).alloc (.cells #[.int .i64 0, .slice none 0 0] tSp)) by repeat' (first | exact Below.refl _ _ | apply Below.alloc | (simp; done) | (simp; omega)))
  have HG := Lib.hid (hb.below HVB.out hB)
  have HMG := Lib.hid (hm.below HVB.out hB)
  have hB0 : B ≤ (((w.alloc (.cells #[.int .i64 n, .slice A1 R.length c1] tSp)).alloc (.cells #[.int .i64 c, .slice A2 M.length c2] tM)).alloc (.cells #[.int .i64 0, .slice none 0 0] tSp)).heap.size := Nat.le_trans hB HVB.out.size
  have HX0 := Lib.hid (((cellsAt_new w #[.int .i64 n, .slice A1 R.length c1] tSp).alloc (.cells #[.int .i64 c, .slice A2 M.length c2] tM)).alloc (.cells #[.int .i64 0, .slice none 0 0] tSp))
  have HM0 := Lib.hid ((cellsAt_new' (w.alloc (.cells #[.int .i64 n, .slice A1 R.length c1] tSp)) #[.int .i64 c, .slice A2 M.length c2] tM _ (w.heap.size + 1) (by simp) rfl).alloc (.cells #[.int .i64 0, .slice none 0 0] tSp))
  have HY0 := Lib.hid (cellsAt_new' ((w.alloc (.cells #[.int .i64 n, .slice A1 R.length c1] tSp)).alloc (.cells #[.int .i64 c, .slice A2 M.length c2] tM)) #[.int .i64 0, .slice none 0 0] tSp _ (w.heap.size + 2) (by simp) rfl)
  have hsz0 : (((w.alloc (.cells #[.int .i64 n, .slice A1 R.length c1] tSp)).alloc (.cells #[.int .i64 c, .slice A2 M.length c2] tM)).alloc (.cells #[.int .i64 0, .slice none 0 0] tSp)).heap.size = w.heap.size + 3 := by simp
  have HF := Lib.hid hf
  have HR := Lib.hid hR
  have HM := Lib.hid hM
  have hRl : R.length ≤ 1000000 := by rw [hR.1]; exact hk
  have hMl : M.length ≤ 1000000 := by rw [hM.1]; exact hn
  have HML := Lib.hid hM.1
  have HPM := Lib.hid (mmul_mat (p := p) h1 c R M)
  clear hb hm hf hR hM hB
  go_enter Tryd.func88, Tryd.ntmps88
  go_upto_region 1 with fail
  generalize (((w.alloc (.cells #[.int .i64 n, .slice A1 R.length c1] tSp)).alloc (.cells #[.int .i64 c, .slice A2 M.length c2] tM)).alloc (.cells #[.int .i64 0, .slice none 0 0] tSp)) = W at HVB HG HMG hB0 HX0 HM0 HY0 hsz0 ⊢
  have hW1 : w.heap.size + 3 ≤ W.heap.size := by omega
  clear hsz0
  obtain ⟨hx0, hx1, hxf0, hxf1, hxs⟩ := HX0.out.two
  obtain ⟨hm0, hm1, hmf0, hmf1, hms⟩ := HM0.out.two
  go_wp2_with fail
  refine (productOf_any W B _ _ p n c R M HG.out HMG.out hB0 h1 h2 hc hRl hMl (fun r hr => by have := HR.out.vec hr; rw [HML.out]; exact this) (fun r hr => HM.out.vec hr)).mono ?_
  rintro e w2 h
  obtain ⟨A3, c3, rfl, b2, o2⟩ := h.at
  have HM2 := Lib.hid (HM0.out.below b2 hms)
  have HY2 := Lib.hid (HY0.out.below b2 (by omega))
  have HB2 := Lib.hid (HVB.out.trans (b2.mono HVB.out.size))
  have hs2 : W.heap.size ≤ w2.heap.size := b2.size
  have HO2 := Lib.hid (OwG.readB o2)
  have HLN := Lib.hid (mmul_len p c R M)
  clear h b2 o2 hx0 hx1 hxf0 hxf1 hxs hm0 hm1 hmf0 hmf1 hms
  have HNE := Lib.hid (show mmul p c R M = mmul p c R M from rfl)
  generalize hN : mmul p c R M = N at HO2 HPM HLN
  have HNN := Lib.hid hN
  clear hN HNE
  go_upto_region 2 with fail
  have HP3 := Lib.hid (cellsAt_new w2 #[.int .i64 c, .slice A3 N.length c3] tM)
  have HM3 := Lib.hid (HM2.out.alloc (.cells #[.int .i64 c, .slice A3 N.length c3] tM))
  have HY3 := Lib.hid (HY2.out.alloc (.cells #[.int .i64 c, .slice A3 N.length c3] tM))
  have HB3 := Lib.hid (show Below w2.heap.size w2 (w2.alloc (.cells #[.int .i64 c, .slice A3 N.length c3] tM)) from (Below.refl _ _).alloc (Nat.le_refl _) _)
  have HO3 := Lib.hid (HO2.out.below HB3.out (Nat.le_refl _))
  change Code.wp _ _ _ _ (w2.alloc (.cells #[.int .i64 c, .slice A3 N.length c3] tM))
  have hsz3 : (w2.alloc (.cells #[.int .i64 c, .slice A3 N.length c3] tM)).heap.size = w2.heap.size + 1 := by simp
  generalize (w2.alloc (.cells #[.int .i64 c, .slice A3 N.length c3] tM)) = W3 at HP3 HM3 HY3 HB3 HO3 hsz3 ⊢
  have hs3 : w2.heap.size ≤ W3.heap.size := by omega
  clear hsz3
  obtain ⟨hp0, hp1, hpf0, hpf1, hps⟩ := HP3.out.two
  obtain ⟨hm0, hm1, hmf0, hmf1, hms⟩ := HM3.out.two
  go_wp2_with fail
  refine (spanOf_any W3 w2.heap.size _ p R.length c N HO3.out hs3 HF.out HPM.out hRl hc).mono ?_
  rintro e w4 ⟨v4, rfl, b4, o4⟩
  obtain ⟨A4, c4, rfl⟩ := OwG.len o4
  have HY4 := Lib.hid (HY3.out.below b4 (by omega))
  have HB4 := Lib.hid (HB2.out.trans ((HB3.out.trans (b4.mono HB3.out.size)).mono HB2.out.size))
  have HO4 := Lib.hid (o4.mono (T := fun q => W3.heap.size ≤ q) (fun q h1 _ => h1))
  clear b4 o4 hp0 hp1 hpf0 hpf1 hps hm0 hm1 hmf0 hmf1 hms
  obtain ⟨hy0, hy1, hyf0, hyf1, hys⟩ := HY4.out.two
  go_wp2
  refine bodyPost_ret (v := .agg #[.int .i64 c, .slice A4 (rref p N c).length c4]) (by simp [results, Tryd.results88, go_sem, hy0, hy1]) rfl ?_
  rw [HNN.out]
  refine ⟨_, rfl, (by refine Below.trans HB4.out ?_; repeat' (first | exact Below.refl _ _ | apply Below.drew | apply Below.setCell | apply Below.alloc | (simp; done) | omega | (simp; omega))), (HO4.out.blocks (fun q hq _ => ?_)).mono (fun q hq _ => by omega)⟩
  repeat rw [blk_setCell_other _ _ _ _ (by dsimp only; omega)]
end Go.Proofs.YtahlicbjbbpihaaDoor
