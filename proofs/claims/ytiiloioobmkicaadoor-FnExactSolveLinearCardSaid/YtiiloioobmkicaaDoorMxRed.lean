/- The model's reduction. -/
import Derived.Test.YtiiloioobmkicaaDoorSpSt
import Derived.Test.YtiiloioobmkicaaDoorRdA
import Derived.Test.YtiiloioobmkicaaDoorMxB
import Derived.Test.YtiiloioobmkicaaDoorMxPow
import Derived.Deep.RegionLaw
import Derived.Deep.CutRange
import Derived.Deep.LoopGhost
import Derived.Test.YtiiloioobmkicaaDoorSpReg
namespace Go.Proofs.YtiiloioobmkicaaDoor
set_option maxRecDepth 100000
open Go Go.RowKit Go.Deep

def MadeRed (w : World) (n c : Nat) (s : Red) (e : Ending) (w' : World) : Prop :=
  ∃ v1 v2 S1 S2, e = .returned (.tuple #[.agg #[.int .i64 c, v1], .agg #[.int .i64 n, v2], .int .i64 s.lead.length, .int .i64 s.det]) ∧ Below w.heap.size w w' ∧ OwG w' tI tR S1 v1 s.a ∧ OwG w' tI tR S2 v2 s.t ∧ (∀ k, S1 k → w.heap.size ≤ k ∧ ¬ S2 k) ∧ (∀ k, S2 k → w.heap.size ≤ k)
set_option maxHeartbeats 3200000 in
set_option maxRecDepth 100000 in
theorem mxReduce_any (w : World) (B : Nat) (va : Value) (p : Int) (n c : Nat) (a : List (List Int)) (hva : RdG w B va a) (hB : B ≤ w.heap.size) (hf : fld p = true) (hM : Mat p n c a) (hn : n ≤ 1000000) (hc : c ≤ 1000000) :
    Calls Tryd.prog 91 #[.int .i64 p, .agg #[.int .i64 c, va]] w (MadeRed w n c (red p a (idRows n) c)) := by
  obtain ⟨h1, h2⟩ := fld_bd hf
  obtain ⟨Aa, cca, rfl⟩ := hva.len
  have HV := Lib.hid hva
  have HM := Lib.hid hM
  have HF := Lib.hid hf
  have HB := Lib.hid hB
  have hlen := hM.1
  rw [hlen] at HV ⊢
  have hrow : Hid (∀ r, r < a.length → (a.getD r []).length ≤ 1000000) := Lib.hid (fun r hr => by rw [(hM.row (by rw [← hlen]; exact hr)).1]; exact hc)
  clear hva hM hf hB
  go_enter Tryd.func91, Tryd.ntmps91
  go_wp2_with fail
  go_upto_region 1 with fail
  have HB0 := Lib.hid (show Below w.heap.size w (((w.alloc (.cells #[.int .i64 c, .slice Aa n cca] tM)).alloc (.cells #[.int .i64 0, .slice none 0 0] tM)).alloc (.cells #[.int .i64 0, .slice none 0 0] tM)) by repeat' (first | exact Below.refl _ _ | apply Below.alloc | (simp; done) | (simp; omega)))
  have HP := Lib.hid (((cellsAt_new w #[.int .i64 c, .slice Aa n cca] tM).alloc (.cells #[.int .i64 0, .slice none 0 0] tM)).alloc (.cells #[.int .i64 0, .slice none 0 0] tM))
  have HR1 := Lib.hid ((cellsAt_new' (w.alloc (.cells #[.int .i64 c, .slice Aa n cca] tM)) #[.int .i64 0, .slice none 0 0] tM _ (w.heap.size + 1) (by simp) rfl).alloc (.cells #[.int .i64 0, .slice none 0 0] tM))
  have HR2 := Lib.hid (cellsAt_new' ((w.alloc (.cells #[.int .i64 c, .slice Aa n cca] tM)).alloc (.cells #[.int .i64 0, .slice none 0 0] tM)) #[.int .i64 0, .slice none 0 0] tM _ (w.heap.size + 1 + 1) (by simp) rfl)
  have hsz : w.heap.size + 3 ≤ (((w.alloc (.cells #[.int .i64 c, .slice Aa n cca] tM)).alloc (.cells #[.int .i64 0, .slice none 0 0] tM)).alloc (.cells #[.int .i64 0, .slice none 0 0] tM)).heap.size := by simp
  generalize (((w.alloc (.cells #[.int .i64 c, .slice Aa n cca] tM)).alloc (.cells #[.int .i64 0, .slice none 0 0] tM)).alloc (.cells #[.int .i64 0, .slice none 0 0] tM)) = W at HB0 HP HR1 HR2 hsz ⊢
  obtain ⟨hp0, hp1, hpf0, hpf1, hps⟩ := HP.out.two
  have hD : Hid (Below W.heap.size W W.drew) := Lib.hid (Below.refl _ _).drew
  have HELD : Hid (∀ w' : World, Hid (Below W.heap.size W w') → w'.cell? ⟨w.heap.size, 0, none⟩ = some (.int .i64 c) ∧ w'.cell? ⟨w.heap.size, 1, none⟩ = some (.slice Aa n cca) ∧ Hid (Below W.heap.size W w')) := Lib.hid (fun w' H => ⟨(H.out.cell (p := ⟨w.heap.size, 0, none⟩) hps).trans hp0, (H.out.cell (p := ⟨w.heap.size, 1, none⟩) hps).trans hp1, H⟩)
  have HRDA : Hid (∀ w' : World, Hid (Below W.heap.size W w') → RdG w' B (.slice Aa n cca) a ∧ B ≤ w'.heap.size) := Lib.hid (fun w' H => ⟨HV.out.below (HB0.out.trans (H.out.mono HB0.out.size)) HB.out, Nat.le_trans (Nat.le_trans HB.out HB0.out.size) H.out.size⟩)
  have HCC : Hid (∀ cur : World, Hid (Below W.heap.size W cur) → Calls Tryd.prog 113 #[.agg #[.int .i64 c, .slice Aa n cca]] cur (fun e w2 => ∃ A1 c1, e = .returned (.agg #[.int .i64 c, .slice A1 n c1]) ∧ Below cur.heap.size cur w2 ∧ Hid (Below W.heap.size W w2) ∧ Hid (OwG w2 tI tR (fun q => cur.heap.size ≤ q ∧ q < w2.heap.size) (.slice A1 n c1) a))) :=
    Lib.hid (fun cur H => (mxCopy_any cur B _ c a (HRDA.out _ H).1 (HRDA.out _ H).2 (by rw [hlen]; exact hn) hrow.out).mono (by
      rintro e w2 ⟨v2, rfl, b2, o2⟩
      obtain ⟨A1, c1, rfl⟩ := o2.len
      rw [hlen] at o2 ⊢
      exact ⟨A1, c1, rfl, b2, Lib.hid (H.out.trans (b2.mono H.out.size)), Lib.hid (o2.mono fun q hq hl => ⟨hq, hl⟩)⟩))
  have HCI : Hid (∀ cur : World, Hid (Below W.heap.size W cur) → Calls Tryd.prog 114 #[.int .i64 n] cur (fun e w2 => ∃ A1 c1, e = .returned (.agg #[.int .i64 n, .slice A1 n c1]) ∧ Below cur.heap.size cur w2 ∧ Hid (Below W.heap.size W w2) ∧ Hid (OwG w2 tI tR (fun q => cur.heap.size ≤ q ∧ q < w2.heap.size) (.slice A1 n c1) (idRows n)))) :=
    Lib.hid (fun cur H => (mxId_any cur n hn).mono (by
      rintro e w2 ⟨v2, rfl, b2, o2⟩
      obtain ⟨A1, c1, rfl⟩ := o2.len
      rw [idRows_len] at o2 ⊢
      exact ⟨A1, c1, rfl, b2, Lib.hid (H.out.trans (b2.mono H.out.size)), Lib.hid (o2.mono fun q hq hl => ⟨hq, hl⟩)⟩))
  go_cut [8, 9] from 19 (fun s8 s9 wc => ∃ (ba bb ga ca gb cb : Nat) (Sa St : Nat → Prop) (A1 A2 : Option Addr), s8 = .pointer (some ⟨ba, 0, none⟩) ∧ s9 = .pointer (some ⟨bb, 0, none⟩) ∧ Hid (MSt w wc Sa St ba bb c n (.slice Aa n cca) (.slice A1 n ca) (.slice A2 n cb) a (idRows n)))
  case first =>
    refine region_by (by kernel_rfl) (fun L v8 v9 v19 v20 v21 v22 v23 v24 w' => L.size = 10 ∧ ∃ S1 S2 T8 T9, RJ w W c n (.slice Aa n cca) a S1 S2 T8 T9 L v8 v9 v19 v20 v21 v22 v23 v24 w') undef undef undef undef undef undef undef undef (by simp only [put8, Act.put]; go_simp) ⟨rfl, _, _, _, _, RJ.init⟩ ?_ ?_
    · rintro L v8 v9 v19 v20 v21 v22 v23 v24 w' i ⟨hL, S1, S2, T8, T9, h⟩ hi hn hr
      have hnd := dn_not hn
      have hHD := HELD.out w' (Lib.hid h.hw)
      obtain ⟨hc0, hc1, -⟩ := hHD
      have hi10 : i < 10 := hi
      by_cases hi8 : i = 8
      · have hr8 := hr
        rw [hi8] at hr8
        have hr' := dep_all hr8 rfl
        have hd1 : dn L 1 := by unfold dn; simp [Region.binds] at hr'; simp [hr']
        have hd6 : dn L 6 := by unfold dn; simp [Region.binds] at hr'; simp [hr']
        obtain ⟨b, A, d, x0, x1, e1, e2, ⟨hx0, hx1, hf0, hf1, hbs⟩, hfin⟩ := h.op8 hd1 hd6
        subst e1
        subst e2
        clear hr' hr8 hr hn
        subst hi8
        refine wpOp_step rfl ?_
        intro K' hK
        have HK := Lib.hid hK
        clear hK
        simp only [put8, Act.put]
        go_simp
        refine HK.out _ _ ⟨_, v9, v19, _, v21, v22, v23, v24, ?_, by rw [Array.size_setIfInBounds]; exact hL, S1, S2, T8, T9, hfin⟩
        simp only [put8, Act.put]
        go_simp
      by_cases hi9 : i = 9
      · have hr8 := hr
        rw [hi9] at hr8
        have hr' := dep_all hr8 rfl
        have hd1 : dn L 5 := by unfold dn; simp [Region.binds] at hr'; simp [hr']
        have hd6 : dn L 7 := by unfold dn; simp [Region.binds] at hr'; simp [hr']
        obtain ⟨b, A, d, x0, x1, e1, e2, ⟨hx0, hx1, hf0, hf1, hbs⟩, hfin⟩ := h.op9 hd1 hd6
        subst e1
        subst e2
        clear hr' hr8 hr hn
        subst hi9
        refine wpOp_step rfl ?_
        intro K' hK
        have HK := Lib.hid hK
        clear hK
        simp only [put8, Act.put]
        go_simp
        refine HK.out _ _ ⟨v8, _, v19, v20, v21, v22, v23, _, ?_, by rw [Array.size_setIfInBounds]; exact hL, S1, S2, T8, T9, hfin⟩
        simp only [put8, Act.put]
        go_simp
      rcases (show i = 0 ∨ i = 1 ∨ i = 2 ∨ i = 3 ∨ i = 4 ∨ i = 5 ∨ i = 6 ∨ i = 7 by omega) with rfl | rfl | rfl | rfl | rfl | rfl | rfl | rfl
      · refine wpOp_step rfl ?_
        intro K' hK
        have HK := Lib.hid hK
        clear hK
        clear hr hn
        simp only [put8, Act.put]
        go_simp
        refine HK.out _ _ ⟨v8, v9, (.agg #[.int .i64 c, .slice Aa n cca]), v20, v21, v22, v23, v24, ?_, by rw [Array.size_setIfInBounds]; exact hL, S1, S2, T8, T9, h.op0⟩
        simp only [put8, Act.put]
        go_simp
      · refine wpOp_step rfl ?_
        intro K' hK
        have HK := Lib.hid hK
        clear hK
        obtain rfl := h.f0 (by have hr' := dep_all hr rfl; unfold dn; simp [Region.binds] at hr'; simp [hr'])
        clear hr hn
        simp only [put8, Act.put]
        go_simp
        go_at_call 113
        refine (HCC.out w' (Lib.hid h.hw)).mono ?_
        rintro e w2 ⟨A1, c1, rfl, b2, HZ2, o2⟩
        have hsz8 := h.hw.size
        refine HK.out _ _ ⟨v8, v9, _, (.agg #[.int .i64 c, .slice A1 n c1]), v21, v22, v23, v24, ?_, by rw [Array.size_setIfInBounds]; exact hL, _, S2, T8, T9, (h.frame b2).op1 hnd (y := w'.heap.size) (S := fun q => w'.heap.size ≤ q ∧ q < w2.heap.size) (fun q hq => ⟨by omega, hq.1, hq.2⟩) h.old o2.out⟩
        simp only [put8, Act.put]
        go_simp
      · refine wpOp_step rfl ?_
        intro K' hK
        have HK := Lib.hid hK
        clear hK
        clear hr hn
        simp only [put8, Act.put]
        go_simp
        refine HK.out _ _ ⟨v8, v9, v19, v20, (.pointer (some ⟨w.heap.size, 1, none⟩)), v22, v23, v24, ?_, by rw [Array.size_setIfInBounds]; exact hL, S1, S2, T8, T9, h.op2⟩
        simp only [put8, Act.put]
        go_simp
      · refine wpOp_step rfl ?_
        intro K' hK
        have HK := Lib.hid hK
        clear hK
        obtain rfl := h.f2 (by have hr' := dep_all hr rfl; unfold dn; simp [Region.binds] at hr'; simp [hr'])
        clear hr hn
        simp only [put8, Act.put]
        go_simp
        refine HK.out _ _ ⟨v8, v9, v19, v20, _, (.slice Aa n cca), v23, v24, ?_, by rw [Array.size_setIfInBounds]; exact hL, S1, S2, T8, T9, h.op3⟩
        simp only [put8, Act.put]
        go_simp
      · refine wpOp_step rfl ?_
        intro K' hK
        have HK := Lib.hid hK
        clear hK
        obtain rfl := h.f3 (by have hr' := dep_all hr rfl; unfold dn; simp [Region.binds] at hr'; simp [hr'])
        clear hr hn
        simp only [put8, Act.put]
        go_simp
        refine HK.out _ _ ⟨v8, v9, v19, v20, v21, _, (.int .i64 n), v24, ?_, by rw [Array.size_setIfInBounds]; exact hL, S1, S2, T8, T9, h.op4⟩
        simp only [put8, Act.put]
        go_simp
      · refine wpOp_step rfl ?_
        intro K' hK
        have HK := Lib.hid hK
        clear hK
        obtain rfl := h.f4 (by have hr' := dep_all hr rfl; unfold dn; simp [Region.binds] at hr'; simp [hr'])
        clear hr hn
        simp only [put8, Act.put]
        go_simp
        go_at_call 114
        refine (HCI.out w' (Lib.hid h.hw)).mono ?_
        rintro e w2 ⟨A1, c1, rfl, b2, HZ2, o2⟩
        have hsz8 := h.hw.size
        refine HK.out _ _ ⟨v8, v9, v19, v20, v21, v22, _, (.agg #[.int .i64 n, .slice A1 n c1]), ?_, by rw [Array.size_setIfInBounds]; exact hL, S1, _, T8, T9, (h.frame b2).op5 hnd (y := w'.heap.size) (S := fun q => w'.heap.size ≤ q ∧ q < w2.heap.size) (fun q hq => ⟨by omega, hq.1, hq.2⟩) h.old o2.out⟩
        simp only [put8, Act.put]
        go_simp
      · refine wpOp_step rfl ?_
        intro K' hK
        have HK := Lib.hid hK
        clear hK
        clear hr hn
        simp only [put8, Act.put]
        go_simp
        have hsz8 := h.hw.size
        refine HK.out _ _ ⟨(.pointer (some ⟨w'.heap.size, 0, none⟩)), v9, v19, v20, v21, v22, v23, v24, ?_, by rw [Array.size_setIfInBounds]; exact hL, S1, S2, _, T9, (h.frame (w' := w'.alloc (.cells #[.int .i64 0, .slice none 0 0] tM)) ((Below.refl _ w').alloc (Nat.le_refl _) _)).op6 hnd (y := w'.heap.size) (b := w'.heap.size) (S := fun q => q = w'.heap.size) (fun q hq => ⟨by omega, by omega, by rw [nblk_alloc]; omega⟩) h.old rfl (fun _ h => h) (cellsAt_new' _ _ _ _ _ rfl rfl)⟩
        simp only [put8, Act.put]
        go_simp
      · refine wpOp_step rfl ?_
        intro K' hK
        have HK := Lib.hid hK
        clear hK
        clear hr hn
        simp only [put8, Act.put]
        go_simp
        have hsz8 := h.hw.size
        refine HK.out _ _ ⟨v8, (.pointer (some ⟨w'.heap.size, 0, none⟩)), v19, v20, v21, v22, v23, v24, ?_, by rw [Array.size_setIfInBounds]; exact hL, S1, S2, T8, _, (h.frame (w' := w'.alloc (.cells #[.int .i64 0, .slice none 0 0] tM)) ((Below.refl _ w').alloc (Nat.le_refl _) _)).op7 hnd (y := w'.heap.size) (b := w'.heap.size) (S := fun q => q = w'.heap.size) (fun q hq => ⟨by omega, by omega, by rw [nblk_alloc]; omega⟩) h.old rfl (fun _ h => h) (cellsAt_new' _ _ _ _ _ rfl rfl)⟩
        simp only [put8, Act.put]
        go_simp
    · rintro L v8 v9 v19 v20 v21 v22 v23 v24 w' ⟨hL, S1, S2, T8, T9, h⟩ hr
      have d0 : dn L 0 := ready_nil hr (i := 0) (by decide) hL (dep_of rfl (by simp [Region.binds]))
      have e0 : L[0]?.getD false = true := by have h := d0; unfold dn at h; simpa using h
      have d2 : dn L 2 := ready_nil hr (i := 2) (by decide) hL (dep_of rfl (by simp [Region.binds]))
      have e2 : L[2]?.getD false = true := by have h := d2; unfold dn at h; simpa using h
      have d3 : dn L 3 := ready_nil hr (i := 3) (by decide) hL (dep_of rfl (by simp [Region.binds, e2]))
      have e3 : L[3]?.getD false = true := by have h := d3; unfold dn at h; simpa using h
      have d4 : dn L 4 := ready_nil hr (i := 4) (by decide) hL (dep_of rfl (by simp [Region.binds, e3]))
      have e4 : L[4]?.getD false = true := by have h := d4; unfold dn at h; simpa using h
      have d1 : dn L 1 := ready_nil hr (i := 1) (by decide) hL (dep_of rfl (by simp [Region.binds, e0]))
      have e1 : L[1]?.getD false = true := by have h := d1; unfold dn at h; simpa using h
      have d5 : dn L 5 := ready_nil hr (i := 5) (by decide) hL (dep_of rfl (by simp [Region.binds, e4, e1]))
      have e5 : L[5]?.getD false = true := by have h := d5; unfold dn at h; simpa using h
      have d6 : dn L 6 := ready_nil hr (i := 6) (by decide) hL (dep_of rfl (by simp [Region.binds]))
      have e6 : L[6]?.getD false = true := by have h := d6; unfold dn at h; simpa using h
      have d7 : dn L 7 := ready_nil hr (i := 7) (by decide) hL (dep_of rfl (by simp [Region.binds]))
      have e7 : L[7]?.getD false = true := by have h := d7; unfold dn at h; simpa using h
      have d8 : dn L 8 := ready_nil hr (i := 8) (by decide) hL (dep_of rfl (by simp [Region.binds, e0, e2, e3, e4, e1, e5, e6, e7]))
      have e8 : L[8]?.getD false = true := by have h := d8; unfold dn at h; simpa using h
      have d9 : dn L 9 := ready_nil hr (i := 9) (by decide) hL (dep_of rfl (by simp [Region.binds, e0, e2, e3, e4, e1, e5, e6, e7, e8]))
      have e9 : L[9]?.getD false = true := by have h := d9; unfold dn at h; simpa using h
      have hd : ∀ j, j < 10 → dn L j := fun j hj => by
        rcases (show j = 0 ∨ j = 1 ∨ j = 2 ∨ j = 3 ∨ j = 4 ∨ j = 5 ∨ j = 6 ∨ j = 7 ∨ j = 8 ∨ j = 9 by omega) with rfl | rfl | rfl | rfl | rfl | rfl | rfl | rfl | rfl | rfl <;> assumption
      obtain ⟨ba, bb, A1, c1, A2, c2, rfl, rfl, hm⟩ := h.fin hd HB0.out hsz HP.out HR1.out HR2.out
      simp only [put8, Act.put]
      go_wp2_with fail
      go_meet
      exact ⟨ba, bb, 0, c1, 0, c2, S1, S2, A1, A2, rfl, rfl, Lib.hid hm⟩
  case rest =>
    obtain ⟨ba, bb, ga, ca, gb, cb, Sa, St, A1, A2, rfl, rfl, HST⟩ := hcut
    clear hp0 hp1 hpf0 hpf1 hps hD HELD HRDA HCC HCI hsz
    have HZ0 := Lib.hid (show red p a (idRows n) 0 = { a := a, t := idRows n, lead := [], det := 1, fac := 1 } from rfl)
    go_wp2
    go_loopg [12, 10, 11, 13, 14, 15, 16, 17, 18, 131, 132, 133, 134] c (fun gk i r d _ _ _ _ _ _ _ _ _ _ wr => ∃ k : Nat, k ≤ c ∧ gk = c - k ∧ i = .int .i64 k ∧ r = .int .i64 (red p a (idRows n) k).lead.length ∧ d = .int .i64 (red p a (idRows n) k).det ∧ Hid (MSt w wr Sa St ba bb c n (.slice Aa n cca) (.slice A1 n ca) (.slice A2 n cb) (red p a (idRows n) k).a (red p a (idRows n) k).t))
    case atStart => exact ⟨0, Nat.zero_le _, by omega, rfl, rfl, rfl, HST⟩
    case round =>
      obtain ⟨k, hk, rfl, rfl, rfl, rfl, HS⟩ := hrel
      obtain ⟨hp0, hp1, hpf0, hpf1, hps⟩ := HS.out.p.two
      by_cases hlt : k < c
      · have HI := Lib.hid (red_inv HF.out HM.out (idRows_mat h1 n) k hk)
        have HN := Lib.hid (show red p a (idRows n) (k + 1) = stepCol p k (red p a (idRows n) k) from rfl)
        generalize red p a (idRows n) k = s at HS HI HN ⊢
        have hkI : (k : Int) < (c : Int) := by omega
        have HLN := Lib.hid HI.out.a.1
        have HLT := Lib.hid HI.out.t.1
        have hrk := HI.out.rank
        obtain ⟨hax0, hax1, haxf0, haxf1, haxs⟩ := HS.out.xa.two
        go_wp2
        go_loop [13] (fun i => ∃ j : Nat, s.lead.length ≤ j ∧ j ≤ n ∧ i = .int .i64 j ∧ Hid (∀ m, s.lead.length ≤ m → m < j → at2 s.a m k = 0)) (fun i => n - (intOf i).toNat)
        case atStart => exact ⟨s.lead.length, Nat.le_refl _, hrk, rfl, Lib.hid (fun j a b => absurd b (by omega))⟩
        case round =>
          obtain ⟨j, hj1, hj2, rfl, HZ⟩ := hrel
          by_cases hltj : j < n
          · have hltI : (j : Int) < (n : Int) := by omega
            obtain ⟨g, c1, b, c2, e, hg, hgl, hcg, hbS, hbl, -, hcb, hfb, -⟩ := HS.out.a.at (r := j) (j := k) (by rw [HLN.out]; exact hltj) (by rw [(HI.out.a.row hltj).1]; exact hlt)
            rw [HLN.out] at e
            obtain ⟨rfl, -, rfl⟩ := sliceEq e
            rw [(HI.out.a.row hltj).1] at hcg
            have HAT := Lib.hid (show (s.a.getD j []).getD k 0 = at2 s.a j k from rfl)
            rw [HAT.out] at hcb
            clear e hg hgl hbS hbl hfb
            by_cases hz : at2 s.a j k = 0
            · have HZ2 := Lib.hid hz
              rw [hz] at hcb
              clear hz
              go_wp2
              go_round
              case rel => exact ⟨j + 1, by omega, by omega, by go_num, Lib.hid (fun m a b => by
                by_cases cj : m = j
                · rw [cj]; exact HZ2.out
                · exact HZ.out m a (by omega))⟩
              case measure => simp [intOf]; omega
            · have hnz : (at2 s.a j k == 0) = false := by simp [hz]
              have hne : ¬ (j : Int) = (n : Int) := by omega
              have hneb : ((j : Int) == (n : Int)) = false := by simp; omega
              have HPV := Lib.hid (show piv s.a k s.lead.length = j from piv_eq hj1 (by rw [HLN.out]; exact hj2) HZ.out (fun _ => hz))
              have HSC := Lib.hid (show stepCol p k s = clean p k (mult p k (exch p j s)) by unfold stepCol; rw [HPV.out, if_pos (by rw [HLN.out]; exact hltj)])
              have HNZ := Lib.hid hz
              clear hz
              have hrn : s.lead.length < n := by omega
              have hrI : (s.lead.length : Int) < (n : Int) := by omega
              have HZI := Lib.hid (HS.out.t.lend (r := s.lead.length) (by rw [HLT.out]; exact hrn))
              obtain ⟨g2, cx, Ax, ux, Tx, e0, -⟩ := HZI.out
              rw [HLT.out] at e0
              obtain ⟨rfl, -, rfl⟩ := sliceEq e0
              clear e0 HZI
              go_upto_if 57 with fail
              go_cut [11, 14, 15] from 25 to 180 (fun d _ _ wc => ∃ d1 : Int, d = .int .i64 d1 ∧ Hid (d1 = (exch p j s).det) ∧ Hid (MSt w wc Sa St ba bb c n (.slice Aa n cca) (.slice (some ⟨g, 0, none⟩) n ca) (.slice (some ⟨g2, 0, none⟩) n cb) (exch p j s).a (exch p j s).t))
              case first =>
                by_cases hjr : j = s.lead.length
                · have HS1 := Lib.hid (show MSt w wr Sa St ba bb c n (.slice Aa n cca) (.slice (some ⟨g, 0, none⟩) n ca) (.slice (some ⟨g2, 0, none⟩) n cb) (exch p j s).a (exch p j s).t by
                    show MSt w wr Sa St ba bb c n _ _ _ (swapL s.lead.length j s.a) (swapL s.lead.length j s.t)
                    rw [hjr, swapL_self (by rw [HLN.out]; exact hrn), swapL_self (by rw [HLT.out]; exact hrn)]
                    exact HS.out)
                  have HDET := Lib.hid (show s.det = (exch p j s).det by simp [exch, hjr])
                  have hnb : decide ((s.lead.length : Int) < (j : Int)) = false := by simp; omega
                  have hng : ¬ (s.lead.length : Int) < (j : Int) := by omega
                  clear hjr
                  go_wp2_with fail
                  go_meet
                  case rel => exact ⟨_, rfl, HDET, HS1⟩
                · have hgt : (s.lead.length : Int) < (j : Int) := by omega
                  obtain ⟨g0, cg, g2', cg2, B1, l1, d1, B2, l2, d2, C1, m1, e1, C2, m2, e2, e, e', hgg, hgl, hgl2, ⟨hn1, hn2, hn3, hn4⟩, ⟨hx1, hx2, hxf⟩, ⟨hy1, hy2, hyf⟩, hfin⟩ := HS.out.swap (r := s.lead.length) (i := j) (by rw [HLN.out]; exact hrn) (by rw [HLN.out]; exact hltj) (by rw [HLT.out]; exact hrn) (by rw [HLT.out]; exact hltj)
                  rw [HLN.out] at e
                  obtain ⟨e3, -, -⟩ := sliceEq e
                  obtain rfl : g = g0 := by injection e3 with e3; injection e3
                  rw [HLT.out] at e'
                  obtain ⟨e5, -, -⟩ := sliceEq e'
                  obtain rfl : g2 = g2' := by injection e5 with e5; injection e5
                  obtain ⟨rfl, rfl, rfl⟩ := sliceEq (Option.some.inj (hcg.symm.trans hx1))
                  have HFIN := Lib.hid hfin
                  clear hfin e e' e3 e5
                  obtain ⟨htx0, htx1, htxf0, htxf1, htxs⟩ := HS.out.xb.two
                  have hn1' := hn1.symm
                  have hn2' := hn2.symm
                  have hn3' := hn3.symm
                  have hn4' := hn4.symm
                  have hgg' := hgg.symm
                  have HDET := Lib.hid (show (p - s.det) % p = (exch p j s).det by simp [exch, hjr])
                  clear hjr
                  go_wp2
                  go_region
                  go_wp2
                  go_region
                  go_wp2
                  go_region
                  go_wp2_with fail
                  refine (fdNeg_any p s.det _ h1 h2 (by have := HI.out.det0; omega) HI.out.det0.2).mono ?_
                  rintro e wx ⟨rfl, hwx⟩
                  have HS1 := Lib.hid (show MSt w wx Sa St ba bb c n (.slice Aa n cca) (.slice (some ⟨g, 0, none⟩) n ca) (.slice (some ⟨g2, 0, none⟩) n cb) (exch p j s).a (exch p j s).t by
                    show MSt w wx Sa St ba bb c n _ _ _ (swapL s.lead.length j s.a) (swapL s.lead.length j s.t)
                    rw [← hwx]
                    exact HFIN.out.drew.drew.drew)
                  clear hwx HFIN hcg hcb hax0 hax1 haxf0 haxf1 haxs htx0 htx1 htxf0 htxf1 htxs hx1 hx2 hxf hy1 hy2 hyf
                  generalize (p - s.det) % p = d1 at HDET ⊢
                  go_wp2_with fail
                  go_meet
                  case rel => exact ⟨_, rfl, HDET, HS1⟩
              case rest =>
                obtain ⟨d1, rfl, HDET, HS1⟩ := hcut
                clear hcg hcb hax0 hax1 haxf0 haxf1 haxs
                have HI1 := Lib.hid (HI.out.exch h1 hj1 hltj)
                have HX1 := Lib.hid (HI.out.exch_at hj1 hltj)
                have HL1 := Lib.hid (show (exch p j s).lead = s.lead from rfl)
                have hdb := HI1.out.det0
                rw [← HDET.out] at hdb
                generalize exch p j s = s1 at HI1 HX1 HS1 HL1 HSC HDET
                have hlen1 := HI1.out.a.1
                obtain ⟨g', c1', b', c2', e, -, -, hcg1, -, -, -, hcb1, -, -⟩ := HS1.out.a.at (r := s.lead.length) (j := k) (by rw [HI1.out.a.1]; exact hrn) (by rw [(HI1.out.a.row hrn).1]; exact hlt)
                rw [hlen1] at e
                obtain ⟨e1, -, -⟩ := sliceEq e
                obtain rfl : g = g' := by injection e1 with e1; injection e1
                have HRL := Lib.hid (HI1.out.a.row hrn).1
                have HRLT := Lib.hid (HI1.out.t.row hrn).1
                rw [HRL.out] at hcg1
                have hat : (s1.a.getD s.lead.length []).getD k 0 = at2 s1.a s.lead.length k := rfl
                rw [hat] at hcb1
                have hxb := HI1.out.a.el hrn hlt
                rw [hat] at hxb
                have hnz1 : at2 s1.a s.lead.length k ≠ 0 := by rw [HX1.out]; exact HNZ.out
                obtain ⟨HI2, HI2u⟩ := HI1.out.mult HF.out (show s1.lead.length < n by rw [HL1.out]; exact hrn) hlt (by rw [HL1.out]; exact hnz1)
                replace HI2 := Lib.hid HI2
                have HM2 := Lib.hid (show mult p k s1 = { a := scaleAt p s.lead.length (inv p (at2 s1.a s.lead.length k)) s1.a, t := scaleAt p s.lead.length (inv p (at2 s1.a s.lead.length k)) s1.t, lead := s.lead, det := s1.det * at2 s1.a s.lead.length k % p, fac := s1.fac * inv p (at2 s1.a s.lead.length k) % p } by unfold mult; rw [HL1.out])
                have hIb := inv_bd h1 (at2 s1.a s.lead.length k)
                clear hlen1 e e1 hat HI2u
                generalize hxe : at2 s1.a s.lead.length k = x at hcb1 hxb HM2 hIb hnz1
                clear hxe
                obtain ⟨hx0, hx1⟩ := hxb
                have hxp : 0 < x := by omega
                obtain ⟨hax0, hax1, haxf0, haxf1, haxs⟩ := HS1.out.xa.two
                obtain ⟨htx0, htx1, htxf0, htxf1, htxs⟩ := HS1.out.xb.two
                obtain ⟨g3, c3, A3, u3, T3, e3, hl3, ho3, hT3, hback3, -⟩ := HS1.out.a.lend (r := s.lead.length) (by rw [HI1.out.a.1]; exact hrn)
                rw [HI1.out.a.1] at e3
                obtain ⟨e4, -, -⟩ := sliceEq e3
                obtain rfl : g = g3 := by injection e4 with e4; injection e4
                rw [HRL.out] at hl3 ho3 hback3
                obtain ⟨rfl, -, rfl⟩ := sliceEq (Option.some.inj (hcg1.symm.trans hl3))
                have HO3 := Lib.hid ho3
                have HT3 := Lib.hid hT3
                have HBK3 := Lib.hid hback3
                clear ho3 hT3 hback3 e3 e4 hl3
                go_wp2_with fail
                refine (fdMul_any p d1 x _ h1 h2 (by omega) hdb.2 hx0 hx1).mono ?_
                rintro e w2 ⟨rfl, rfl⟩
                go_wp2
                go_still_tail 9, (by kernel_rfl)
                still_call ((fdInv_any p x _ HF.out hxp hx1).mono fun _ _ h => ⟨h.1, h.2.symm⟩)
                repeat still_step
                refine wpStill_nil ?_
                change wpList _ _ _ _ _ (wc).drew
                go_wp2_with fail
                refine (mxScale_any (wc).drew T3 _ p (inv p x) (s1.a.getD s.lead.length []) h1 h2 (OwR.blocks HO3.out (fun _ _ _ _ _ => rfl)) (by rw [HRL.out]; exact hc) (HI1.out.a.row hrn).2 hIb.1 hIb.2).mono ?_
                rintro e w3 ⟨rfl, t3, o3⟩
                have HS2 := Lib.hid (HS1.out.drew.wroteA (t3.mono (fun q _ hq => HT3.out q hq)) (HBK3.out w3 _ (by rw [scale_len, HRL.out]) ((Touch.refl _ _).drew.trans t3) o3))
                clear t3 o3 hax0 hax1 haxf0 haxf1 haxs htx0 htx1 htxf0 htxf1 htxs hcg1 hcb1
                obtain ⟨hax0, hax1, haxf0, haxf1, haxs⟩ := HS2.out.xa.two
                obtain ⟨htx0, htx1, htxf0, htxf1, htxs⟩ := HS2.out.xb.two
                obtain ⟨g4, c4, A4, u4, T4, e4, hl4, ho4, hT4, hback4, -⟩ := HS2.out.t.lend (r := s.lead.length) (by rw [HI1.out.t.1]; exact hrn)
                rw [HI1.out.t.1] at e4
                obtain ⟨e9, -, -⟩ := sliceEq e4
                obtain rfl : g2 = g4 := by injection e9 with e9; injection e9
                rw [HRLT.out] at hl4 ho4 hback4
                have HO4 := Lib.hid ho4
                have HT4 := Lib.hid hT4
                have HBK4 := Lib.hid hback4
                clear ho4 hT4 hback4 e4 e9
                go_wp2
                go_still_tail 9, (by kernel_rfl)
                still_call ((fdInv_any p x _ HF.out hxp hx1).mono fun _ _ h => ⟨h.1, h.2.symm⟩)
                repeat still_step
                refine wpStill_nil ?_
                change wpList _ _ _ _ _ w3.drew
                go_wp2_with fail
                refine (mxScale_any w3.drew T4 _ p (inv p x) (s1.t.getD s.lead.length []) h1 h2 (OwR.blocks HO4.out (fun _ _ _ _ _ => rfl)) (by rw [HRLT.out]; exact hn) (HI1.out.t.row hrn).2 hIb.1 hIb.2).mono ?_
                rintro e w4 ⟨rfl, t4, o4⟩
                have HS3 := Lib.hid (show MSt w w4 Sa St ba bb c n _ _ _ (mult p k s1).a (mult p k s1).t by rw [HM2.out]; exact HS2.out.drew.wroteT (t4.mono (fun q _ hq => HT4.out q hq)) (HBK4.out w4 _ (by rw [scale_len, HRLT.out]) ((Touch.refl _ _).drew.trans t4) o4))
                clear t4 o4 hax0 hax1 haxf0 haxf1 haxs htx0 htx1 htxf0 htxf1 htxs hl4
                have HL2 := Lib.hid (show (mult p k s1).lead = s.lead by rw [HM2.out])
                have HDET2 := Lib.hid (show d1 * x % p = (mult p k s1).det by rw [HM2.out, HDET.out])
                generalize d1 * x % p = d2 at HDET2 ⊢
                clear HM2 hIb HDET hdb hnz1 HX1 HI1 HS1 HS2 HRL HRLT HO3 HT3 HBK3 HO4 HT4 HBK4
                generalize mult p k s1 = s2 at HI2 HS3 HL2 HSC HDET2
                obtain ⟨hax0, hax1, haxf0, haxf1, haxs⟩ := HS3.out.xa.two
                have HLN2 := Lib.hid HI2.out.a.1
                have HLT2 := Lib.hid HI2.out.t.1
                go_wp2
                clear hax0 hax1 haxf0 haxf1 haxs
                go_loopw [134, 17, 18] (fun i _ _ wr2 => ∃ k' : Nat, k' ≤ n ∧ i = .int .i64 k' ∧ Hid (MSt w wr2 Sa St ba bb c n (.slice Aa n cca) (.slice (some ⟨g, 0, none⟩) n ca) (.slice (some ⟨g2, 0, none⟩) n cb) (elimS p s.lead.length k s2.a s2.a k') (elimS p s.lead.length k s2.a s2.t k'))) (fun i _ _ _ => n - (intOf i).toNat)
                case atStart => exact ⟨0, Nat.zero_le _, rfl, Lib.hid (by unfold elimS; rw [upd_zero, upd_zero]; exact HS3.out)⟩
                case round =>
                  obtain ⟨k', hk', rfl, HS4⟩ := hrel
                  obtain ⟨hax0, hax1, haxf0, haxf1, haxs⟩ := HS4.out.xa.two
                  obtain ⟨htx0, htx1, htxf0, htxf1, htxs⟩ := HS4.out.xb.two
                  by_cases hlt' : k' < n
                  · have HMA := Lib.hid (elimS_mat h1 HI2.out.a s.lead.length k s2.a k')
                    have HMT := Lib.hid (elimS_mat h1 HI2.out.t s.lead.length k s2.a k')
                    obtain ⟨g', c1', b', c2', e, -, -, hcg, -, -, -, hcb, -, -⟩ := HS4.out.a.at (r := k') (j := k) (by rw [HMA.out.1]; exact hlt') (by rw [(HMA.out.row hlt').1]; exact hlt)
                    rw [HMA.out.1] at e
                    obtain ⟨e1, -, -⟩ := sliceEq e
                    obtain rfl : g = g' := by injection e1 with e1; injection e1
                    rw [(HMA.out.row hlt').1] at hcg
                    have hat : ((elimS p s.lead.length k s2.a s2.a k').getD k' []).getD k 0 = at2 s2.a k' k := by rw [elimS_get (Nat.le_refl k')]; rfl
                    rw [hat] at hcb
                    have hxb := HI2.out.a.el hlt' hlt
                    have hat2 : (s2.a.getD k' []).getD k 0 = at2 s2.a k' k := rfl
                    rw [hat2] at hxb
                    clear e e1 hat hat2
                    have hkI' : (k' : Int) < (n : Int) := by omega
                    by_cases hkr : k' = s.lead.length
                    · have hq : ((k' : Int) != (s.lead.length : Int)) = false := by simp [hkr]
                      have HKR := Lib.hid hkr
                      clear hkr
                      generalize at2 s2.a k' k = x at hcb hxb
                      go_wp2
                      go_roundw
                      case rel => exact ⟨k' + 1, by omega, by go_num, Lib.hid (by
                        have h := HS4.out
                        rw [HKR.out] at h ⊢
                        rw [elimS_skip (by rw [HI2.out.a.1]; exact hrn), elimS_skip (by rw [HI2.out.t.1]; exact hrn)]
                        exact h)⟩
                      case measure => simp [intOf]; omega
                    · have hq : ((k' : Int) != (s.lead.length : Int)) = true := by simp; omega
                      have HKR := Lib.hid hkr
                      have HNA := Lib.hid (elimS_next (p := p) (col := k) (b := s2.a) (rows := s2.a) (by rw [HI2.out.a.1]; exact hlt') (by rw [HI2.out.a.1]; exact hrn) hkr)
                      have HNT := Lib.hid (elimS_next (p := p) (col := k) (b := s2.a) (rows := s2.t) (by rw [HI2.out.t.1]; exact hlt') (by rw [HI2.out.t.1]; exact hrn) hkr)
                      clear hkr
                      generalize hxe : at2 s2.a k' k = x at hcb hxb HNA HNT
                      obtain ⟨hx0, hx1⟩ := hxb
                      clear hxe
                      by_cases hxz : x = 0
                      · subst hxz
                        have hpz : (p - 0) % p = 0 := by rw [Int.sub_zero, Int.emod_self]
                        rw [hpz, set_axpy_zero (HMA.out.row hlt').2] at HNA
                        rw [hpz, set_axpy_zero (HMT.out.row hlt').2] at HNT
                        go_wp2
                        go_roundw
                        case rel => exact ⟨k' + 1, by omega, by go_num, Lib.hid (by rw [← HNA.out, ← HNT.out]; exact HS4.out)⟩
                        case measure => simp [intOf]; omega
                      · have hxn : (x != 0) = true := by simp [hxz]
                        have hxp : 0 < x := by omega
                        obtain ⟨g5, c5, A5, u5, T5, e5, hl5, ho5, hT5, hback5, hoth5⟩ := HS4.out.a.lend (r := k') (by rw [HMA.out.1]; exact hlt')
                        rw [HMA.out.1] at e5
                        obtain ⟨e6, -, -⟩ := sliceEq e5
                        obtain rfl : g = g5 := by injection e6 with e6; injection e6
                        obtain ⟨A6, u6, hl6, hr6⟩ := hoth5 s.lead.length (by rw [HMA.out.1]; exact hrn) (fun e => HKR.out e.symm)
                        rw [(HMA.out.row hlt').1] at hl5 ho5 hback5
                        rw [(HMA.out.row hrn).1] at hl6 hr6
                        obtain ⟨rfl, -, rfl⟩ := sliceEq (Option.some.inj (hcg.symm.trans hl5))
                        have HO5 := Lib.hid ho5
                        have HT5 := Lib.hid hT5
                        have HBK5 := Lib.hid hback5
                        have HR6 := Lib.hid hr6
                        clear ho5 hT5 hback5 hoth5 hr6 e5 e6 hl5
                        go_wp2
                        go_still_tail 12, (by kernel_rfl)
                        change wpList _ _ _ _ _ wr.drew
                        go_wp2_with fail
                        refine (mxLess_any wr.drew T5 _ _ p x ((elimS p s.lead.length k s2.a s2.a k').getD k' []) ((elimS p s.lead.length k s2.a s2.a k').getD s.lead.length []) h1 h2 (OwR.blocks HO5.out (fun _ _ _ _ _ => rfl)) (HR6.out.blocks (fun _ _ => rfl)) (by rw [(HMA.out.row hrn).1, (HMA.out.row hlt').1]) (by rw [(HMA.out.row hlt').1]; exact hc) (HMA.out.row hlt').2 (HMA.out.row hrn).2 hxp hx1).mono ?_
                        rintro e w5 ⟨rfl, t5, o5⟩
                        have HS5 := Lib.hid (HS4.out.drew.wroteA (t5.mono (fun q _ hq => HT5.out q hq)) (HBK5.out w5 _ (by rw [axpy_len, (HMA.out.row hlt').1]) ((Touch.refl _ _).drew.trans t5) o5))
                        clear t5 o5 hax0 hax1 haxf0 haxf1 haxs htx0 htx1 htxf0 htxf1 htxs hl6 hcg hcb
                        rw [HNA.out] at HS5
                        obtain ⟨htx0, htx1, htxf0, htxf1, htxs⟩ := HS5.out.xb.two
                        obtain ⟨g7, c7, A7, u7, T7, e7, hl7, ho7, hT7, hback7, hoth7⟩ := HS5.out.t.lend (r := k') (by rw [HMT.out.1]; exact hlt')
                        rw [HMT.out.1] at e7
                        obtain ⟨e8, -, -⟩ := sliceEq e7
                        obtain rfl : g2 = g7 := by injection e8 with e8; injection e8
                        obtain ⟨A8, u8, hl8, hr8⟩ := hoth7 s.lead.length (by rw [HMT.out.1]; exact hrn) (fun e => HKR.out e.symm)
                        rw [(HMT.out.row hlt').1] at hl7 ho7 hback7
                        rw [(HMT.out.row hrn).1] at hl8 hr8
                        have HO7 := Lib.hid ho7
                        have HT7 := Lib.hid hT7
                        have HBK7 := Lib.hid hback7
                        have HR8 := Lib.hid hr8
                        clear ho7 hT7 hback7 hoth7 hr8 e7 e8
                        go_wp2
                        go_still_tail 12, (by kernel_rfl)
                        change wpList _ _ _ _ _ w5.drew
                        go_wp2_with fail
                        refine (mxLess_any w5.drew T7 _ _ p x ((elimS p s.lead.length k s2.a s2.t k').getD k' []) ((elimS p s.lead.length k s2.a s2.t k').getD s.lead.length []) h1 h2 (OwR.blocks HO7.out (fun _ _ _ _ _ => rfl)) (HR8.out.blocks (fun _ _ => rfl)) (by rw [(HMT.out.row hrn).1, (HMT.out.row hlt').1]) (by rw [(HMT.out.row hlt').1]; exact hn) (HMT.out.row hlt').2 (HMT.out.row hrn).2 hxp hx1).mono ?_
                        rintro e w6 ⟨rfl, t6, o6⟩
                        have HS6 := Lib.hid (HS5.out.drew.wroteT (t6.mono (fun q _ hq => HT7.out q hq)) (HBK7.out w6 _ (by rw [axpy_len, (HMT.out.row hlt').1]) ((Touch.refl _ _).drew.trans t6) o6))
                        rw [HNT.out] at HS6
                        clear t6 o6 hl7 hl8
                        go_wp2
                        go_roundw
                        case rel => exact ⟨k' + 1, by omega, by go_num, HS6⟩
                        case measure => simp [intOf]; omega
                  · have HEA := Lib.hid (elimS_end (p := p) (r := s.lead.length) (col := k) (b := s2.a) (rows := s2.a) (k := k') (by rw [HI2.out.a.1]; omega))
                    have HET := Lib.hid (elimS_end (p := p) (r := s.lead.length) (col := k) (b := s2.a) (rows := s2.t) (k := k') (by rw [HI2.out.t.1]; omega))
                    have HSP := Lib.hid (show stepCol p k s = { a := elim p s.lead.length k s2.a s2.a, t := elim p s.lead.length k s2.a s2.t, lead := s.lead ++ [k], det := s2.det, fac := s2.fac } by rw [HSC.out]; unfold clean; rw [HL2.out])
                    go_wp2
                    go_roundg (c - (k + 1))
                    case rel => exact ⟨k + 1, by omega, rfl, by go_num, by rw [HN.out, HSP.out]; simp, by rw [HN.out, HSP.out, HDET2.out], by rw [HN.out, HSP.out]; have h := HS4.out; rw [HEA.out, HET.out] at h; exact Lib.hid h⟩
                    case measure => omega
          · have HEQ := Lib.hid (show stepCol p k s = s by
              have h3 : piv s.a k s.lead.length = n := piv_eq (by omega) (by rw [HLN.out]; exact Nat.le_refl _) (fun m h4 h5 => HZ.out m h4 (by omega)) (fun h4 => absurd h4 (by rw [HLN.out]; omega))
              unfold stepCol
              rw [h3, if_neg (by rw [HLN.out]; omega)])
            have hjn : j = n := by omega
            have hjb : ((j : Int) == (n : Int)) = true := by simp [hjn]
            have hjnI : (j : Int) = (n : Int) := by omega
            clear hjn
            go_wp2
            go_roundg (c - (k + 1))
            case rel => exact ⟨k + 1, by omega, rfl, by go_num, by rw [HN.out, HEQ.out], by rw [HN.out, HEQ.out], by rw [HN.out, HEQ.out]; exact HS⟩
            case measure => omega
      · obtain rfl : k = c := by omega
        have HA := HS.out.a
        have HT := HS.out.t
        obtain ⟨hax0, hax1, haxf0, haxf1, haxs⟩ := HS.out.xa.two
        obtain ⟨htx0, htx1, htxf0, htxf1, htxs⟩ := HS.out.xb.two
        obtain ⟨hr10, hr11, hr1f0, hr1f1, hr1s⟩ := HS.out.r1.two
        obtain ⟨hr20, hr21, hr2f0, hr2f1, hr2s⟩ := HS.out.r2.two
        have HA2 := Lib.hid HA
        have HT2 := Lib.hid HT
        clear HA HT
        have hb1 : ¬ bb = w.heap.size + 1 := by have := HS.out.hb; omega
        have hb2 : ¬ bb = w.heap.size + 1 + 1 := by have := HS.out.hb; omega
        have ha1 : ¬ ba = w.heap.size + 1 := by have := HS.out.ha; omega
        have ha2 : ¬ ba = w.heap.size + 1 + 1 := by have := HS.out.ha; omega
        go_wp2
        go_region
        all_goals go_wp2
        all_goals refine bodyPost_ret (v := .tuple #[.agg #[.int .i64 k, .slice A1 n ca], .agg #[.int .i64 n, .slice A2 n cb], .int .i64 (red p a (idRows n) k).lead.length, .int .i64 (red p a (idRows n) k).det]) (by simp [results, Tryd.results91, go_sem, hr10, hr11, hr20, hr21]) rfl ?_
        all_goals exact ⟨_, _, Sa, St, rfl, by refine Below.trans HS.out.below ?_; repeat' (first | exact Below.refl _ _ | apply Below.drew | apply Below.setCell | (simp; done) | (simp; omega)), OwG.drew (HA2.out.blocks fun q hq _ => by have h7 := HS.out.sa q hq; rw [blk_setCell_other _ _ _ _ (by dsimp only; omega), blk_setCell_other _ _ _ _ (by dsimp only; omega), blk_setCell_other _ _ _ _ (by dsimp only; omega), blk_setCell_other _ _ _ _ (by dsimp only; omega)]), OwG.drew (HT2.out.blocks fun q hq _ => by have h7 := HS.out.st q hq; rw [blk_setCell_other _ _ _ _ (by dsimp only; omega), blk_setCell_other _ _ _ _ (by dsimp only; omega), blk_setCell_other _ _ _ _ (by dsimp only; omega), blk_setCell_other _ _ _ _ (by dsimp only; omega)]), fun q hq => ⟨by have := (HS.out.sa q hq).1; omega, (HS.out.sa q hq).2.2.2.1⟩, fun q hq => by have := (HS.out.st q hq).1; omega⟩
end Go.Proofs.YtiiloioobmkicaaDoor
