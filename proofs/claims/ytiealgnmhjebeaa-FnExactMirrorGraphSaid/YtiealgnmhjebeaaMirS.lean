/- MirrorGraph: the model. -/
import Derived.Test.YtiealgnmhjebeaaEdS
import Derived.Test.YtiealgnmhjebeaaMirG
import Derived.Test.YtiealgnmhjebeaaMiK
import Derived.Deep.RegionHeld3
namespace Go.Proofs.Ytiealgnmhjebeaa
set_option maxRecDepth 100000
open Go Go.RowKit Go.Deep

theorem mirEs_take {es : List Ed} {k : Nat} (h : k < es.length) : mirEs (es.take (k + 1)) = mirEs (es.take k) ++ [mirE (es.getD k ed0)] := by
  have e : es.take (k + 1) = es.take k ++ [es.getD k ed0] := by
    rw [List.take_add_one, List.getD_eq_getElem?_getD, List.getElem?_eq_getElem h]
    rfl
  unfold mirEs
  rw [e, List.map_append]
  rfl
set_option maxRecDepth 100000 in
set_option maxHeartbeats 12800000 in
theorem hgMirror_any (w : World) (B : Nat) (uE uI uO : Value) (n : Int) (es : List Ed) (xi xo : List Int) (hE : LfE w B uE es) (hI : LfR w B uI xi) (hO : LfR w B uO xo) (hB : B ≤ w.heap.size) (hv : validB n es xi xo = true) :
    Calls Try.prog 54 #[.agg #[.int .i64 n, uE, uI, uO]] w fun e w' => ∃ v1 v2 v3, e = .returned (.agg #[.int .i64 n, v1, v2, v3]) ∧ Below w.heap.size w w' ∧ OwnE w' (fun q => w.heap.size ≤ q) v1 (mirEs es) ∧ OwnR w' (fun q => w.heap.size ≤ q) v2 xo ∧ OwnR w' (fun q => w.heap.size ≤ q) v3 xi := by
  obtain ⟨q1, q2, q3, q4, q5⟩ := valid_small hv
  have HKK := Lib.hid (show ∀ k, k < es.length → 3 ≤ (es.getD k ed0).k ∧ (es.getD k ed0).k ≤ 14 from fun k hk => by
    have := (valid_iff.1 hv).2.1
    rw [List.any_eq_false] at this
    have := this (es.getD k ed0) (getD_mem' hk ed0)
    have hp := (edP_iff _).1 (by simpa using this)
    exact ⟨hp.1, hp.2.1⟩)
  have HQ5 := Lib.hid q5
  have HQ4 := Lib.hid (show cntE (mirEs es) ≤ 1099511627776 from by have := (valid_small (mir_valid hv)).2.2.2.1; omega)
  have HE := Lib.hid hE.1
  have HI := Lib.hid hI.1
  have HO := Lib.hid hO.1
  have HB := Lib.hid hB
  obtain ⟨AE, cE, rfl⟩ := hE.len
  obtain ⟨AI, cI, rfl⟩ := hI.len
  obtain ⟨AO, cO, rfl⟩ := hO.len
  clear hE hI hO hB hv q5 q4
  go_enter Try.func54, Try.ntmps54
  go_wp2
  obtain ⟨W, HW⟩ : ∃ W, W = (w.alloc (.cells #[.int .i64 n, .slice AE es.length cE, .slice AI xi.length cI, .slice AO xo.length cO] 42)).alloc (.cells #[.int .i64 0, .slice none 0 0, .slice none 0 0, .slice none 0 0] 42) := ⟨_, rfl⟩
  rw [← HW]
  have HWS := Lib.hid (show W.heap.size = w.heap.size + 2 from by rw [HW]; simp)
  have HWB := Lib.hid (show Below w.heap.size w W from by rw [HW]; exact ((Below.refl _ _).alloc (Nat.le_refl _) _).alloc (by simp) _)
  have HWG := Lib.hid (show W.heap[w.heap.size]? = some (.cells #[.int .i64 n, .slice AE es.length cE, .slice AI xi.length cI, .slice AO xo.length cO] 42 (0, 0)) from by rw [HW]; exact (blk_alloc_lt _ _ _ (by simp)).trans (blk_alloc_new w _))
  have HWR := Lib.hid (show W.heap[w.heap.size + 1]? = some (.cells #[.int .i64 0, .slice none 0 0, .slice none 0 0, .slice none 0 0] 42 (0, 0)) from by rw [HW]; have := blk_alloc_new (w.alloc (.cells #[.int .i64 n, .slice AE es.length cE, .slice AI xi.length cI, .slice AO xo.length cO] 42)) (.cells #[.int .i64 0, .slice none 0 0, .slice none 0 0, .slice none 0 0] 42); simpa using this)
  clear HW
  have HELD : Hid (∀ w' : World, Below W.heap.size W w' → w'.cell? ⟨w.heap.size, 0, none⟩ = some (.int .i64 n) ∧ w'.cell? ⟨w.heap.size, 1, none⟩ = some (.slice AE es.length cE) ∧ w'.cell? ⟨w.heap.size, 2, none⟩ = some (.slice AI xi.length cI) ∧ w'.cell? ⟨w.heap.size, 3, none⟩ = some (.slice AO xo.length cO)) := Lib.hid (fun w' h => by
    have hb := (h.block w.heap.size (by rw [HWS.out]; omega)).trans HWG.out
    exact ⟨box_cell hb 0, box_cell hb 1, box_cell hb 2, box_cell hb 3⟩)
  have HOA := Lib.hid (fun (w' : World) (h : Below W.heap.size W w') => l1Own_app w' B (.slice AO xo.length cO) xo ((HO.out.below HWB.out HB.out).below h (by have := HB.out; have := HWB.out.size; omega)) (by have := HB.out; have := HWB.out.size; have := h.size; omega) (by omega))
  have HOB := Lib.hid (fun (w' : World) (h : Below W.heap.size W w') => l1Own_app w' B (.slice AI xi.length cI) xi ((HI.out.below HWB.out HB.out).below h (by have := HB.out; have := HWB.out.size; omega)) (by have := HB.out; have := HWB.out.size; have := h.size; omega) (by omega))
  have HD0 := Lib.hid (HELD.out W.drew (Below.refl _ _).drew)
  go_region_held3 (fun w' => w'.cell? ⟨w.heap.size, 0, none⟩ = some (.int .i64 n) ∧ w'.cell? ⟨w.heap.size, 1, none⟩ = some (.slice AE es.length cE) ∧ w'.cell? ⟨w.heap.size, 2, none⟩ = some (.slice AI xi.length cI) ∧ w'.cell? ⟨w.heap.size, 3, none⟩ = some (.slice AO xo.length cO))
    (first
      | with_reducible exact HD0.out
      | with_reducible exact HD1.out
      | with_reducible exact HD2.out
      | (exact HELD.out _ (by repeat' (first | exact HB4.out | exact HB3.out | exact Below.refl _ _ | apply Below.drew | apply Below.setCell | apply Below.alloc | (simp; done) | omega | (simp; omega))))
      | fail)
    (first
      | (go_at_call 88; go_split_ands; refine (HOA.out _ ?_).mono ?_; (· repeat' (first | exact Below.refl _ _ | apply Below.drew | apply Below.alloc | (simp; done) | omega | (simp; omega))); rintro e w3 ⟨v3, rfl, b3, o3⟩; obtain ⟨A3, c3, rfl⟩ := (RowA.own o3).len; have HB3 : Hid (Below W.heap.size W w3) := Lib.hid (Below.trans (by repeat' (first | exact Below.refl _ _ | apply Below.drew | apply Below.alloc | (simp; done) | omega | (simp; omega))) (b3.mono (by first | exact Nat.le_refl _ | (simp; done) | (simp; omega)))); have HD1 := Lib.hid (HELD.out w3 HB3.out); have HO3 := Lib.hid ((RowA.own o3).mono (T := fun q => W.heap.size ≤ q) (fun q hq _ => by have hq2 := hq; simp at hq2; show W.heap.size ≤ q; omega)); have hs3 := HB3.out.size; (try have HZ3 : CellsAt w3 W.heap.size 42 [.int .i64 0, .slice none 0 0, .slice none 0 0, .slice none 0 0] := (cellsAt_new W #[.int .i64 0, .slice none 0 0, .slice none 0 0, .slice none 0 0] 42).of_block (b3.block W.heap.size (by simp))); clear b3 o3)
      | (go_at_call 88; go_split_ands; refine (HOB.out _ ?_).mono ?_; (· repeat' (first | exact HB3.out | apply Below.drew | apply Below.alloc | (simp; done) | omega | (simp; omega))); rintro e w4 ⟨v4, rfl, b4, o4⟩; obtain ⟨A4, c4, rfl⟩ := (RowA.own o4).len; have HB4 : Hid (Below W.heap.size W w4) := Lib.hid (Below.trans (by repeat' (first | exact HB3.out | apply Below.drew | apply Below.alloc | (simp; done) | omega | (simp; omega))) (b4.mono (by first | exact hs3 | (simp; done) | (simp; omega)))); have HD2 := Lib.hid (HELD.out w4 HB4.out); have HO4 := Lib.hid ((RowA.own o4).mono (T := fun q => w3.heap.size ≤ q) (fun q hq _ => by first | exact hq | (have hq2 := hq; simp at hq2; omega))); have hs4 : w3.heap.size ≤ w4.heap.size := (by first | exact b4.size | exact Nat.le_trans (by simp) b4.size); have HO5 := Lib.hid (OwR.blocks (w' := w4) (HO3.out.mono (T := fun q => W.heap.size ≤ q ∧ q < w3.heap.size) (fun q hq hl => ⟨hq, hl⟩)) (fun q hq hl _ _ => (b4.block q (by first | exact hl | (simp; omega))).trans (by first | rfl | exact blk_alloc_lt _ _ _ hl))); (try have HZ4 : CellsAt w4 W.heap.size 42 [.int .i64 0, .slice none 0 0, .slice none 0 0, .slice none 0 0] := HZ3.of_block (b4.block W.heap.size HZ3.lt)); (try have HZ5 : CellsAt w4 w3.heap.size 42 [.int .i64 0, .slice none 0 0, .slice none 0 0, .slice none 0 0] := (cellsAt_new w3 #[.int .i64 0, .slice none 0 0, .slice none 0 0, .slice none 0 0] 42).of_block (b4.block w3.heap.size (by simp))); (try obtain ⟨hz0, hz1, hz2, hz3, hz4⟩ := HZ4.four); (try obtain ⟨hy0, hy1, hy2, hy3, hy4⟩ := HZ5.four); (try have hzf := HZ4.frozen); (try have hyf := HZ5.frozen); clear b4 o4))
  all_goals
    have hobs : W.heap.size ≤ w3.heap.size ∧ w3.heap.size ≤ w4.heap.size := ⟨HB3.out.size, hs4⟩
    first
      | (obtain ⟨ob, hob⟩ : ∃ ob, ob = W.heap.size := ⟨_, rfl⟩
         have hz := HZ4
         rw [← hob] at hz ⊢
         have HRS := Lib.hid (mir_setup (W := W) (n := n) hz HB4.out (by omega) (HO5.out.mono (T := fun q => W.heap.size ≤ q) (fun q hq _ => hq.1)) (HO4.out.mono (T := fun q => W.heap.size ≤ q) (fun q hq _ => by have := HB3.out.size; omega)))
         obtain ⟨w5, hw5⟩ : ∃ x, x = ((((w4.setCell ⟨ob, 0, none⟩ (.int .i64 n)).setCell ⟨ob, 1, none⟩ (.slice none 0 0)).setCell ⟨ob, 2, none⟩ (.slice A3 xo.length c3)).setCell ⟨ob, 3, none⟩ (.slice A4 xi.length c4)) := ⟨_, rfl⟩
         rw [← hw5]
         rw [← hw5] at HRS
         obtain ⟨HC5, HB5, HR3, HR4⟩ := HRS.out
         have hobW : W.heap.size ≤ ob := by omega
         clear HRS hw5 hz hob)
      | (obtain ⟨ob, hob⟩ : ∃ ob, ob = w3.heap.size := ⟨_, rfl⟩
         have hz := HZ5
         rw [← hob] at hz ⊢
         have HRS := Lib.hid (mir_setup (W := W) (n := n) hz HB4.out (by omega) (HO5.out.mono (T := fun q => W.heap.size ≤ q) (fun q hq _ => hq.1)) (HO4.out.mono (T := fun q => W.heap.size ≤ q) (fun q hq _ => by have := HB3.out.size; omega)))
         obtain ⟨w5, hw5⟩ : ∃ x, x = ((((w4.setCell ⟨ob, 0, none⟩ (.int .i64 n)).setCell ⟨ob, 1, none⟩ (.slice none 0 0)).setCell ⟨ob, 2, none⟩ (.slice A3 xo.length c3)).setCell ⟨ob, 3, none⟩ (.slice A4 xi.length c4)) := ⟨_, rfl⟩
         rw [← hw5]
         rw [← hw5] at HRS
         obtain ⟨HC5, HB5, HR3, HR4⟩ := HRS.out
         have hobW : W.heap.size ≤ ob := by omega
         clear HRS hw5 hz hob)
      | (obtain ⟨ob, hob⟩ : ∃ ob, ob = w4.heap.size := ⟨_, rfl⟩
         have HRS := Lib.hid (mir_setup2 (W := W) (n := n) hob HB4.out (HO5.out.mono (T := fun q => W.heap.size ≤ q) (fun q hq _ => hq.1)) (HO4.out.mono (T := fun q => W.heap.size ≤ q) (fun q hq _ => by have := HB3.out.size; omega)))
         rw [← hob]
         obtain ⟨w5, hw5⟩ : ∃ x, x = w4.alloc (.cells #[.int .i64 n, .slice none 0 0, .slice A3 xo.length c3, .slice A4 xi.length c4] 42) := ⟨_, rfl⟩
         rw [← hw5]
         rw [← hw5] at HRS
         obtain ⟨HC5, HB5, HR3, HR4⟩ := HRS.out
         have hobW : W.heap.size ≤ ob := by omega
         clear HRS hw5 hob)
  all_goals
    have hx5 : w5.cell? ⟨w.heap.size, 1, none⟩ = some (.slice AE es.length cE) := (HELD.out w5 HB5.out).2.1
    clear HO3 HO4 HO5 HD0 HD1 HD2 HB3 HB4
    go_wp2
    go_loopw [18] (fun i wr => ∃ (k : Nat) (v : Value) (vs : Nat → Value), k ≤ es.length ∧ i = .int .i64 k ∧ Hid (Touch (fun q => q = ob) w5 wr) ∧ Hid (CellsAt wr ob 42 [.int .i64 n, v, .slice A3 xo.length c3, .slice A4 xi.length c4]) ∧ Hid (EdA wr (fun q => w5.heap.size ≤ q ∧ q < wr.heap.size) v (mirEs (es.take k)) vs)) (fun i _ => es.length - (intOf i).toNat)
    case atStart => exact ⟨0, _, fun _ => .nilFunc, Nat.zero_le _, rfl, Lib.hid (Touch.refl _ _), HC5, Lib.hid (EdA.nil _ _ _)⟩
    case round =>
      obtain ⟨k, v, vs, hk, rfl, HT, HCB, HED⟩ := hrel
      have hos := HCB.out.lt
      have hob5 := HC5.out.lt
      have hz5 := HT.out.size
      have HBW := Lib.hid (show Below w.heap.size w wr from (HWB.out.trans (HB5.out.mono HWB.out.size)).trans (HT.out.below (by have := HB5.out.size; have := HWB.out.size; omega) (fun q hq => by rw [hq]; have := HWS.out; omega)))
      obtain ⟨hb0, hb1, hb2, hb3, -⟩ := HCB.out.four
      have hbf := HCB.out.frozen
      by_cases hlt : k < es.length
      · obtain ⟨b, o, A1, c1, A2, c2, rfl, hb, hc0, hc1, hc2, hc3, r1, r2⟩ := (HE.out.below HBW.out HB.out).at hlt
        have HTK := Lib.hid (mirEs_take hlt)
        obtain ⟨s1, s2⟩ := HQ5.out k hlt
        obtain ⟨t1, t2⟩ := HKK.out k hlt
        have hml : (mirEs (es.take k)).length + 1 ≤ 1000000 := by rw [mirEs_len, List.length_take]; omega
        generalize es.getD k ed0 = ed at hc0 hc1 hc2 hc3 r1 r2 HTK s1 s2 t1 t2
        generalize mirEs (es.take k) = ms at HED HTK hml
        have HR1 := Lib.hid r1
        have HR2 := Lib.hid r2
        clear r1 r2
        obtain ⟨Av, cv, rfl⟩ := HED.out.form
        have hkI : (k : Int) < (es.length : Int) := by omega
        go_wp2
        obtain ⟨WE, HWEQ⟩ : ∃ x, x = wr.alloc (.cells #[.int .i64 ed.k, .int .i64 ed.v, .slice A1 ed.i.length c1, .slice A2 ed.o.length c2] 116) := ⟨_, rfl⟩
        rw [← HWEQ]
        have HEB := Lib.hid (show Below wr.heap.size wr WE from by rw [HWEQ]; exact (Below.refl _ _).alloc (Nat.le_refl _) _)
        have HES := Lib.hid (show WE.heap.size = wr.heap.size + 1 from by rw [HWEQ]; simp)
        have HEE := Lib.hid (show WE.heap[wr.heap.size]? = some (.cells #[.int .i64 ed.k, .int .i64 ed.v, .slice A1 ed.i.length c1, .slice A2 ed.o.length c2] 116 (0, 0)) from by rw [HWEQ]; exact blk_alloc_new _ _)
        clear HWEQ hc0 hc1 hc2 hc3
        have HLD : Hid (∀ w' : World, w'.heap[wr.heap.size]? = WE.heap[wr.heap.size]? → w'.cell? ⟨wr.heap.size, 0, none⟩ = some (.int .i64 ed.k) ∧ w'.cell? ⟨wr.heap.size, 1, none⟩ = some (.int .i64 ed.v) ∧ w'.cell? ⟨wr.heap.size, 2, none⟩ = some (.slice A1 ed.i.length c1) ∧ w'.cell? ⟨wr.heap.size, 3, none⟩ = some (.slice A2 ed.o.length c2)) := Lib.hid (fun w' h => by
          have hb := h.trans HEE.out
          exact ⟨box_cell hb 0, box_cell hb 1, box_cell hb 2, box_cell hb 3⟩)
        have HOBX : Hid (∀ w' : World, Below WE.heap.size WE w' → CellsAt w' ob 42 [.int .i64 n, .slice Av ms.length cv, .slice A3 xo.length c3, .slice A4 xi.length c4]) := Lib.hid (fun w' h => (HCB.out.below HEB.out hos).below h (by rw [HES.out]; omega))
        have HEDX : Hid (∀ w' : World, Below WE.heap.size WE w' → EdA w' (fun q => w5.heap.size ≤ q ∧ q < wr.heap.size) (.slice Av ms.length cv) ms vs) := Lib.hid (fun w' h => HED.out.blocks fun q hq hl => (h.block q (by rw [HES.out]; omega)).trans (HEB.out.block q hl))
        obtain ⟨hb0, hb1, hb2, hb3, -⟩ := (HOBX.out WE (Below.refl _ _)).four
        have hbf := (HOBX.out WE (Below.refl _ _)).frozen
        have HMK := Lib.hid (tmMirrorKind_any WE.drew ed.k (by omega) t2)
        have HLA := Lib.hid (fun (w' : World) (h : Below WE.heap.size WE w') => l1Own_app w' B (.slice A2 ed.o.length c2) ed.o ((HR2.out.below HEB.out (by have := HB.out; have := HBW.out.size; omega)).below h (by have := HB.out; have := HBW.out.size; have := HEB.out.size; omega)) (by have := HB.out; have := HBW.out.size; have := HEB.out.size; have := h.size; omega) (by omega))
        have HLB := Lib.hid (fun (w' : World) (h : Below WE.heap.size WE w') => l1Own_app w' B (.slice A1 ed.i.length c1) ed.i ((HR1.out.below HEB.out (by have := HB.out; have := HBW.out.size; omega)).below h (by have := HB.out; have := HBW.out.size; have := HEB.out.size; omega)) (by have := HB.out; have := HBW.out.size; have := HEB.out.size; have := h.size; omega) (by omega))
        have HS : Hid (∀ w' : World, Below WE.heap.size WE w' → (fun w' => w'.cell? ⟨wr.heap.size, 0, none⟩ = some (.int .i64 ed.k) ∧ w'.cell? ⟨wr.heap.size, 1, none⟩ = some (.int .i64 ed.v) ∧ w'.cell? ⟨wr.heap.size, 2, none⟩ = some (.slice A1 ed.i.length c1) ∧ w'.cell? ⟨wr.heap.size, 3, none⟩ = some (.slice A2 ed.o.length c2) ∧ w'.cell? ⟨ob, 1, none⟩ = some (.slice Av ms.length cv)) w') := Lib.hid (fun w' h => by
          have h1 := HLD.out w' (h.block _ (by rw [HES.out]; omega))
          exact ⟨h1.1, h1.2.1, h1.2.2.1, h1.2.2.2, (HOBX.out w' h).four.2.1⟩)
        refine wp_region_last (fun w' => w'.cell? ⟨wr.heap.size, 0, none⟩ = some (.int .i64 ed.k) ∧ w'.cell? ⟨wr.heap.size, 1, none⟩ = some (.int .i64 ed.v) ∧ w'.cell? ⟨wr.heap.size, 2, none⟩ = some (.slice A1 ed.i.length c1) ∧ w'.cell? ⟨wr.heap.size, 3, none⟩ = some (.slice A2 ed.o.length c2) ∧ w'.cell? ⟨ob, 1, none⟩ = some (.slice Av ms.length cv)) 17 (by kernel_rfl) (HS.out _ (Below.refl _ _).drew) (fun hHeld => ?_)
        refine wpAnyL_take (i := 0) (v := ?_) rfl (by kernel_rfl) (by kernel_rfl) (fun _ _ _ h => h) (by assumption) (by rfl) ?_ ?_
        rotate_left
        · (intro w hSw; (try dsimp only at hSw); go_simp; (try with_reducible rfl))
        (try simp only [Act.put, List.setIfInBounds_toArray])
        refine wpAnyL_take (i := 1) (v := ?_) rfl (by kernel_rfl) (by kernel_rfl) (fun _ _ _ h => h) (by assumption) (by rfl) ?_ ?_
        rotate_left
        · (intro w hSw; (try dsimp only at hSw); go_simp; (try with_reducible rfl))
        (try simp only [Act.put])
        refine wpAnyL_take (i := 2) (v := ?_) rfl (by kernel_rfl) (by kernel_rfl) (fun _ _ _ h => h) (by assumption) (by rfl) ?_ ?_
        rotate_left
        · (intro w hSw; (try dsimp only at hSw); go_simp; (try with_reducible rfl))
        (try simp only [Act.put])
        refine wpAnyL_take (i := 3) (v := ?_) rfl (by kernel_rfl) (by kernel_rfl) (fun _ _ _ h => h) (by assumption) (by rfl) ?_ ?_
        rotate_left
        · (intro w hSw; (try dsimp only at hSw); go_simp; (try with_reducible rfl))
        (try simp only [Act.put])
        refine wpAnyL_take (i := 5) (v := ?_) rfl (by kernel_rfl) (by kernel_rfl) (fun _ _ _ h => h) (by assumption) (by rfl) ?_ ?_
        rotate_left
        · (intro w hSw; (try dsimp only at hSw); go_simp; (try with_reducible rfl))
        (try simp only [Act.put])
        refine wpAnyL_take (i := 6) (v := ?_) rfl (by kernel_rfl) (by kernel_rfl) (fun _ _ _ h => h) (by assumption) (by rfl) ?_ ?_
        rotate_left
        · (intro w hSw; (try dsimp only at hSw); go_simp; (try with_reducible rfl))
        (try simp only [Act.put])
        refine wpAnyL_take (i := 7) (v := ?_) rfl (by kernel_rfl) (by kernel_rfl) (fun _ _ _ h => h) (by assumption) (by rfl) ?_ ?_
        rotate_left
        · (intro w hSw; (try dsimp only at hSw); go_simp; (try with_reducible rfl))
        (try simp only [Act.put])
        refine wpAnyL_take (i := 8) (v := ?_) rfl (by kernel_rfl) (by kernel_rfl) (fun _ _ _ h => h) (by assumption) (by rfl) ?_ ?_
        rotate_left
        · (intro w hSw; (try dsimp only at hSw); go_simp; (try with_reducible rfl))
        (try simp only [Act.put])
        refine wpAnyL_take (i := 10) (v := ?_) rfl (by kernel_rfl) (by kernel_rfl) (fun _ _ _ h => h) (by assumption) (by rfl) ?_ ?_
        rotate_left
        · (intro w hSw; (try dsimp only at hSw); go_simp; (try with_reducible rfl))
        (try simp only [Act.put])
        refine wpAnyL_take (i := 11) (v := ?_) rfl (by kernel_rfl) (by kernel_rfl) (fun _ _ _ h => h) (by assumption) (by rfl) ?_ ?_
        rotate_left
        · (intro w hSw; (try dsimp only at hSw); go_simp; (try with_reducible rfl))
        (try simp only [Act.put])
        refine wpAnyL_one (i := 4) (by kernel_rfl) rfl (fun K' hK => ?_)
        go_simp
        go_at_call 67
        refine HMK.out.mono ?_
        rintro e w3b ⟨rfl, rfl⟩
        go_simp
        refine hK.out _ _ hHeld (fun hHeld => ?_)
        clear hK K'
        (try simp only [Act.put, List.setIfInBounds_toArray, List.set_cons_zero, List.set_cons_succ])
        refine wpAnyL_one (i := 9) (by kernel_rfl) rfl (fun K' hK => ?_)
        go_simp
        go_at_call 88
        refine (HLA.out WE.drew (Below.refl _ _).drew).mono ?_
        rintro e w6 ⟨v6, rfl, b6, o6⟩
        obtain ⟨A6, c6, rfl⟩ := (RowA.own o6).len
        have HB6 : Hid (Below WE.heap.size WE w6) := Lib.hid ((Below.refl _ _).drew.trans b6)
        have HO6 := Lib.hid ((RowA.own o6).mono (T := fun q => WE.heap.size ≤ q) (fun q hq _ => hq))
        clear b6 o6
        go_simp
        refine hK.out _ _ (HS.out _ HB6.out) (fun hHeld => ?_)
        clear hK K'
        (try simp only [Act.put, List.setIfInBounds_toArray, List.set_cons_zero, List.set_cons_succ])
        refine wpAnyL_one (i := 12) (by kernel_rfl) rfl (fun K' hK => ?_)
        go_simp
        go_at_call 88
        refine (HLB.out w6 HB6.out).mono ?_
        rintro e w7 ⟨v7, rfl, b7, o7⟩
        obtain ⟨A7, c7, rfl⟩ := (RowA.own o7).len
        have HB7 : Hid (Below WE.heap.size WE w7) := Lib.hid (HB6.out.trans (b7.mono HB6.out.size))
        have HO7 := Lib.hid (RowA.own o7)
        have hs7 : w6.heap.size ≤ w7.heap.size := b7.size
        have HO8 := Lib.hid ((HO6.out.mono (T := fun q => WE.heap.size ≤ q ∧ q < w6.heap.size) (fun q hq hl => ⟨hq, hl⟩)).blocks (w' := w7) (fun q hq hl _ _ => b7.block q hl))
        clear b7 o7
        go_simp
        refine hK.out _ _ (HS.out _ HB7.out) (fun hHeld => ?_)
        clear hK K'
        (try simp only [Act.put, List.setIfInBounds_toArray, List.set_cons_zero, List.set_cons_succ])
        refine wpAnyL_take (i := 13) (v := ?_) rfl (by kernel_rfl) (by kernel_rfl) (fun _ _ _ h => h) (by assumption) (by rfl) ?_ ?_
        rotate_left
        · (intro w hSw; (try dsimp only at hSw); go_simp; (try with_reducible rfl))
        (try simp only [Act.put, List.setIfInBounds_toArray])
        clear hHeld
        refine wpAnyL_one (i := 14) (by kernel_rfl) rfl (fun K' hK => ?_)
        go_simp
        refine hK.out _ _ (HS.out _ (by repeat' (first | exact HB7.out | apply Below.drew | exact Below.alloc HB7.out HB7.out.size _))) (fun hHeld => ?_)
        clear hK K'
        (try simp only [Act.put, List.setIfInBounds_toArray, List.set_cons_zero, List.set_cons_succ])
        obtain ⟨w7b, HW7⟩ : ∃ x, x = w7.alloc (.cells #[.int .i64 (mirK ed.k), .int .i64 ed.v, .slice A6 ed.o.length c6, .slice A7 ed.i.length c7] 116) := ⟨_, rfl⟩
        rw [← HW7] at hHeld ⊢
        have HB7b := Lib.hid (show Below w7.heap.size w7 w7b from by rw [HW7]; exact (Below.refl _ _).alloc (Nat.le_refl _) _)
        have HX7 := Lib.hid (show w7b.cell? ⟨w7.heap.size, 0, none⟩ = some (.int .i64 (mirK ed.k)) ∧ w7b.cell? ⟨w7.heap.size, 1, none⟩ = some (.int .i64 ed.v) ∧ w7b.cell? ⟨w7.heap.size, 2, none⟩ = some (.slice A6 ed.o.length c6) ∧ w7b.cell? ⟨w7.heap.size, 3, none⟩ = some (.slice A7 ed.i.length c7) from by rw [HW7]; have hb := blk_alloc_new w7 (.cells #[.int .i64 (mirK ed.k), .int .i64 ed.v, .slice A6 ed.o.length c6, .slice A7 ed.i.length c7] 116); exact ⟨box_cell hb 0, box_cell hb 1, box_cell hb 2, box_cell hb 3⟩)
        have HS7 := Lib.hid (show w7b.heap.size = w7.heap.size + 1 from by rw [HW7]; simp)
        clear HW7
        have HE7 := Lib.hid ((HEDX.out w7 HB7.out).blocks (w' := w7b) (fun q _ hl => HB7b.out.block q hl))
        refine wpAnyL_one (i := 15) (by kernel_rfl) rfl (fun K' hK => ?_)
        refine step_pushE (by rfl) _ _ (by rfl) w7b (.slice Av ms.length cv) ms vs w7.heap.size 1 (mirK ed.k) ed.v A6 ed.o.length c6 A7 ed.i.length c7 (by rfl) HE7.out.outer (by rfl) HX7.out hml ?_
        intro g8 cap8 w8 hown8 hgr8 hat8 hlt8
        have HN8 := Lib.hid (And.intro hown8 (And.intro hgr8 hat8))
        have HV8 := Lib.hid (show ∀ q, (Value.slice Av ms.length cv).ownBlock = some q → w5.heap.size ≤ q ∧ q < wr.heap.size from fun q hq => HE7.out.inS q hq)
        clear hown8 hgr8 hat8
        have HK8 : Hid (∀ q, q < w7b.heap.size → (q < w5.heap.size ∨ wr.heap.size ≤ q) → w8.heap[q]? = w7b.heap[q]?) := Lib.hid (fun q hq hor => HN8.out.2.1.block q hq (fun e => by have := HV8.out q e.symm; omega))
        have HC8 := Lib.hid (((HOBX.out w7 HB7.out).below HB7b.out (HOBX.out w7 HB7.out).lt).of_block (HK8.out ob (by have := HB7.out.size; have := HES.out; have := HS7.out; omega) (Or.inl hob5)))
        have HS8 := Lib.hid (show w8.cell? ⟨wr.heap.size, 0, none⟩ = some (.int .i64 ed.k) ∧ w8.cell? ⟨wr.heap.size, 1, none⟩ = some (.int .i64 ed.v) ∧ w8.cell? ⟨wr.heap.size, 2, none⟩ = some (.slice A1 ed.i.length c1) ∧ w8.cell? ⟨wr.heap.size, 3, none⟩ = some (.slice A2 ed.o.length c2) ∧ w8.cell? ⟨ob, 1, none⟩ = some (.slice Av ms.length cv) from by
          have h1 := HLD.out w8 ((HK8.out _ (by have := HB7.out.size; have := HES.out; have := HS7.out; omega) (Or.inr (Nat.le_refl _))).trans ((HB7b.out.block _ (by have := HB7.out.size; have := HES.out; omega)).trans (HB7.out.block _ (by have := HES.out; omega))))
          exact ⟨h1.1, h1.2.1, h1.2.2.1, h1.2.2.2, HC8.out.four.2.1⟩)
        refine hK.out _ _ HS8.out (fun hHeld => ?_)
        clear hK K'
        (try simp only [Act.put, List.setIfInBounds_toArray])
        refine wpAnyL_take (i := 16) (v := ?_) rfl (by kernel_rfl) (by kernel_rfl) (fun _ _ _ h => h) (by assumption) (by rfl) ?_ ?_
        rotate_left
        · (intro w hSw; (try dsimp only at hSw); go_simp; (try with_reducible rfl))
        (try simp only [Act.put])
        have hf8 := HC8.out.frozen
        refine wpAnyL_last (by kernel_rfl) (by kernel_rfl) rfl (fun K' hK => ?_)
        go_simp
        refine hK.out _ _ ?_
        clear hK K'
        have HTT := Lib.hid ((touch_grows (((HT.out.trans (Touch.of_below HEB.out (fun q h1 h2 => absurd h2 (by omega)))).trans (Touch.of_below HB7.out (fun q h1 h2 => absurd h2 (by omega)))).trans (Touch.of_below HB7b.out (fun q h1 h2 => absurd h2 (by omega)))) HN8.out.2.1 (fun q hq => (HV8.out q hq).1)).setCell (p := ⟨ob, 1, none⟩) (Or.inl rfl) (.slice (some ⟨g8, 0, none⟩) (ms.length + 1) cap8))
        have HCC := Lib.hid (HC8.out.set 1 (.slice (some ⟨g8, 0, none⟩) (ms.length + 1) cap8))
        have HPP := Lib.hid (HE7.out.push (mirE ed) (u1 := .slice A6 ed.o.length c6) (u2 := .slice A7 ed.i.length c7) (T1 := fun q => WE.heap.size ≤ q ∧ q < w6.heap.size) (T2 := fun q => w6.heap.size ≤ q) (HO8.out.blocks (w' := w7b) (fun q _ hl _ _ => HB7b.out.block q hl)) (HO7.out.blocks (w' := w7b) (fun q _ hl _ _ => HB7b.out.block q hl))
          (fun q h1 h2 => by have := HES.out; omega) (fun q h1 h2 => by have := HES.out; have := HB6.out.size; omega) (fun q h1 h2 => by omega) HN8.out.1 HN8.out.2.1 HN8.out.2.2)
        have HEE2 := Lib.hid (show EdA (w8.setCell ⟨ob, 1, none⟩ (.slice (some ⟨g8, 0, none⟩) (ms.length + 1) cap8)) (fun q => w5.heap.size ≤ q ∧ q < (w8.setCell ⟨ob, 1, none⟩ (.slice (some ⟨g8, 0, none⟩) (ms.length + 1) cap8)).heap.size) (.slice (some ⟨g8, 0, none⟩) (ms.length + 1) cap8) (mirEs (es.take (k + 1))) (upV vs ms.length (.slice A6 ed.o.length c6) (.slice A7 ed.i.length c7)) from by
          rw [HTK.out]
          refine (HPP.out.mono (T := fun q => w5.heap.size ≤ q ∧ q < (w8.setCell ⟨ob, 1, none⟩ (.slice (some ⟨g8, 0, none⟩) (ms.length + 1) cap8)).heap.size) (fun q hq hl => ⟨?_, by simp; omega⟩)).blocks (fun q hq hl => blk_setCell_other _ _ _ _ (by dsimp only; omega))
          have := HES.out
          have := HB6.out.size
          have := HB7.out.size
          have := HS7.out
          omega)
        clear HPP HK8 HS8 HN8 HV8 HX7 HE7 HC8 HB7b hf8 HO8 HO7 HO6
        go_wp2
        go_roundw
        all_goals first
          | exact ⟨k + 1, _, _, by omega, by go_num, HTT, Lib.hid (HCC.out), HEE2⟩
          | (simp [intOf]; omega)
          | (trace_state; sorry)
      · have hke : k = es.length := by omega
        have hrb := (HT.out.block (w.heap.size + 1) (by have := HWS.out; have := HB5.out.size; omega) (by have := HWS.out; omega)).trans ((HB5.out.block (w.heap.size + 1) (by have := HWS.out; omega)).trans HWR.out)
        have hx0 := box_cell hrb 0
        have hx1 := box_cell hrb 1
        have hx2 := box_cell hrb 2
        have hx3 := box_cell hrb 3
        have hxf := box_free hrb
        simp at hx0 hx1 hx2 hx3
        have hrs : w.heap.size + 1 < wr.heap.size := by have := HWS.out; have := HB5.out.size; omega
        clear hrb
        have hnk : ¬ (k : Int) < (es.length : Int) := by omega
        rw [hke, List.take_length] at HED
        clear hke hlt
        obtain ⟨Av, cv, rfl⟩ := HED.out.form
        go_wp2
        have hw2 := HWS.out
        have h5s := HB5.out.size
        have HBF := Lib.hid (show Below w.heap.size w ((((wr.setCell ⟨w.heap.size + 1, 0, none⟩ (.int .i64 n)).setCell ⟨w.heap.size + 1, 1, none⟩ (.slice Av (mirEs es).length cv)).setCell ⟨w.heap.size + 1, 2, none⟩ (.slice A3 xo.length c3)).setCell ⟨w.heap.size + 1, 3, none⟩ (.slice A4 xi.length c4)) from by
          repeat' (first | exact HBW.out | apply Below.setCell | (simp; done)))
        refine bodyPost_ret (v := .agg #[.int .i64 n, .slice Av (mirEs es).length cv, .slice A3 xo.length c3, .slice A4 xi.length c4]) (by simp [results, Try.results54, go_sem, hx0, hx1, hx2, hx3]) rfl ?_
        refine ⟨_, _, _, rfl, HBF.out, ⟨?_, HQ4.out⟩, ⟨?_, by unfold szR; omega⟩, ⟨?_, by unfold szR; omega⟩⟩
        · exact ((HED.out.mono (T := fun q => w5.heap.size ≤ q) (fun q hq _ => hq.1)).blocks (fun q hq hl => by
            repeat rw [blk_setCell_other _ _ _ _ (by dsimp only; omega)])).toOwE.mono (fun q hq _ => by omega)
        · exact ((HR3.out.blocks (w' := wr) (fun q hq _ _ _ => HT.out.block q hq.2.2 hq.2.1)).mono (T := fun q => w.heap.size + 2 ≤ q) (fun q hq _ => by omega)).blocks (fun q hq hl _ _ => by
            repeat rw [blk_setCell_other _ _ _ _ (by dsimp only; omega)]) |>.mono (fun q hq _ => by omega)
        · exact ((HR4.out.blocks (w' := wr) (fun q hq _ _ _ => HT.out.block q hq.2.2 hq.2.1)).mono (T := fun q => w.heap.size + 2 ≤ q) (fun q hq _ => by omega)).blocks (fun q hq hl _ _ => by
            repeat rw [blk_setCell_other _ _ _ _ (by dsimp only; omega)]) |>.mono (fun q hq _ => by omega)
end Go.Proofs.Ytiealgnmhjebeaa
