/- HgM GlM HgG in one text. -/
import Derived.Test.YtdcgoeapgboclaaEdS
import Derived.Test.YtdcgoeapgboclaaGrI
import Derived.Deep.RegionHeld3
import Derived.Deep.Cut
import Derived.Test.YtdcgoeapgboclaaGrC
/-! A graph with each wire replaced: the model's hgMap. -/
namespace Go.Proofs.Ytdcgoeapgboclaa
set_option maxRecDepth 100000
open Go Go.RowKit Go.Deep

def mapE (tz : List Int) (e : Ed) : Ed := ⟨e.k, e.v, pickL e.i tz, pickL e.o tz⟩
def mapEs (tz : List Int) (es : List Ed) : List Ed := es.map (mapE tz)
theorem mapEs_len (tz : List Int) (es : List Ed) : (mapEs tz es).length = es.length := by simp [mapEs]
theorem mapEs_take {tz : List Int} {es : List Ed} {k : Nat} (h : k < es.length) : mapEs tz (es.take (k + 1)) = mapEs tz (es.take k) ++ [mapE tz (es.getD k ed0)] := by
  have e : es.take (k + 1) = es.take k ++ [es.getD k ed0] := by
    rw [List.take_add_one, List.getD_eq_getElem?_getD, List.getElem?_eq_getElem h]
    rfl
  unfold mapEs
  rw [e, List.map_append]
  rfl
theorem mapEs_cnt (tz : List Int) (es : List Ed) : cntE (mapEs tz es) = cntE es := by
  have h : sumE (mapEs tz es) = sumE es := by
    unfold sumE mapEs
    rw [List.map_map]
    congr 1
    exact List.map_congr_left fun e _ => by simp [mapE, wid, pickL_len]
  unfold cntE
  rw [h, mapEs_len]
/-- Each number of a list is an index of a list with N elements. -/
def inRg (N : Nat) (l : List Int) : Prop := ∀ k, k < l.length → 0 ≤ l.getD k 0 ∧ l.getD k 0 < N
/-- The box of a graph without edges yet, its two lists laid. -/
structure GrSt (W w : World) (ob : Nat) (m : Int) (v3 v4 : Value) (yi yo : List Int) : Prop where
  box : CellsAt w ob 29 [.int .i64 m, .slice none 0 0, v3, v4]
  bel : Below W.heap.size W w
  li : OwR w tI (fun q => W.heap.size ≤ q ∧ q ≠ ob ∧ q < w.heap.size) v3 yi
  lo : OwR w tI (fun q => W.heap.size ≤ q ∧ q ≠ ob ∧ q < w.heap.size) v4 yo
  new : W.heap.size ≤ ob
set_option maxRecDepth 100000 in
set_option maxHeartbeats 12800000 in
theorem hgMap_any (w : World) (B : Nat) (uE uI uO uT : Value) (n m : Int) (es : List Ed) (xi xo tz : List Int) (hE : LfE w B uE es) (hI : LfR w B uI xi) (hO : LfR w B uO xo) (hT : RdS w (fun q => q < B) uT tz) (hB : B ≤ w.heap.size)
    (hle : es.length ≤ 1000) (hli : xi.length ≤ 1000) (hlo : xo.length ≤ 1000) (hlr : ∀ k, k < es.length → (es.getD k ed0).i.length ≤ 1000 ∧ (es.getD k ed0).o.length ≤ 1000) (hcn : cntE es ≤ 1099511627776)
    (hai : inRg tz.length xi) (hao : inRg tz.length xo) (hae : ∀ k, k < es.length → inRg tz.length (es.getD k ed0).i ∧ inRg tz.length (es.getD k ed0).o) :
    Calls Try.prog 81 #[.agg #[.int .i64 n, uE, uI, uO], uT, .int .i64 m] w fun e w' => ∃ v1 v2 v3, e = .returned (.agg #[.int .i64 m, v1, v2, v3]) ∧ Below w.heap.size w w' ∧ OwnE w' (fun q => w.heap.size ≤ q) v1 (mapEs tz es) ∧ OwnR w' (fun q => w.heap.size ≤ q) v2 (pickL xi tz) ∧ OwnR w' (fun q => w.heap.size ≤ q) v3 (pickL xo tz) := by
  have HQ5 := Lib.hid hlr
  have HQ4 := Lib.hid (show cntE (mapEs tz es) ≤ 1099511627776 from by rw [mapEs_cnt]; exact hcn)
  have HE := Lib.hid hE.1
  have HI := Lib.hid hI.1
  have HO := Lib.hid hO.1
  have HT0 := Lib.hid hT
  have HB := Lib.hid hB
  have HAI := Lib.hid hai
  have HAO := Lib.hid hao
  have HAE := Lib.hid hae
  obtain ⟨AE, cE, rfl⟩ := hE.len
  obtain ⟨AI, cI, rfl⟩ := hI.len
  obtain ⟨AO, cO, rfl⟩ := hO.len
  obtain ⟨AT, cT, rfl⟩ := rdS_len hT
  obtain ⟨yi, HYIE⟩ : ∃ yi, Hid (yi = pickL xi tz) := ⟨_, Lib.hid rfl⟩
  obtain ⟨yo, HYOE⟩ : ∃ yo, Hid (yo = pickL xo tz) := ⟨_, Lib.hid rfl⟩
  rw [← HYIE.out, ← HYOE.out]
  have HYI : Hid (yi.length = xi.length) := Lib.hid (by rw [HYIE.out]; exact pickL_len _ _)
  have HYO : Hid (yo.length = xo.length) := Lib.hid (by rw [HYOE.out]; exact pickL_len _ _)
  clear hE hI hO hT hB hlr hcn hai hao hae
  go_enter Try.func81, Try.ntmps81
  go_wp2
  obtain ⟨W, HW⟩ : ∃ W, W = (w.alloc (.cells #[.int .i64 n, .slice AE es.length cE, .slice AI xi.length cI, .slice AO xo.length cO] 29)).alloc (.cells #[.int .i64 0, .slice none 0 0, .slice none 0 0, .slice none 0 0] 29) := ⟨_, rfl⟩
  rw [← HW]
  have HWS := Lib.hid (show W.heap.size = w.heap.size + 2 from by rw [HW]; simp)
  have HWB := Lib.hid (show Below w.heap.size w W from by rw [HW]; exact ((Below.refl _ _).alloc (Nat.le_refl _) _).alloc (by simp) _)
  have HWG := Lib.hid (show W.heap[w.heap.size]? = some (.cells #[.int .i64 n, .slice AE es.length cE, .slice AI xi.length cI, .slice AO xo.length cO] 29 (0, 0)) from by rw [HW]; exact (blk_alloc_lt _ _ _ (by simp)).trans (blk_alloc_new w _))
  have HWR := Lib.hid (show W.heap[w.heap.size + 1]? = some (.cells #[.int .i64 0, .slice none 0 0, .slice none 0 0, .slice none 0 0] 29 (0, 0)) from by rw [HW]; have := blk_alloc_new (w.alloc (.cells #[.int .i64 n, .slice AE es.length cE, .slice AI xi.length cI, .slice AO xo.length cO] 29)) (.cells #[.int .i64 0, .slice none 0 0, .slice none 0 0, .slice none 0 0] 29); simpa using this)
  clear HW
  have HELD : Hid (∀ w' : World, Below W.heap.size W w' → w'.cell? ⟨w.heap.size, 0, none⟩ = some (.int .i64 n) ∧ w'.cell? ⟨w.heap.size, 1, none⟩ = some (.slice AE es.length cE) ∧ w'.cell? ⟨w.heap.size, 2, none⟩ = some (.slice AI xi.length cI) ∧ w'.cell? ⟨w.heap.size, 3, none⟩ = some (.slice AO xo.length cO)) := Lib.hid (fun w' h => by
    have hb := (h.block w.heap.size (by rw [HWS.out]; omega)).trans HWG.out
    exact ⟨box_cell hb 0, box_cell hb 1, box_cell hb 2, box_cell hb 3⟩)
  have HOA := Lib.hid (fun (w' : World) (h : Below W.heap.size W w') => hgList_any w' B (.slice AI xi.length cI) (.slice AT tz.length cT) xi tz ((HI.out.below HWB.out HB.out).below h (by have := HB.out; have := HWB.out.size; omega)) ((HT0.out.below HWB.out HB.out).below h (by have := HB.out; have := HWB.out.size; omega)) (by have := HB.out; have := HWB.out.size; have := h.size; omega) (by omega) HAI.out)
  have HOB := Lib.hid (fun (w' : World) (h : Below W.heap.size W w') => hgList_any w' B (.slice AO xo.length cO) (.slice AT tz.length cT) xo tz ((HO.out.below HWB.out HB.out).below h (by have := HB.out; have := HWB.out.size; omega)) ((HT0.out.below HWB.out HB.out).below h (by have := HB.out; have := HWB.out.size; omega)) (by have := HB.out; have := HWB.out.size; have := h.size; omega) (by omega) HAO.out)
  rw [← HYIE.out] at HOA
  rw [← HYOE.out] at HOB
  have HD0 := Lib.hid (HELD.out W.drew (Below.refl _ _).drew)
  go_cut [7] from 10 (fun s7 wc => ∃ (ob : Nat) (A3 : Option Addr) (c3 : Nat) (A4 : Option Addr) (c4 : Nat), s7 = .pointer (some ⟨ob, 0, none⟩) ∧ Hid (GrSt W wc ob m (.slice A3 yi.length c3) (.slice A4 yo.length c4) yi yo))
  case first =>
    go_region_held3 (fun w' => w'.cell? ⟨w.heap.size, 0, none⟩ = some (.int .i64 n) ∧ w'.cell? ⟨w.heap.size, 1, none⟩ = some (.slice AE es.length cE) ∧ w'.cell? ⟨w.heap.size, 2, none⟩ = some (.slice AI xi.length cI) ∧ w'.cell? ⟨w.heap.size, 3, none⟩ = some (.slice AO xo.length cO))
      (first
        | with_reducible exact HD0.out
        | with_reducible exact HD1.out
        | with_reducible exact HD2.out
        | (exact HELD.out _ (by repeat' (first | exact HB4.out | exact HB3.out | exact Below.refl _ _ | apply Below.drew | apply Below.setCell | apply Below.alloc | (simp; done) | omega | (simp; omega))))
        | fail)
      (first
        | (have _hb := HB3; go_at_call 96; go_split_ands; (with_reducible refine (HOB.out _ ?_).mono ?_); clear _hb; (· repeat' (first | exact HB3.out | apply Below.drew | apply Below.alloc | (simp; done) | omega | (simp; omega))); rintro e w4 ⟨v4, rfl, b4, o4⟩; obtain ⟨A4, c4, rfl⟩ := o4.len; have HB4 : Hid (Below W.heap.size W w4) := Lib.hid (Below.trans (by repeat' (first | exact HB3.out | apply Below.drew | apply Below.alloc | (simp; done) | omega | (simp; omega))) (b4.mono (by first | exact hs3 | (simp; done) | (simp; omega)))); have HD2 := Lib.hid (HELD.out w4 HB4.out); have HO4 := Lib.hid (o4.mono (T := fun q => w3.heap.size ≤ q) (fun q hq _ => by first | exact hq | (have hq2 := hq; simp at hq2; omega))); have hs4 : w3.heap.size ≤ w4.heap.size := (by first | exact b4.size | exact Nat.le_trans (by simp) b4.size); have HO5 := Lib.hid (OwR.blocks (w' := w4) (HO3.out.mono (T := fun q => W.heap.size ≤ q ∧ q < w3.heap.size) (fun q hq hl => ⟨hq, hl⟩)) (fun q hq hl _ _ => (b4.block q (by first | exact hl | (simp; omega))).trans (by first | rfl | exact blk_alloc_lt _ _ _ hl))); (try have HZ4 : CellsAt w4 W.heap.size 29 [.int .i64 0, .slice none 0 0, .slice none 0 0, .slice none 0 0] := HZ3.of_block (b4.block W.heap.size HZ3.lt)); (try have HZ5 : CellsAt w4 w3.heap.size 29 [.int .i64 0, .slice none 0 0, .slice none 0 0, .slice none 0 0] := (cellsAt_new w3 #[.int .i64 0, .slice none 0 0, .slice none 0 0, .slice none 0 0] 29).of_block (b4.block w3.heap.size (by simp))); (try obtain ⟨hz0, hz1, hz2, hz3, hz4⟩ := HZ4.four); (try obtain ⟨hy0, hy1, hy2, hy3, hy4⟩ := HZ5.four); (try have hzf := HZ4.frozen); (try have hyf := HZ5.frozen); clear b4 o4)
        | (go_at_call 96; go_split_ands; (with_reducible refine (HOA.out _ ?_).mono ?_); (· repeat' (first | exact Below.refl _ _ | apply Below.drew | apply Below.alloc | (simp; done) | omega | (simp; omega))); rintro e w3 ⟨v3, rfl, b3, o3⟩; obtain ⟨A3, c3, rfl⟩ := o3.len; have HB3 : Hid (Below W.heap.size W w3) := Lib.hid (Below.trans (by repeat' (first | exact Below.refl _ _ | apply Below.drew | apply Below.alloc | (simp; done) | omega | (simp; omega))) (b3.mono (by first | exact Nat.le_refl _ | (simp; done) | (simp; omega)))); have HD1 := Lib.hid (HELD.out w3 HB3.out); have HO3 := Lib.hid (o3.mono (T := fun q => W.heap.size ≤ q) (fun q hq _ => by have hq2 := hq; simp at hq2; show W.heap.size ≤ q; omega)); have hs3 := HB3.out.size; (try have HZ3 : CellsAt w3 W.heap.size 29 [.int .i64 0, .slice none 0 0, .slice none 0 0, .slice none 0 0] := (cellsAt_new W #[.int .i64 0, .slice none 0 0, .slice none 0 0, .slice none 0 0] 29).of_block (b3.block W.heap.size (by simp))); clear b3 o3)
        | fail)
    all_goals (try go_wp2_with fail)
    all_goals (try go_meet)
    all_goals first
      | (have HRS := mir_setup (W := W) (n := m) HZ4 HB4.out (Nat.le_refl _) (HO5.out.mono (T := fun q => W.heap.size ≤ q) (fun q hq _ => hq.1)) (HO4.out.mono (T := fun q => W.heap.size ≤ q) (fun q hq _ => by have := HB3.out.size; omega)); exact ⟨_, A3, c3, A4, c4, rfl, Lib.hid ⟨HRS.1.out, HRS.2.1.out, HRS.2.2.1.out, HRS.2.2.2.out, Nat.le_refl _⟩⟩)
      | (have HRS := mir_setup (W := W) (n := m) HZ5 HB4.out HB3.out.size (HO5.out.mono (T := fun q => W.heap.size ≤ q) (fun q hq _ => hq.1)) (HO4.out.mono (T := fun q => W.heap.size ≤ q) (fun q hq _ => by have := HB3.out.size; omega)); exact ⟨_, A3, c3, A4, c4, rfl, Lib.hid ⟨HRS.1.out, HRS.2.1.out, HRS.2.2.1.out, HRS.2.2.2.out, HB3.out.size⟩⟩)
      | (have HRS := mir_setup2 (W := W) (n := m) rfl HB4.out (HO5.out.mono (T := fun q => W.heap.size ≤ q) (fun q hq _ => hq.1)) (HO4.out.mono (T := fun q => W.heap.size ≤ q) (fun q hq _ => by have := HB3.out.size; omega)); exact ⟨_, A3, c3, A4, c4, rfl, Lib.hid ⟨HRS.1.out, HRS.2.1.out, HRS.2.2.1.out, HRS.2.2.2.out, HB4.out.size⟩⟩)
      | (trace_state; fail)
  case rest =>
    obtain ⟨ob, A3, c3, A4, c4, rfl, HG⟩ := hcut
    have hobW := HG.out.new
    have hx5 : wc.cell? ⟨w.heap.size, 1, none⟩ = some (.slice AE es.length cE) := (HELD.out wc HG.out.bel).2.1
    clear HD0 HOA HOB HAI HAO HI HO HELD
    go_wp2
    go_loopw [23] (fun i wr => ∃ (k : Nat) (v : Value) (vs : Nat → Value), k ≤ es.length ∧ i = .int .i64 k ∧ Hid (Touch (fun q => q = ob) wc wr) ∧ Hid (CellsAt wr ob 29 [.int .i64 m, v, .slice A3 yi.length c3, .slice A4 yo.length c4]) ∧ Hid (EdA wr (fun q => wc.heap.size ≤ q ∧ q < wr.heap.size) v (mapEs tz (es.take k)) vs)) (fun i _ => es.length - (intOf i).toNat)
    case atStart => exact ⟨0, _, fun _ => .nilFunc, Nat.zero_le _, rfl, Lib.hid (Touch.refl _ _), Lib.hid HG.out.box, Lib.hid (EdA.nil _ _ _)⟩
    case round =>
      obtain ⟨k, v, vs, hk, rfl, HT, HCB, HED⟩ := hrel
      have hos := HCB.out.lt
      have hobc := HG.out.box.lt
      have hzc := HT.out.size
      have hWs := HWS.out
      have hWc := HG.out.bel.size
      have HBW := Lib.hid (show Below w.heap.size w wr from (HWB.out.trans (HG.out.bel.mono HWB.out.size)).trans (HT.out.below (by omega) (fun q hq => by rw [hq]; omega)))
      obtain ⟨hb0, hb1, hb2, hb3, -⟩ := HCB.out.four
      have hbf := HCB.out.frozen
      by_cases hlt : k < es.length
      · obtain ⟨b, o, A1, c1, A2, c2, rfl, hb, hc0, hc1, hc2, hc3, r1, r2⟩ := (HE.out.below HBW.out HB.out).at hlt
        have HTK := Lib.hid (mapEs_take (tz := tz) hlt)
        obtain ⟨s1, s2⟩ := HQ5.out k hlt
        obtain ⟨a1, a2⟩ := HAE.out k hlt
        have hml : (mapEs tz (es.take k)).length + 1 ≤ 1000000 := by rw [mapEs_len, List.length_take]; omega
        generalize es.getD k ed0 = ed at hc0 hc1 hc2 hc3 r1 r2 HTK s1 s2 a1 a2
        generalize mapEs tz (es.take k) = ms at HED HTK hml
        have HR1 := Lib.hid r1
        have HR2 := Lib.hid r2
        have HA1 := Lib.hid a1
        have HA2 := Lib.hid a2
        clear r1 r2 a1 a2
        obtain ⟨Av, cv, rfl⟩ := HED.out.form
        have hkI : (k : Int) < (es.length : Int) := by omega
        go_wp2
        obtain ⟨WE, HWEQ⟩ : ∃ x, x = wr.alloc (.cells #[.int .i64 ed.k, .int .i64 ed.v, .slice A1 ed.i.length c1, .slice A2 ed.o.length c2] 79) := ⟨_, rfl⟩
        rw [← HWEQ]
        have HEB := Lib.hid (show Below wr.heap.size wr WE from by rw [HWEQ]; exact (Below.refl _ _).alloc (Nat.le_refl _) _)
        have hes : WE.heap.size = wr.heap.size + 1 := by rw [HWEQ]; simp
        have HEE := Lib.hid (show WE.heap[wr.heap.size]? = some (.cells #[.int .i64 ed.k, .int .i64 ed.v, .slice A1 ed.i.length c1, .slice A2 ed.o.length c2] 79 (0, 0)) from by rw [HWEQ]; exact blk_alloc_new _ _)
        have HES := Lib.hid hes
        clear HWEQ hc0 hc1 hc2 hc3 hes
        have HLD : Hid (∀ w' : World, w'.heap[wr.heap.size]? = WE.heap[wr.heap.size]? → w'.cell? ⟨wr.heap.size, 0, none⟩ = some (.int .i64 ed.k) ∧ w'.cell? ⟨wr.heap.size, 1, none⟩ = some (.int .i64 ed.v) ∧ w'.cell? ⟨wr.heap.size, 2, none⟩ = some (.slice A1 ed.i.length c1) ∧ w'.cell? ⟨wr.heap.size, 3, none⟩ = some (.slice A2 ed.o.length c2)) := Lib.hid (fun w' h => by
          have hb := h.trans HEE.out
          exact ⟨box_cell hb 0, box_cell hb 1, box_cell hb 2, box_cell hb 3⟩)
        have HOBX : Hid (∀ w' : World, Below WE.heap.size WE w' → CellsAt w' ob 29 [.int .i64 m, .slice Av ms.length cv, .slice A3 yi.length c3, .slice A4 yo.length c4]) := Lib.hid (fun w' h => (HCB.out.below HEB.out hos).below h (by rw [HES.out]; omega))
        have HEDX : Hid (∀ w' : World, Below WE.heap.size WE w' → EdA w' (fun q => wc.heap.size ≤ q ∧ q < wr.heap.size) (.slice Av ms.length cv) ms vs) := Lib.hid (fun w' h => HED.out.blocks fun q hq hl => (h.block q (by rw [HES.out]; omega)).trans (HEB.out.block q hl))
        have hbB : B ≤ wr.heap.size := Nat.le_trans HB.out HBW.out.size
        have HLA := Lib.hid (fun (w' : World) (h : Below WE.heap.size WE w') => hgList_any w' B (.slice A1 ed.i.length c1) (.slice AT tz.length cT) ed.i tz ((HR1.out.below HEB.out hbB).below h (Nat.le_trans hbB HEB.out.size)) (((HT0.out.below HBW.out HB.out).below HEB.out hbB).below h (Nat.le_trans hbB HEB.out.size)) (Nat.le_trans (Nat.le_trans hbB HEB.out.size) h.size) (by omega) HA1.out)
        have HLB := Lib.hid (fun (w' : World) (h : Below WE.heap.size WE w') => hgList_any w' B (.slice A2 ed.o.length c2) (.slice AT tz.length cT) ed.o tz ((HR2.out.below HEB.out hbB).below h (Nat.le_trans hbB HEB.out.size)) (((HT0.out.below HBW.out HB.out).below HEB.out hbB).below h (Nat.le_trans hbB HEB.out.size)) (Nat.le_trans (Nat.le_trans hbB HEB.out.size) h.size) (by omega) HA2.out)
        have HTK2 := Lib.hid (show mapEs tz (es.take (k + 1)) = ms ++ [⟨ed.k, ed.v, pickL ed.i tz, pickL ed.o tz⟩] from HTK.out)
        generalize pickL ed.i tz = zi at HLA HTK2
        generalize pickL ed.o tz = zo at HLB HTK2
        clear HTK HR1 HR2 HA1 HA2
        have HS : Hid (∀ w' : World, Below WE.heap.size WE w' → (fun w' => w'.cell? ⟨wr.heap.size, 0, none⟩ = some (.int .i64 ed.k) ∧ w'.cell? ⟨wr.heap.size, 1, none⟩ = some (.int .i64 ed.v) ∧ w'.cell? ⟨wr.heap.size, 2, none⟩ = some (.slice A1 ed.i.length c1) ∧ w'.cell? ⟨wr.heap.size, 3, none⟩ = some (.slice A2 ed.o.length c2) ∧ w'.cell? ⟨ob, 1, none⟩ = some (.slice Av ms.length cv)) w') := Lib.hid (fun w' h => by
          have h1 := HLD.out w' (h.block _ (by rw [HES.out]; omega))
          exact ⟨h1.1, h1.2.1, h1.2.2.1, h1.2.2.2, (HOBX.out w' h).four.2.1⟩)
        refine wp_region_last (fun w' => w'.cell? ⟨wr.heap.size, 0, none⟩ = some (.int .i64 ed.k) ∧ w'.cell? ⟨wr.heap.size, 1, none⟩ = some (.int .i64 ed.v) ∧ w'.cell? ⟨wr.heap.size, 2, none⟩ = some (.slice A1 ed.i.length c1) ∧ w'.cell? ⟨wr.heap.size, 3, none⟩ = some (.slice A2 ed.o.length c2) ∧ w'.cell? ⟨ob, 1, none⟩ = some (.slice Av ms.length cv)) 18 (by kernel_rfl) (HS.out _ (Below.refl _ _).drew) (fun hHeld => ?_)
        refine wpAnyL_take (i := 0) (v := ?_) rfl (by kernel_rfl) (by kernel_rfl) (fun _ _ _ h => h) (by assumption) (by rfl) ?_ ?_
        rotate_left
        · (intro w hSw; (try dsimp only at hSw); go_simp; (try with_reducible rfl))
        (try simp only [Act.put, List.setIfInBounds_toArray])
        refine wpAnyL_take (i := 1) (v := ?_) rfl (by kernel_rfl) (by kernel_rfl) (fun _ _ _ h => h) (by assumption) (by rfl) ?_ ?_
        rotate_left
        · (intro w hSw; (try dsimp only at hSw); go_simp; (try with_reducible rfl))
        (try simp only [Act.put])
        refine wpAnyL_take (i := 2) (v := ?_) rfl (by kernel_rfl) (by kernel_rfl) (fun _ _ _ h => h) (by assumption) (by rfl) ?_ ?_
        rotate_left
        · (intro w hSw; (try dsimp only at hSw); go_simp; (try with_reducible rfl))
        (try simp only [Act.put])
        refine wpAnyL_take (i := 3) (v := ?_) rfl (by kernel_rfl) (by kernel_rfl) (fun _ _ _ h => h) (by assumption) (by rfl) ?_ ?_
        rotate_left
        · (intro w hSw; (try dsimp only at hSw); go_simp; (try with_reducible rfl))
        (try simp only [Act.put])
        refine wpAnyL_take (i := 4) (v := ?_) rfl (by kernel_rfl) (by kernel_rfl) (fun _ _ _ h => h) (by assumption) (by rfl) ?_ ?_
        rotate_left
        · (intro w hSw; (try dsimp only at hSw); go_simp; (try with_reducible rfl))
        (try simp only [Act.put])
        refine wpAnyL_take (i := 5) (v := ?_) rfl (by kernel_rfl) (by kernel_rfl) (fun _ _ _ h => h) (by assumption) (by rfl) ?_ ?_
        rotate_left
        · (intro w hSw; (try dsimp only at hSw); go_simp; (try with_reducible rfl))
        (try simp only [Act.put])
        refine wpAnyL_take (i := 6) (v := ?_) rfl (by kernel_rfl) (by kernel_rfl) (fun _ _ _ h => h) (by assumption) (by rfl) ?_ ?_
        rotate_left
        · (intro w hSw; (try dsimp only at hSw); go_simp; (try with_reducible rfl))
        (try simp only [Act.put])
        refine wpAnyL_take (i := 7) (v := ?_) rfl (by kernel_rfl) (by kernel_rfl) (fun _ _ _ h => h) (by assumption) (by rfl) ?_ ?_
        rotate_left
        · (intro w hSw; (try dsimp only at hSw); go_simp; (try with_reducible rfl))
        (try simp only [Act.put])
        refine wpAnyL_take (i := 8) (v := ?_) rfl (by kernel_rfl) (by kernel_rfl) (fun _ _ _ h => h) (by assumption) (by rfl) ?_ ?_
        rotate_left
        · (intro w hSw; (try dsimp only at hSw); go_simp; (try with_reducible rfl))
        (try simp only [Act.put])
        refine wpAnyL_take (i := 10) (v := ?_) rfl (by kernel_rfl) (by kernel_rfl) (fun _ _ _ h => h) (by assumption) (by rfl) ?_ ?_
        rotate_left
        · (intro w hSw; (try dsimp only at hSw); go_simp; (try with_reducible rfl))
        (try simp only [Act.put])
        refine wpAnyL_take (i := 11) (v := ?_) rfl (by kernel_rfl) (by kernel_rfl) (fun _ _ _ h => h) (by assumption) (by rfl) ?_ ?_
        rotate_left
        · (intro w hSw; (try dsimp only at hSw); go_simp; (try with_reducible rfl))
        (try simp only [Act.put])
        refine wpAnyL_take (i := 12) (v := ?_) rfl (by kernel_rfl) (by kernel_rfl) (fun _ _ _ h => h) (by assumption) (by rfl) ?_ ?_
        rotate_left
        · (intro w hSw; (try dsimp only at hSw); go_simp; (try with_reducible rfl))
        (try simp only [Act.put])
        refine wpAnyL_one (i := 9) (by kernel_rfl) rfl (fun K' hK => ?_)
        go_simp
        go_at_call 96
        refine (HLA.out WE.drew (Below.refl _ _).drew).mono ?_
        rintro e w6 ⟨v6, rfl, b6, o6⟩
        obtain ⟨A6, c6, rfl⟩ := o6.len
        have HB6 : Hid (Below WE.heap.size WE w6) := Lib.hid ((Below.refl _ _).drew.trans b6)
        have HO6 := Lib.hid (o6.mono (T := fun q => WE.heap.size ≤ q) (fun q hq _ => hq))
        clear b6 o6
        go_simp
        refine hK.out _ _ (HS.out _ HB6.out) (fun hHeld => ?_)
        clear hK K'
        (try simp only [Act.put, List.setIfInBounds_toArray, List.set_cons_zero, List.set_cons_succ])
        refine wpAnyL_one (i := 13) (by kernel_rfl) rfl (fun K' hK => ?_)
        go_simp
        go_at_call 96
        refine (HLB.out w6 HB6.out).mono ?_
        rintro e w7 ⟨v7, rfl, b7, o7⟩
        obtain ⟨A7, c7, rfl⟩ := o7.len
        have HB7 : Hid (Below WE.heap.size WE w7) := Lib.hid (HB6.out.trans (b7.mono HB6.out.size))
        have HO7 := Lib.hid o7
        have hs7 : w6.heap.size ≤ w7.heap.size := b7.size
        have HO8 := Lib.hid ((HO6.out.mono (T := fun q => WE.heap.size ≤ q ∧ q < w6.heap.size) (fun q hq hl => ⟨hq, hl⟩)).blocks (w' := w7) (fun q hq hl _ _ => b7.block q hl))
        clear b7 o7
        go_simp
        refine hK.out _ _ (HS.out _ HB7.out) (fun hHeld => ?_)
        clear hK K'
        (try simp only [Act.put, List.setIfInBounds_toArray, List.set_cons_zero, List.set_cons_succ])
        refine wpAnyL_take (i := 14) (v := ?_) rfl (by kernel_rfl) (by kernel_rfl) (fun _ _ _ h => h) (by assumption) (by rfl) ?_ ?_
        rotate_left
        · (intro w hSw; (try dsimp only at hSw); go_simp; (try with_reducible rfl))
        (try simp only [Act.put, List.setIfInBounds_toArray])
        clear hHeld
        refine wpAnyL_one (i := 15) (by kernel_rfl) rfl (fun K' hK => ?_)
        go_simp
        refine hK.out _ _ (HS.out _ (by repeat' (first | exact HB7.out | apply Below.drew | exact Below.alloc HB7.out HB7.out.size _))) (fun hHeld => ?_)
        clear hK K'
        (try simp only [Act.put, List.setIfInBounds_toArray, List.set_cons_zero, List.set_cons_succ])
        obtain ⟨w7b, HW7⟩ : ∃ x, x = w7.alloc (.cells #[.int .i64 ed.k, .int .i64 ed.v, .slice A6 zi.length c6, .slice A7 zo.length c7] 79) := ⟨_, rfl⟩
        rw [← HW7] at hHeld ⊢
        have HB7b := Lib.hid (show Below w7.heap.size w7 w7b from by rw [HW7]; exact (Below.refl _ _).alloc (Nat.le_refl _) _)
        have HX7 := Lib.hid (show w7b.cell? ⟨w7.heap.size, 0, none⟩ = some (.int .i64 ed.k) ∧ w7b.cell? ⟨w7.heap.size, 1, none⟩ = some (.int .i64 ed.v) ∧ w7b.cell? ⟨w7.heap.size, 2, none⟩ = some (.slice A6 zi.length c6) ∧ w7b.cell? ⟨w7.heap.size, 3, none⟩ = some (.slice A7 zo.length c7) from by rw [HW7]; have hb := blk_alloc_new w7 (.cells #[.int .i64 ed.k, .int .i64 ed.v, .slice A6 zi.length c6, .slice A7 zo.length c7] 79); exact ⟨box_cell hb 0, box_cell hb 1, box_cell hb 2, box_cell hb 3⟩)
        have HS7 := Lib.hid (show w7b.heap.size = w7.heap.size + 1 from by rw [HW7]; simp)
        clear HW7
        have HE7 := Lib.hid ((HEDX.out w7 HB7.out).blocks (w' := w7b) (fun q _ hl => HB7b.out.block q hl))
        refine wpAnyL_one (i := 16) (by kernel_rfl) rfl (fun K' hK => ?_)
        refine step_pushE (by rfl) _ _ (by rfl) w7b (.slice Av ms.length cv) ms vs w7.heap.size 1 ed.k ed.v A6 zi.length c6 A7 zo.length c7 (by rfl) HE7.out.outer (by rfl) HX7.out hml ?_
        intro g8 cap8 w8 hown8 hgr8 hat8 hlt8
        have HN8 := Lib.hid (And.intro hown8 (And.intro hgr8 hat8))
        have HV8 := Lib.hid (show ∀ q, (Value.slice Av ms.length cv).ownBlock = some q → wc.heap.size ≤ q ∧ q < wr.heap.size from fun q hq => HE7.out.inS q hq)
        clear hown8 hgr8 hat8
        have HK8 : Hid (∀ q, q < w7b.heap.size → (q < wc.heap.size ∨ wr.heap.size ≤ q) → w8.heap[q]? = w7b.heap[q]?) := Lib.hid (fun q hq hor => HN8.out.2.1.block q hq (fun e => by have := HV8.out q e.symm; omega))
        have HC8 := Lib.hid (((HOBX.out w7 HB7.out).below HB7b.out (HOBX.out w7 HB7.out).lt).of_block (HK8.out ob (by have := HB7.out.size; have := HES.out; have := HS7.out; omega) (Or.inl hobc)))
        have HS8 := Lib.hid (show w8.cell? ⟨wr.heap.size, 0, none⟩ = some (.int .i64 ed.k) ∧ w8.cell? ⟨wr.heap.size, 1, none⟩ = some (.int .i64 ed.v) ∧ w8.cell? ⟨wr.heap.size, 2, none⟩ = some (.slice A1 ed.i.length c1) ∧ w8.cell? ⟨wr.heap.size, 3, none⟩ = some (.slice A2 ed.o.length c2) ∧ w8.cell? ⟨ob, 1, none⟩ = some (.slice Av ms.length cv) from by
          have h1 := HLD.out w8 ((HK8.out _ (by have := HB7.out.size; have := HES.out; have := HS7.out; omega) (Or.inr (Nat.le_refl _))).trans ((HB7b.out.block _ (by have := HB7.out.size; have := HES.out; omega)).trans (HB7.out.block _ (by have := HES.out; omega))))
          exact ⟨h1.1, h1.2.1, h1.2.2.1, h1.2.2.2, HC8.out.four.2.1⟩)
        refine hK.out _ _ HS8.out (fun hHeld => ?_)
        clear hK K'
        (try simp only [Act.put, List.setIfInBounds_toArray])
        refine wpAnyL_take (i := 17) (v := ?_) rfl (by kernel_rfl) (by kernel_rfl) (fun _ _ _ h => h) (by assumption) (by rfl) ?_ ?_
        rotate_left
        · (intro w hSw; (try dsimp only at hSw); go_simp; (try with_reducible rfl))
        (try simp only [Act.put])
        have hf8 := HC8.out.frozen
        refine wpAnyL_last (by kernel_rfl) (by kernel_rfl) rfl (fun K' hK => ?_)
        go_simp
        refine hK.out _ _ ?_
        clear hK K'
        have HTT := Lib.hid ((touch_grows (((HT.out.trans (Touch.of_below HEB.out (fun q h1 h2 => absurd h2 (by omega)))).trans (Touch.of_below HB7.out (fun q h1 h2 => absurd h2 (by omega)))).trans (Touch.of_below HB7b.out (fun q h1 h2 => absurd h2 (by omega)))) HN8.out.2.1 (fun q hq => (HV8.out q hq).1)).setCell (p := ⟨ob, 1, none⟩) (Or.inl rfl) (.slice (some ⟨g8, 0, none⟩) (ms.length + 1) cap8))
        have HCC := Lib.hid (HC8.out.set 1 (.slice (some ⟨g8, 0, none⟩) (ms.length + 1) cap8))
        have HPP := Lib.hid (HE7.out.push ⟨ed.k, ed.v, zi, zo⟩ (u1 := .slice A6 zi.length c6) (u2 := .slice A7 zo.length c7) (T1 := fun q => WE.heap.size ≤ q ∧ q < w6.heap.size) (T2 := fun q => w6.heap.size ≤ q) (HO8.out.blocks (w' := w7b) (fun q _ hl _ _ => HB7b.out.block q hl)) (HO7.out.blocks (w' := w7b) (fun q _ hl _ _ => HB7b.out.block q hl))
          (fun q h1 h2 => by have := HES.out; omega) (fun q h1 h2 => by have := HES.out; have := HB6.out.size; omega) (fun q h1 h2 => by omega) HN8.out.1 HN8.out.2.1 HN8.out.2.2)
        have HEE2 := Lib.hid (show EdA (w8.setCell ⟨ob, 1, none⟩ (.slice (some ⟨g8, 0, none⟩) (ms.length + 1) cap8)) (fun q => wc.heap.size ≤ q ∧ q < (w8.setCell ⟨ob, 1, none⟩ (.slice (some ⟨g8, 0, none⟩) (ms.length + 1) cap8)).heap.size) (.slice (some ⟨g8, 0, none⟩) (ms.length + 1) cap8) (mapEs tz (es.take (k + 1))) (upV vs ms.length (.slice A6 zi.length c6) (.slice A7 zo.length c7)) from by
          rw [HTK2.out]
          refine (HPP.out.mono (T := fun q => wc.heap.size ≤ q ∧ q < (w8.setCell ⟨ob, 1, none⟩ (.slice (some ⟨g8, 0, none⟩) (ms.length + 1) cap8)).heap.size) (fun q hq hl => ⟨?_, by simp; omega⟩)).blocks (fun q hq hl => blk_setCell_other _ _ _ _ (by dsimp only; omega))
          have := HES.out
          have := HB6.out.size
          have := HB7.out.size
          have := HS7.out
          omega)
        clear HPP HK8 HS8 HN8 HV8 HX7 HE7 HC8 HB7b hf8 HO8 HO7 HO6
        go_wp2
        go_roundw
        all_goals first
          | exact ⟨k + 1, _, _, by omega, by go_num, HTT, Lib.hid (HCC.out), HEE2⟩
          | (simp [intOf]; omega)
          | (trace_state; fail)
      · have hke : k = es.length := by omega
        have hrb := (HT.out.block (w.heap.size + 1) (by omega) (by omega)).trans ((HG.out.bel.block (w.heap.size + 1) (by omega)).trans HWR.out)
        have hx0 := box_cell hrb 0
        have hx1 := box_cell hrb 1
        have hx2 := box_cell hrb 2
        have hx3 := box_cell hrb 3
        have hxf := box_free hrb
        simp at hx0 hx1 hx2 hx3
        have hrs : w.heap.size + 1 < wr.heap.size := by omega
        clear hrb
        have hnk : ¬ (k : Int) < (es.length : Int) := by omega
        rw [hke, List.take_length] at HED
        clear hke hlt
        obtain ⟨Av, cv, rfl⟩ := HED.out.form
        go_wp2
        have HBF := Lib.hid (show Below w.heap.size w ((((wr.setCell ⟨w.heap.size + 1, 0, none⟩ (.int .i64 m)).setCell ⟨w.heap.size + 1, 1, none⟩ (.slice Av (mapEs tz es).length cv)).setCell ⟨w.heap.size + 1, 2, none⟩ (.slice A3 yi.length c3)).setCell ⟨w.heap.size + 1, 3, none⟩ (.slice A4 yo.length c4)) from by
          repeat' (first | exact HBW.out | apply Below.setCell | (simp; done)))
        refine bodyPost_ret (v := .agg #[.int .i64 m, .slice Av (mapEs tz es).length cv, .slice A3 yi.length c3, .slice A4 yo.length c4]) (by simp [results, Try.results81, go_sem, hx0, hx1, hx2, hx3]) rfl ?_
        refine ⟨_, _, _, rfl, HBF.out, ⟨?_, HQ4.out⟩, ⟨?_, by unfold szR; rw [HYI.out]; omega⟩, ⟨?_, by unfold szR; rw [HYO.out]; omega⟩⟩
        · exact ((HED.out.mono (T := fun q => wc.heap.size ≤ q) (fun q hq _ => hq.1)).blocks (fun q hq hl => by
            repeat rw [blk_setCell_other _ _ _ _ (by dsimp only; omega)])).toOwE.mono (fun q hq _ => by omega)
        · exact ((HG.out.li.blocks (w' := wr) (fun q hq _ _ _ => HT.out.block q hq.2.2 hq.2.1)).mono (T := fun q => w.heap.size + 2 ≤ q) (fun q hq _ => by omega)).blocks (fun q hq hl _ _ => by
            repeat rw [blk_setCell_other _ _ _ _ (by dsimp only; omega)]) |>.mono (fun q hq _ => by omega)
        · exact ((HG.out.lo.blocks (w' := wr) (fun q hq _ _ _ => HT.out.block q hq.2.2 hq.2.1)).mono (T := fun q => w.heap.size + 2 ≤ q) (fun q hq _ => by omega)).blocks (fun q hq hl _ _ => by
            repeat rw [blk_setCell_other _ _ _ _ (by dsimp only; omega)]) |>.mono (fun q hq _ => by omega)
end Go.Proofs.Ytdcgoeapgboclaa

/-! Wires made one: what the model's loops make of their rows, step by step. -/
namespace Go.Proofs.Ytdcgoeapgboclaa
open Go Go.RowKit Go.Deep

/-- The row 0, 1, .. up to k, zeros behind. -/
def gidK (N : Nat) : Nat → List Int
  | 0 => List.replicate N 0
  | k + 1 => (gidK N k).set k k
/-- Each max x y up to j replaced by min x y. -/
def gstK (c : List Int) (x y : Int) : Nat → List Int
  | 0 => c
  | j + 1 => if (gstK c x y j).getD j 0 = max x y then (gstK c x y j).set j (min x y) else gstK c x y j
/-- The classes behind k pairs. -/
def gclK (N : Nat) (a b : List Int) : Nat → List Int
  | 0 => gidK N N
  | k + 1 => gstK (gclK N a b k) ((gclK N a b k).getD (a.getD k 0).toNat 0) ((gclK N a b k).getD (b.getD k 0).toNat 0) N
/-- Which classes hold a wire that occurs. -/
def gusK (N : Nat) (c F T : List Int) : Nat → List Bool
  | 0 => List.replicate N false
  | k + 1 => if 0 < F.getD k 0 + T.getD k 0 then (gusK N c F T k).set (c.getD k 0).toNat true else gusK N c F T k
/-- The numbers of the classes, and how many there are. -/
def gnuK (N : Nat) (c : List Int) (u : List Bool) : Nat → List Int × Nat
  | 0 => (List.replicate N 0, 0)
  | k + 1 => if c.getD k 0 = k ∧ u.getD k false = true then ((gnuK N c u k).1.set k (gnuK N c u k).2, (gnuK N c u k).2 + 1) else gnuK N c u k
/-- The numbers of the wires. -/
def gfiK (c : List Int) (u : List Bool) (m : List Int) : Nat → List Int
  | 0 => m
  | k + 1 => if u.getD (c.getD k 0).toNat false = true then (gfiK c u m k).set k ((gfiK c u m k).getD (c.getD k 0).toNat 0) else ((gfiK c u m k).set k ((gfiK c u m k).getD (c.getD k 0).toNat 0)).set k (-1)
theorem gidK_len (N : Nat) : ∀ k, (gidK N k).length = N
  | 0 => by simp [gidK]
  | k + 1 => by simp [gidK, gidK_len N k]
theorem gstK_len (c : List Int) (x y : Int) : ∀ k, (gstK c x y k).length = c.length
  | 0 => rfl
  | k + 1 => by unfold gstK; split <;> simp [gstK_len c x y k]
theorem gclK_len (N : Nat) (a b : List Int) : ∀ k, (gclK N a b k).length = N
  | 0 => gidK_len N N
  | k + 1 => by unfold gclK; rw [gstK_len, gclK_len N a b k]
theorem gusK_len (N : Nat) (c F T : List Int) : ∀ k, (gusK N c F T k).length = N
  | 0 => by simp [gusK]
  | k + 1 => by unfold gusK; split <;> simp [gusK_len N c F T k]
theorem gnuK_len (N : Nat) (c : List Int) (u : List Bool) : ∀ k, (gnuK N c u k).1.length = N
  | 0 => by simp [gnuK]
  | k + 1 => by unfold gnuK; split <;> simp [gnuK_len N c u k]
theorem gnuK_le (N : Nat) (c : List Int) (u : List Bool) : ∀ k, (gnuK N c u k).2 ≤ k
  | 0 => by simp [gnuK]
  | k + 1 => by have := gnuK_le N c u k; unfold gnuK; split <;> (try dsimp only) <;> omega
theorem gfiK_len (c : List Int) (u : List Bool) (m : List Int) : ∀ k, (gfiK c u m k).length = m.length
  | 0 => rfl
  | k + 1 => by unfold gfiK; split <;> simp [gfiK_len c u m k]
theorem inRg_set {N : Nat} {l : List Int} (h : inRg N l) (k : Nat) {v : Int} (h0 : 0 ≤ v) (h1 : v < N) : inRg N (l.set k v) := fun i hi => by
  rw [List.length_set] at hi
  rw [List.getD_eq_getElem?_getD, List.getElem?_set]
  by_cases c : k = i
  · subst c
    rw [if_pos rfl, if_pos hi]
    exact ⟨h0, h1⟩
  · rw [if_neg c, ← List.getD_eq_getElem?_getD]
    exact h i hi
theorem gidK_in (N : Nat) : ∀ k, k ≤ N → inRg N (gidK N k)
  | 0, _ => fun i hi => by
    simp only [gidK, List.length_replicate] at hi ⊢
    rw [repl_getD' _ _ _ _ hi]
    omega
  | k + 1, h => by
    have := gidK_in N k (by omega)
    exact inRg_set this k (by omega) (by omega)
theorem gstK_in {N : Nat} {c : List Int} {x y : Int} (hc : inRg N c) (h0 : 0 ≤ min x y) (h1 : min x y < N) : ∀ k, inRg N (gstK c x y k)
  | 0 => hc
  | k + 1 => by
    unfold gstK
    split
    · exact inRg_set (gstK_in hc h0 h1 k) k h0 h1
    · exact gstK_in hc h0 h1 k
theorem gclK_in {N : Nat} {a b : List Int} (ha : inRg N a) (hb : inRg N b) : ∀ k, k ≤ a.length → k ≤ b.length → inRg N (gclK N a b k)
  | 0, _, _ => gidK_in N N (Nat.le_refl _)
  | k + 1, h1, h2 => by
    have ih := gclK_in ha hb k (by omega) (by omega)
    have p1 := ha k (by omega)
    have p2 := hb k (by omega)
    have q1 := ih (a.getD k 0).toNat (by rw [gclK_len]; omega)
    have q2 := ih (b.getD k 0).toNat (by rw [gclK_len]; omega)
    exact gstK_in ih (by omega) (by omega) N
/-- A row of ints in a block of its own. -/
def IR (w : World) (b : Nat) (xs : List Int) : Prop := CellsAt w b tI (icells xs)
/-- A row of bools in a block of its own. -/
def BR (w : World) (b : Nat) (xs : List Bool) : Prop := CellsAt w b 4 (xs.map Value.bool)
theorem IR.at {w : World} {b : Nat} {xs : List Int} (h : IR w b xs) {k : Nat} (hk : k < xs.length) : w.cell? ⟨b, k, none⟩ = some (.int .i64 (xs.getD k 0)) := (CellsAt.cell h (by rw [icells_len]; exact hk)).trans (icells_get hk)
theorem IR.put {w : World} {b : Nat} {xs : List Int} (h : IR w b xs) (k : Nat) (u : Int) : IR (w.setCell ⟨b, k, none⟩ (.int .i64 u)) b (xs.set k u) := by
  have := CellsAt.set h k (.int .i64 u)
  rwa [icells_set] at this
theorem BR.at {w : World} {b : Nat} {xs : List Bool} (h : BR w b xs) {k : Nat} (hk : k < xs.length) : w.cell? ⟨b, k, none⟩ = some (.bool (xs.getD k false)) := by
  refine (CellsAt.cell h (by simpa using hk)).trans ?_
  rw [List.getElem?_map, List.getElem?_eq_getElem hk, List.getD_eq_getElem?_getD, List.getElem?_eq_getElem hk]
  rfl
theorem BR.put {w : World} {b : Nat} {xs : List Bool} (h : BR w b xs) (k : Nat) (u : Bool) : BR (w.setCell ⟨b, k, none⟩ (.bool u)) b (xs.set k u) := by
  have := CellsAt.set h k (.bool u)
  rw [show (xs.map Value.bool).set k (.bool u) = (xs.set k u).map Value.bool by simp [List.map_set]] at this
  exact this
theorem IR.rd {w : World} {b : Nat} {xs : List Int} (h : IR w b xs) (B : Nat) (hB : b < B) : RdS w (fun q => q < B) (.slice (some ⟨b, 0, none⟩) xs.length xs.length) xs :=
  ⟨_, _, rfl, Nat.le_refl _, fun k hk => ⟨b, 0, rfl, hB, by rw [Nat.zero_add]; exact h.at hk⟩⟩
theorem infoBo : (Try.prog.info? 4).map (fun i => (i.zero, i.size, i.bytes)) = some (some (.bool false), 1, 1) := by kernel_rfl
theorem make_bools (n : Nat) (hn : n ≤ 1000000000) (w : World) : (Instr.makeSlice 114 (.int .i64 (n : Int)) (.int .i64 (n : Int))).run Try.prog w = .ok (.slice (some ⟨w.heap.size, 0, none⟩) n n) (w.alloc (.cells (madeCells #[.bool false] n) 4)) :=
  run_make_row' 114 4 (.bool false) 1 Try.underlying114 infoBo rfl .i64 .i64 n (by omega) (by omega) w
theorem made_bools (w : World) (n : Nat) : BR (w.alloc (.cells (madeCells #[.bool false] n) 4)) w.heap.size (List.replicate n false) := by
  have := cellsAt_new w (madeCells #[.bool false] n) 4
  rw [toList_madeCells_one] at this
  unfold BR
  simpa using this
theorem l1Mx_any (a b : Int) (w : World) : Calls Try.prog 73 #[.int .i64 a, .int .i64 b] w fun e w' => e = .returned (.int .i64 (max a b)) ∧ w = w' := by
  by_cases h : b < a
  · have e : max a b = a := by omega
    rw [e]
    go_enter Try.func73, Try.ntmps73
    go_wp2
    go_ret
    exact ⟨rfl, rfl⟩
  · have e : max a b = b := by omega
    rw [e]
    go_enter Try.func73, Try.ntmps73
    go_wp2
    go_ret
    exact ⟨rfl, rfl⟩
theorem l1Ls_any (a b : Int) (w : World) : Calls Try.prog 42 #[.int .i64 a, .int .i64 b] w fun e w' => e = .returned (.int .i64 (min a b)) ∧ w = w' := by
  by_cases h : a < b
  · have e : min a b = a := by omega
    rw [e]
    go_enter Try.func42, Try.ntmps42
    go_wp2
    go_ret
    exact ⟨rfl, rfl⟩
  · have e : min a b = b := by omega
    rw [e]
    go_enter Try.func42, Try.ntmps42
    go_wp2
    go_ret
    exact ⟨rfl, rfl⟩
end Go.Proofs.Ytdcgoeapgboclaa

/-! Wires made one: the model's hgGlued. -/
namespace Go.Proofs.Ytdcgoeapgboclaa
open Go Go.RowKit Go.Deep

def glCls (N : Nat) (a b : List Int) : List Int := gclK N a b a.length
def glUsd (N : Nat) (a b : List Int) (es : List Ed) (xi xo : List Int) : List Bool := gusK N (glCls N a b) (cntRow N (fromL es xi)) (cntRow N (toL es xo)) N
def glNum (N : Nat) (a b : List Int) (es : List Ed) (xi xo : List Int) : List Int := gfiK (glCls N a b) (glUsd N a b es xi xo) (gnuK N (glCls N a b) (glUsd N a b es xi xo) N).1 N
def glN (N : Nat) (a b : List Int) (es : List Ed) (xi xo : List Int) : Nat := (gnuK N (glCls N a b) (glUsd N a b es xi xo) N).2
theorem inRg_of {N : Nat} {l : List Int} (h : allL l 0 (N - 1) = true) : inRg N l := fun k hk => by
  have := all_at h hk
  omega
set_option maxRecDepth 100000 in
set_option maxHeartbeats 12800000 in
theorem hgGlued_any (w : World) (B : Nat) (uE uI uO ua ub : Value) (N : Nat) (es : List Ed) (xi xo a b : List Int) (hE : LfE w B uE es) (hI : LfR w B uI xi) (hO : LfR w B uO xo) (ha : RdS w (fun q => q < B) ua a) (hb : RdS w (fun q => q < B) ub b) (hB : B ≤ w.heap.size) (hN : N ≤ 1000)
    (hle : es.length ≤ 1000) (hli : xi.length ≤ 1000) (hlo : xo.length ≤ 1000) (hlr : ∀ k, k < es.length → (es.getD k ed0).i.length ≤ 1000 ∧ (es.getD k ed0).o.length ≤ 1000) (hcn : cntE es ≤ 1099511627776)
    (_hla : a.length ≤ 1000) (hab : a.length ≤ b.length) (hlb : b.length ≤ 1000) (hra : inRg N a) (hrb : inRg N b) (hvi : allL xi 0 (N - 1) = true) (hvo : allL xo 0 (N - 1) = true) (hve : ∀ k, k < es.length → allL (es.getD k ed0).i 0 (N - 1) = true ∧ allL (es.getD k ed0).o 0 (N - 1) = true) :
    Calls Try.prog 82 #[.agg #[.int .i64 N, uE, uI, uO], ua, ub] w fun e w' => ∃ v1 v2 v3 v4, e = .returned (.tuple #[.agg #[.int .i64 (glN N a b es xi xo), v1, v2, v3], v4]) ∧ Below w.heap.size w w' ∧ OwnE w' (fun q => w.heap.size ≤ q) v1 (mapEs (glNum N a b es xi xo) es) ∧ OwnR w' (fun q => w.heap.size ≤ q) v2 (pickL xi (glNum N a b es xi xo)) ∧ OwnR w' (fun q => w.heap.size ≤ q) v3 (pickL xo (glNum N a b es xi xo)) ∧ OwR w' tI (fun q => w.heap.size ≤ q) v4 (glNum N a b es xi xo) := by
  have HB := Lib.hid hB
  have hmk := make_ints N (by omega)
  have hmb := make_bools N (by omega)
  obtain ⟨AE, cE, rfl⟩ := hE.len
  obtain ⟨AI, cI, rfl⟩ := hI.len
  obtain ⟨AO, cO, rfl⟩ := hO.len
  obtain ⟨Aa, ca, rfl⟩ := rdS_len ha
  obtain ⟨Ab, cb, rfl⟩ := rdS_len hb
  have HE := Lib.hid hE
  have HI := Lib.hid hI
  have HO := Lib.hid hO
  have HA := Lib.hid ha
  have HBB := Lib.hid hb
  have HRA := Lib.hid hra
  have HRB := Lib.hid hrb
  have HCT := Lib.hid (fun (w' : World) (h : Below w.heap.size w w') => hgCounts_any w' B N es xi xo AE cE AI cI AO cO (hE.1.below h hB) (hI.1.below h hB) (hO.1.below h hB) (Nat.le_trans hB h.size) hN hvi hvo (fun k hk => ⟨(hve k hk).1, (hve k hk).2, (hlr k hk).1, (hlr k hk).2⟩) hle hli hlo)
  have HMP := Lib.hid (fun (w' : World) (h : Below w.heap.size w w') (uT : Value) (m : Int) (tz : List Int) (htz : tz.length = N) (C : Nat) (hC : B ≤ C) (hC2 : C ≤ w'.heap.size) (hT : RdS w' (fun q => q < C) uT tz) => hgMap_any w' C (.slice AE es.length cE) (.slice AI xi.length cI) (.slice AO xo.length cO) uT N m es xi xo tz ((hE.below h hB).mono hC) ⟨(hI.1.below h hB).mono (fun q hq => Nat.lt_of_lt_of_le hq hC), hI.2⟩ ⟨(hO.1.below h hB).mono (fun q hq => Nat.lt_of_lt_of_le hq hC), hO.2⟩ hT hC2 hle hli hlo hlr hcn (by rw [htz]; exact inRg_of hvi) (by rw [htz]; exact inRg_of hvo) (fun k hk => by rw [htz]; exact ⟨inRg_of (hve k hk).1, inRg_of (hve k hk).2⟩))
  have HFB := Lib.hid (show ∀ q, q < N → 0 ≤ (cntRow N (fromL es xi)).getD q 0 ∧ (cntRow N (fromL es xi)).getD q 0 ≤ 3000000 ∧ 0 ≤ (cntRow N (toL es xo)).getD q 0 ∧ (cntRow N (toL es xo)).getD q 0 ≤ 3000000 from fun q hq => by
    have h1 := cntRow_bd (fromL es xi) hq
    have h2 := cntRow_bd (toL es xo) hq
    have e1 : (fromL es xi).length ≤ 2000000 := by
      have := edge_len (f := Ed.o) (es := es) (fun x hx => by obtain ⟨k, hk, rfl⟩ := List.getElem_of_mem hx; have := (hlr k hk).2; rwa [List.getD_eq_getElem?_getD, List.getElem?_eq_getElem hk] at this)
      unfold fromL
      rw [List.length_append]
      omega
    have e2 : (toL es xo).length ≤ 2000000 := by
      have := edge_len (f := Ed.i) (es := es) (fun x hx => by obtain ⟨k, hk, rfl⟩ := List.getElem_of_mem hx; have := (hlr k hk).1; rwa [List.getD_eq_getElem?_getD, List.getElem?_eq_getElem hk] at this)
      unfold toL
      rw [List.length_append]
      omega
    omega)
  have HLF := Lib.hid (show (cntRow N (fromL es xi)).length = N ∧ (cntRow N (toL es xo)).length = N from ⟨cntRow_len _ _, cntRow_len _ _⟩)
  have HCI := Lib.hid (show ∀ k, k ≤ a.length → inRg N (gclK N a b k) from fun k hk => gclK_in hra hrb k hk (by omega))
  obtain ⟨num, HNUM⟩ : ∃ x, Hid (x = glNum N a b es xi xo) := ⟨_, Lib.hid rfl⟩
  obtain ⟨cnt, HCNT⟩ : ∃ x, Hid (x = glN N a b es xi xo) := ⟨_, Lib.hid rfl⟩
  rw [← HNUM.out, ← HCNT.out]
  clear hE hI hO ha hb hB hlr hcn hra hrb hvi hvo hve
  go_enter Try.func82, Try.ntmps82
  go_upto_region 1 with fail
  obtain ⟨W, HW⟩ : ∃ W, W = (w.alloc (.cells #[.int .i64 N, .slice AE es.length cE, .slice AI xi.length cI, .slice AO xo.length cO] 29)).alloc (.cells #[.int .i64 0, .slice none 0 0, .slice none 0 0, .slice none 0 0] 29) := ⟨_, rfl⟩
  rw [← HW]
  have HWS := Lib.hid (show W.heap.size = w.heap.size + 2 from by rw [HW]; simp)
  have HWB := Lib.hid (show Below w.heap.size w W from by rw [HW]; exact ((Below.refl _ _).alloc (Nat.le_refl _) _).alloc (by simp) _)
  have HWG := Lib.hid (show W.heap[w.heap.size]? = some (.cells #[.int .i64 N, .slice AE es.length cE, .slice AI xi.length cI, .slice AO xo.length cO] 29 (0, 0)) from by rw [HW]; exact (blk_alloc_lt _ _ _ (by simp)).trans (blk_alloc_new w _))
  have HWR := Lib.hid (show W.heap[w.heap.size + 1]? = some (.cells #[.int .i64 0, .slice none 0 0, .slice none 0 0, .slice none 0 0] 29 (0, 0)) from by rw [HW]; have := blk_alloc_new (w.alloc (.cells #[.int .i64 N, .slice AE es.length cE, .slice AI xi.length cI, .slice AO xo.length cO] 29)) (.cells #[.int .i64 0, .slice none 0 0, .slice none 0 0, .slice none 0 0] 29); simpa using this)
  clear HW
  have hBW : B ≤ W.heap.size := by have := HB.out; have := HWS.out; omega
  have hg0 := box_cell HWG.out 0
  simp at hg0
  go_wp2
  go_loopw [28, 9] (fun i _ wr => ∃ k : Nat, k ≤ N ∧ i = .int .i64 k ∧ Hid (Below W.heap.size W wr) ∧ Hid (IR wr W.heap.size (gidK N k))) (fun i _ _ => N - (intOf i).toNat)
  case atStart => exact ⟨0, Nat.zero_le _, rfl, Lib.hid ((Below.refl _ _).alloc (Nat.le_refl _) _), Lib.hid (made_ints W N)⟩
  case round =>
    obtain ⟨k, hk, rfl, HB1, HC1⟩ := hrel
    have hl1 := CellsAt.lt HC1.out
    have hf1 := CellsAt.frozen HC1.out
    by_cases hlt : k < N
    · have hc1 := HC1.out.at (k := k) (by rw [gidK_len]; exact hlt)
      have hlI : (k : Int) < (N : Int) := by omega
      go_wp2
      go_roundw
      all_goals first
        | exact ⟨k + 1, by omega, by go_num, Lib.hid (HB1.out.setCell (by dsimp only; omega) _), Lib.hid (HC1.out.put k k)⟩
        | (simp [intOf]; omega)
        | (trace_state; fail)
    · obtain rfl : k = N := by omega
      obtain ⟨w1, rfl⟩ : ∃ x, x = wr := ⟨wr, rfl⟩
      have hnl : ¬ (k : Int) < (k : Int) := by omega
      clear hlt hk hf1 hg0
      have HL1 := Lib.hid hl1
      clear hl1
      go_wp2
      go_loopw [38, 10, 11, 12, 13, 57] (fun i _ _ _ _ _ wr => ∃ r : Nat, r ≤ a.length ∧ i = .int .i64 r ∧ Hid (Below W.heap.size W wr) ∧ Hid (IR wr W.heap.size (gclK k a b r))) (fun i _ _ _ _ _ _ => a.length - (intOf i).toNat)
      case atStart => exact ⟨0, Nat.zero_le _, rfl, HB1, HC1⟩
      case round =>
        clear HB1 HC1 HL1
        obtain ⟨r, hr, rfl, HB2, HC2⟩ := hrel
        obtain ⟨wo, rfl⟩ : ∃ x, x = wr := ⟨wr, rfl⟩
        by_cases hlt : r < a.length
        · have HBw := Lib.hid (HWB.out.trans (HB2.out.mono HWB.out.size))
          obtain ⟨b1, o1, rfl, hb1, hc1⟩ := RdS.at (HA.out.below HBw.out HB.out) hlt
          obtain ⟨b2, o2, rfl, hb2, hc2⟩ := RdS.at (HBB.out.below HBw.out HB.out) (k := r) (by omega)
          have ha1 := HRA.out r hlt
          have ha2 := HRB.out r (by omega)
          have HCN := Lib.hid (show gclK k a b (r + 1) = gstK (gclK k a b r) ((gclK k a b r).getD (a.getD r 0).toNat 0) ((gclK k a b r).getD (b.getD r 0).toNat 0) k from rfl)
          obtain ⟨cn, HCN0⟩ : ∃ x, Hid (gclK k a b (r + 1) = x) := ⟨_, Lib.hid rfl⟩
          rw [HCN0.out] at HCN
          have HIN := Lib.hid (HCI.out r (by omega))
          have hcl := gclK_len k a b r
          generalize gclK k a b r = cl at HC2 HCN HIN hcl
          generalize a.getD r 0 = x1 at hc1 ha1 HCN
          generalize b.getD r 0 = x2 at hc2 ha2 HCN
          obtain ⟨q1, rfl⟩ : ∃ q : Nat, x1 = (q : Int) := ⟨x1.toNat, by omega⟩
          obtain ⟨q2, rfl⟩ : ∃ q : Nat, x2 = (q : Int) := ⟨x2.toNat, by omega⟩
          rw [Int.toNat_natCast, Int.toNat_natCast] at HCN
          have hq1 : q1 < k := by omega
          have hq2 : q2 < k := by omega
          have hd1 := HC2.out.at (k := q1) (by rw [hcl]; exact hq1)
          have hd2 := HC2.out.at (k := q2) (by rw [hcl]; exact hq2)
          generalize cl.getD q1 0 = y1 at hd1 HCN
          generalize cl.getD q2 0 = y2 at hd2 HCN
          have HCL := Lib.hid hcl
          have hrI : (r : Int) < (a.length : Int) := by omega
          have hrI2 : (r : Int) < (b.length : Int) := by omega
          clear hcl
          go_wp2
          go_region
          go_wp2
          go_loopw [57, 13] (fun i _ wr => ∃ j : Nat, j ≤ k ∧ i = .int .i64 j ∧ Hid (Below W.heap.size W wr) ∧ Hid (IR wr W.heap.size (gstK cl y1 y2 j))) (fun i _ _ => k - (intOf i).toNat)
          case atStart => exact ⟨0, Nat.zero_le _, rfl, Lib.hid HB2.out.drew, Lib.hid HC2.out⟩
          case round =>
            clear HB2 HC2 hd1 hd2 hc1 hc2
            obtain ⟨j, hj, rfl, HB3, HC3⟩ := hrel
            by_cases hltj : j < k
            · have hz := HC3.out.at (k := j) (by rw [gstK_len, HCL.out]; exact hltj)
              obtain ⟨gn, HNX0⟩ : ∃ x, Hid (gstK cl y1 y2 (j + 1) = x) := ⟨_, Lib.hid rfl⟩
              have HNX := Lib.hid (show gstK cl y1 y2 (j + 1) = if (gstK cl y1 y2 j).getD j 0 = max y1 y2 then (gstK cl y1 y2 j).set j (min y1 y2) else gstK cl y1 y2 j from rfl)
              rw [HNX0.out] at HNX
              have HMX := Lib.hid (fun w0 => l1Mx_any y1 y2 w0)
              have HLS := Lib.hid (fun w0 => l1Ls_any y1 y2 w0)
              have hlz := CellsAt.lt HC3.out
              have hfz := CellsAt.frozen HC3.out
              have hjI : (j : Int) < (k : Int) := by omega
              generalize gstK cl y1 y2 j = gs at HC3 HNX hz
              generalize gs.getD j 0 = z at hz HNX
              generalize max y1 y2 = mx at HMX HNX
              generalize min y1 y2 = mn at HLS HNX
              go_wp2
              have hz0 : wr.drew.cell? ⟨W.heap.size, j, none⟩ = some (.int .i64 z) := hz
              go_region_held3 (fun w' => w'.cell? ⟨W.heap.size, j, none⟩ = some (.int .i64 z)) (first | assumption | fail) (first | (go_at_call 73; go_split_ands; refine (HMX.out _).mono ?_; rintro e w' ⟨rfl, rfl⟩) | fail)
              by_cases hzm : z = mx
              · rw [if_pos hzm] at HNX
                have HZM := Lib.hid hzm
                subst hzm
                go_wp2_with (first | (go_at_call 42; refine (HLS.out _).mono ?_; rintro e w' ⟨rfl, rfl⟩) | fail)
                go_roundw
                all_goals first
                  | exact ⟨j + 1, by omega, by go_num, Lib.hid (HB3.out.setCell (by dsimp only; omega) _).drew, Lib.hid (by rw [HNX0.out, HNX.out]; exact HC3.out.put j mn)⟩
                  | (simp [intOf]; omega)
                  | (trace_state; fail)
              · rw [if_neg hzm] at HNX
                go_wp2
                go_roundw
                all_goals first
                  | exact ⟨j + 1, by omega, by go_num, Lib.hid HB3.out.drew, Lib.hid (by rw [HNX0.out, HNX.out]; exact HC3.out)⟩
                  | (simp [intOf]; omega)
                  | (trace_state; fail)
            · obtain rfl : j = k := by omega
              have hjn : ¬ (j : Int) < (j : Int) := by omega
              go_wp2
              go_roundw
              all_goals first
                | exact ⟨r + 1, by omega, by go_num, HB3, Lib.hid (by rw [HCN0.out, HCN.out]; exact HC3.out)⟩
                | (simp [intOf]; omega)
                | (trace_state; fail)
        · have hre : r = a.length := by omega
          have HCX := Lib.hid (show IR wo W.heap.size (glCls k a b) from by unfold glCls; rw [← hre]; exact HC2.out)
          have HCIN := Lib.hid (show inRg k (glCls k a b) from HCI.out a.length (Nat.le_refl _))
          have HCLN := Lib.hid (show (glCls k a b).length = k from gclK_len _ _ _ _)
          have HNU2 := Lib.hid (show num = gfiK (glCls k a b) (gusK k (glCls k a b) (cntRow k (fromL es xi)) (cntRow k (toL es xo)) k) (gnuK k (glCls k a b) (gusK k (glCls k a b) (cntRow k (fromL es xi)) (cntRow k (toL es xo)) k) k).1 k from HNUM.out)
          have HCN2 := Lib.hid (show cnt = (gnuK k (glCls k a b) (gusK k (glCls k a b) (cntRow k (fromL es xi)) (cntRow k (toL es xo)) k) k).2 from HCNT.out)
          clear HNUM HCNT
          generalize glCls k a b = cls at HCX HCIN HCLN HNU2 HCN2
          have hrn : ¬ (r : Int) < (a.length : Int) := by omega
          clear HCI hlt hr hre HA HBB HRA HRB HC2
          have HBw := Lib.hid (HWB.out.trans (HB2.out.mono HWB.out.size))
          have hws : w.heap.size + 2 ≤ W.heap.size := Nat.le_of_eq HWS.out.symm
          have hwo := HB2.out.size
          have HGo := Lib.hid ((HB2.out.block w.heap.size (by omega)).trans HWG.out)
          have hy0 := box_cell HGo.out 0
          have hy1 := box_cell HGo.out 1
          have hy2 := box_cell HGo.out 2
          have hy3 := box_cell HGo.out 3
          simp at hy0 hy1 hy2 hy3
          go_wp2_with fail
          refine (HCT.out wo HBw.out).mono ?_
          rintro e w2 ⟨uF, uT, rfl, b2, oF, oT⟩
          have HFR := Lib.hid oF.readB
          have HTR := Lib.hid oT.readB
          have HB20 := Lib.hid b2
          clear b2 oF oT hy1 hy2 hy3 HCT
          generalize cntRow k (fromL es xi) = F at HFR HNU2 HCN2 HFB HLF
          generalize cntRow k (toL es xo) = T at HTR HNU2 HCN2 HFB HLF
          obtain ⟨AF, cF, rfl⟩ := rdS_len HFR.out
          obtain ⟨AT, cT, rfl⟩ := rdS_len HTR.out
          have hw2 := HB20.out.size
          have hWo := CellsAt.lt HCX.out
          have HG2 := Lib.hid ((HB20.out.block w.heap.size (by omega)).trans HGo.out)
          have HC2 := Lib.hid (show IR w2 W.heap.size cls from CellsAt.below HCX.out HB20.out hWo)
          clear HCX HGo hy0
          have hg2 := box_cell HG2.out 0
          simp at hg2
          go_wp2
          go_loopw [86, 17, 18] (fun i _ _ wr => ∃ q : Nat, q ≤ k ∧ i = .int .i64 q ∧ Hid (Below w2.heap.size w2 wr) ∧ Hid (BR wr w2.heap.size (gusK k cls F T q))) (fun i _ _ _ => k - (intOf i).toNat)
          case atStart => exact ⟨0, Nat.zero_le _, rfl, Lib.hid ((Below.refl _ _).alloc (Nat.le_refl _) _), Lib.hid (made_bools w2 k)⟩
          case round =>
            obtain ⟨q, hq, rfl, HB4, HU4⟩ := hrel
            have hl4 := CellsAt.lt HU4.out
            have hf4 := CellsAt.frozen HU4.out
            have hs4 := HB4.out.size
            clear hg2
            by_cases hlt : q < k
            · have hc := (show IR wr W.heap.size cls from CellsAt.below HC2.out HB4.out (by omega)).at (k := q) (by rw [HCLN.out]; exact hlt)
              obtain ⟨bF, oF, rfl, hbF, hcF⟩ := RdS.at (HFR.out.below HB4.out (Nat.le_refl _)) (k := q) (by rw [HLF.out.1]; exact hlt)
              obtain ⟨bT, oT, rfl, hbT, hcT⟩ := RdS.at (HTR.out.below HB4.out (Nat.le_refl _)) (k := q) (by rw [HLF.out.2]; exact hlt)
              have hci := HCIN.out q (by rw [HCLN.out]; exact hlt)
              have hft := HFB.out q hlt
              obtain ⟨un, HNX0⟩ : ∃ x, Hid (gusK k cls F T (q + 1) = x) := ⟨_, Lib.hid rfl⟩
              have HNX := Lib.hid (show gusK k cls F T (q + 1) = if 0 < F.getD q 0 + T.getD q 0 then (gusK k cls F T q).set (cls.getD q 0).toNat true else gusK k cls F T q from rfl)
              rw [HNX0.out] at HNX
              have hul : (gusK k cls F T q).length = k := gusK_len _ _ _ _ _
              generalize gusK k cls F T q = us at HU4 HNX hul
              generalize F.getD q 0 = f0 at hcF HNX hft
              generalize T.getD q 0 = t0 at hcT HNX hft
              generalize cls.getD q 0 = c0 at hc HNX hci
              obtain ⟨c1, rfl⟩ : ∃ x : Nat, c0 = (x : Int) := ⟨c0.toNat, by omega⟩
              rw [Int.toNat_natCast] at HNX
              have hc1 : c1 < k := by omega
              have hc1I : (c1 : Int) < (k : Int) := by omega
              have hu := HU4.out.at (k := c1) (by rw [hul]; exact hc1)
              generalize us.getD c1 false = ub at hu
              have hwr : IntKind.i64.wrap (f0 + t0) = f0 + t0 := Go.IntWalk.i64_in _ ⟨by omega, by omega⟩
              have hqI : (q : Int) < (k : Int) := by omega
              have hFl : F.length = k := HLF.out.1
              have hTl : T.length = k := HLF.out.2
              have hqF : (q : Int) < (F.length : Int) := by rw [hFl]; exact hqI
              have hqT : (q : Int) < (T.length : Int) := by rw [hTl]; exact hqI
              clear hft hci hul hFl hTl
              go_wp2
              go_region
              by_cases hft : 0 < f0 + t0
              · rw [if_pos hft] at HNX
                go_wp2
                go_roundw
                all_goals first
                  | exact ⟨q + 1, by omega, by go_num, Lib.hid (HB4.out.setCell (by dsimp only; omega) _).drew, Lib.hid (by rw [HNX0.out, HNX.out]; exact HU4.out.put c1 true)⟩
                  | (simp [intOf]; omega)
                  | (trace_state; fail)
              · rw [if_neg hft] at HNX
                go_wp2
                go_roundw
                all_goals first
                  | exact ⟨q + 1, by omega, by go_num, Lib.hid HB4.out.drew, Lib.hid (by rw [HNX0.out, HNX.out]; exact HU4.out)⟩
                  | (simp [intOf]; omega)
                  | (trace_state; fail)
            · obtain rfl : q = k := by omega
              obtain ⟨w4, rfl⟩ : ∃ x, x = wr := ⟨wr, rfl⟩
              have hnl4 : ¬ (q : Int) < (q : Int) := by omega
              have HUL := Lib.hid (show (gusK q cls F T q).length = q from gusK_len _ _ _ _ _)
              generalize gusK q cls F T q = us at HU4 HNU2 HCN2 HUL
              clear hlt hq hf4 HFB HLF HFR HTR hnl
              have HG4 := Lib.hid ((HB4.out.block w.heap.size (by omega)).trans HG2.out)
              have HC4 := Lib.hid (show IR w4 W.heap.size cls from CellsAt.below HC2.out HB4.out (by omega))
              have hg4 := box_cell HG4.out 0
              simp at hg4
              go_wp2
              go_loopw [110, 20, 21] (fun i n _ wr => ∃ r : Nat, r ≤ q ∧ i = .int .i64 r ∧ n = .int .i64 ((gnuK q cls us r).2 : Nat) ∧ Hid (Below w4.heap.size w4 wr) ∧ Hid (IR wr w4.heap.size (gnuK q cls us r).1)) (fun i _ _ _ => q - (intOf i).toNat)
              case atStart => exact ⟨0, Nat.zero_le _, rfl, rfl, Lib.hid ((Below.refl _ _).alloc (Nat.le_refl _) _), Lib.hid (made_ints w4 q)⟩
              case round =>
                obtain ⟨r, hr, rfl, rfl, HB5, HN5⟩ := hrel
                have hl5 := CellsAt.lt HN5.out
                have hf5 := CellsAt.frozen HN5.out
                have hs5 := HB5.out.size
                clear hg4
                have HC5 := Lib.hid (show IR wr W.heap.size cls from CellsAt.below HC4.out HB5.out (by omega))
                have HU5 := Lib.hid (show BR wr w2.heap.size us from CellsAt.below HU4.out HB5.out hl4)
                by_cases hlt : r < q
                · have hc := HC5.out.at (k := r) (by rw [HCLN.out]; exact hlt)
                  have hu := HU5.out.at (k := r) (by rw [HUL.out]; exact hlt)
                  have hm := HN5.out.at (k := r) (by rw [gnuK_len]; exact hlt)
                  obtain ⟨nn, HNX0⟩ : ∃ x, Hid (gnuK q cls us (r + 1) = x) := ⟨_, Lib.hid rfl⟩
                  have HNX := Lib.hid (show gnuK q cls us (r + 1) = if cls.getD r 0 = r ∧ us.getD r false = true then ((gnuK q cls us r).1.set r (gnuK q cls us r).2, (gnuK q cls us r).2 + 1) else gnuK q cls us r from rfl)
                  rw [HNX0.out] at HNX
                  have hnle := gnuK_le q cls us r
                  generalize gnuK q cls us r = nu at HN5 HNX hm hnle
                  obtain ⟨nl, n0⟩ := nu
                  dsimp only at HN5 HNX hm hnle
                  generalize nl.getD r 0 = m0 at hm
                  generalize cls.getD r 0 = c0 at hc HNX
                  generalize us.getD r false = u0 at hu HNX
                  have hwn : IntKind.i64.wrap ((n0 : Int) + 1) = (n0 : Int) + 1 := Go.IntWalk.i64_in _ ⟨by omega, by omega⟩
                  have hrI : (r : Int) < (q : Int) := by omega
                  by_cases hcr : c0 = (r : Int)
                  · subst hcr
                    cases u0 with
                    | true =>
                      rw [if_pos ⟨rfl, rfl⟩] at HNX
                      go_wp2
                      go_roundw
                      all_goals first
                        | exact ⟨r + 1, by omega, by go_num, by rw [HNX0.out, HNX.out]; simp, Lib.hid (HB5.out.setCell (by dsimp only; omega) _), Lib.hid (by rw [HNX0.out, HNX.out]; exact HN5.out.put r n0)⟩
                        | (simp [intOf]; omega)
                        | (trace_state; fail)
                    | false =>
                      rw [if_neg (by simp)] at HNX
                      go_wp2
                      go_roundw
                      all_goals first
                        | exact ⟨r + 1, by omega, by go_num, by rw [HNX0.out, HNX.out], HB5, Lib.hid (by rw [HNX0.out, HNX.out]; exact HN5.out)⟩
                        | (simp [intOf]; omega)
                        | (trace_state; fail)
                  · rw [if_neg (fun h => hcr h.1)] at HNX
                    go_wp2
                    go_roundw
                    all_goals first
                      | exact ⟨r + 1, by omega, by go_num, by rw [HNX0.out, HNX.out], HB5, Lib.hid (by rw [HNX0.out, HNX.out]; exact HN5.out)⟩
                      | (simp [intOf]; omega)
                      | (trace_state; fail)
                · obtain rfl : r = q := by omega
                  obtain ⟨w5, rfl⟩ : ∃ x, x = wr := ⟨wr, rfl⟩
                  have hnl5 : ¬ (r : Int) < (r : Int) := by omega
                  have HML := Lib.hid (show (gnuK r cls us r).1.length = r from gnuK_len _ _ _ _)
                  rw [← HCN2.out]
                  have HN6 := Lib.hid (show IR w5 w4.heap.size (gfiK cls us (gnuK r cls us r).1 0) from HN5.out)
                  generalize (gnuK r cls us r).1 = nl at HN6 HNU2 HML
                  clear hlt hr hf5 HN5 hnl4
                  go_wp2
                  go_loopw [134, 22] (fun i _ wr => ∃ s : Nat, s ≤ r ∧ i = .int .i64 s ∧ Hid (Below w4.heap.size w4 wr) ∧ Hid (IR wr w4.heap.size (gfiK cls us nl s))) (fun i _ _ => r - (intOf i).toNat)
                  case atStart => exact ⟨0, Nat.zero_le _, rfl, HB5, HN6⟩
                  case round =>
                    clear HN6 HC5 HU5
                    obtain ⟨s, hs, rfl, HB6, HN6⟩ := hrel
                    have hl6 := CellsAt.lt HN6.out
                    have hf6 := CellsAt.frozen HN6.out
                    have hs6 := HB6.out.size
                    have HC6 := Lib.hid (show IR wr W.heap.size cls from CellsAt.below HC4.out HB6.out (by omega))
                    have HU6 := Lib.hid (show BR wr w2.heap.size us from CellsAt.below HU4.out HB6.out hl4)
                    by_cases hlt : s < r
                    · have hc := HC6.out.at (k := s) (by rw [HCLN.out]; exact hlt)
                      have hci := HCIN.out s (by rw [HCLN.out]; exact hlt)
                      obtain ⟨nn, HNX0⟩ : ∃ x, Hid (gfiK cls us nl (s + 1) = x) := ⟨_, Lib.hid rfl⟩
                      have HNX := Lib.hid (show gfiK cls us nl (s + 1) = if us.getD (cls.getD s 0).toNat false = true then (gfiK cls us nl s).set s ((gfiK cls us nl s).getD (cls.getD s 0).toNat 0) else ((gfiK cls us nl s).set s ((gfiK cls us nl s).getD (cls.getD s 0).toNat 0)).set s (-1) from rfl)
                      rw [HNX0.out] at HNX
                      have hfl := gfiK_len cls us nl s
                      generalize gfiK cls us nl s = fl at HN6 HNX hfl
                      generalize cls.getD s 0 = c0 at hc HNX hci
                      obtain ⟨c1, rfl⟩ : ∃ x : Nat, c0 = (x : Int) := ⟨c0.toNat, by omega⟩
                      rw [Int.toNat_natCast] at HNX
                      have hc1 : c1 < r := by omega
                      have hc1I : (c1 : Int) < (r : Int) := by omega
                      have hu := HU6.out.at (k := c1) (by rw [HUL.out]; exact hc1)
                      have hm := HN6.out.at (k := c1) (by rw [hfl, HML.out]; exact hc1)
                      have hms := HN6.out.at (k := s) (by rw [hfl, HML.out]; exact hlt)
                      generalize us.getD c1 false = u0 at hu HNX
                      generalize fl.getD c1 0 = m0 at hm HNX
                      generalize fl.getD s 0 = m1 at hms
                      have hsI : (s : Int) < (r : Int) := by omega
                      have hne1 : ¬ W.heap.size = w4.heap.size := by omega
                      have hne2 : ¬ w2.heap.size = w4.heap.size := by omega
                      clear hfl hci
                      cases u0 with
                      | true =>
                        rw [if_pos rfl] at HNX
                        go_wp2
                        go_roundw
                        all_goals first
                          | exact ⟨s + 1, by omega, by go_num, Lib.hid (HB6.out.setCell (by dsimp only; omega) _), Lib.hid (by rw [HNX0.out, HNX.out]; exact HN6.out.put s m0)⟩
                          | (simp [intOf]; omega)
                          | (trace_state; fail)
                      | false =>
                        rw [if_neg (by simp)] at HNX
                        go_wp2
                        go_roundw
                        all_goals first
                          | exact ⟨s + 1, by omega, by go_num, Lib.hid ((HB6.out.setCell (by dsimp only; omega) _).setCell (by dsimp only; omega) _), Lib.hid (by rw [HNX0.out, HNX.out]; exact (HN6.out.put s m0).put s (-1))⟩
                          | (simp [intOf]; omega)
                          | (trace_state; fail)
                    · obtain rfl : s = r := by omega
                      rw [← HNU2.out] at HN6
                      have hsn : ¬ (s : Int) < (s : Int) := by omega
                      have hnl : num.length = s := by rw [HNU2.out, gfiK_len]; exact HML.out
                      have hrd := HN6.out.rd wr.heap.size hl6
                      rw [hnl] at hrd
                      have HRD := Lib.hid hrd
                      have HNL := Lib.hid hnl
                      have HB2w := Lib.hid (HBw.out.trans (HB20.out.mono HBw.out.size))
                      have HB4w := Lib.hid (HB2w.out.trans (HB4.out.mono HB2w.out.size))
                      have HB6w := Lib.hid (HB4w.out.trans (HB6.out.mono HB4w.out.size))
                      have HG6 := Lib.hid ((HB6.out.block w.heap.size (by omega)).trans HG4.out)
                      have HR6 := Lib.hid ((HB6.out.block (w.heap.size + 1) (by omega)).trans ((HB4.out.block (w.heap.size + 1) (by omega)).trans ((HB20.out.block (w.heap.size + 1) (by omega)).trans ((HB2.out.block (w.heap.size + 1) (by omega)).trans HWR.out))))
                      have hy0 := box_cell HG6.out 0
                      have hy1 := box_cell HG6.out 1
                      have hy2 := box_cell HG6.out 2
                      have hy3 := box_cell HG6.out 3
                      simp at hy0 hy1 hy2 hy3
                      clear hrd hnl hlt hs
                      go_wp2_with fail
                      refine (HMP.out wr HB6w.out (.slice (some ⟨w4.heap.size, 0, none⟩) s s) cnt num HNL.out wr.heap.size (Nat.le_trans HB.out HB6w.out.size) (Nat.le_refl _) HRD.out).mono ?_
                      rintro e w7 ⟨v1, v2, v3, rfl, b7, o1, o2, o3⟩
                      have hrb := (b7.block (w.heap.size + 1) (by omega)).trans HR6.out
                      have hx0 := box_cell hrb 0
                      have hx1 := box_cell hrb 1
                      have hx2 := box_cell hrb 2
                      have hx3 := box_cell hrb 3
                      have hxf := box_free hrb
                      simp at hx0 hx1 hx2 hx3
                      have hl7 : w.heap.size + 1 < w7.heap.size := by have := b7.size; omega
                      have HB7 := Lib.hid (HB6w.out.trans (b7.mono HB6w.out.size))
                      have HN7 := Lib.hid (show IR w7 w4.heap.size num from CellsAt.below HN6.out b7 hl6)
                      obtain ⟨A1, c1, rfl⟩ := o1.len
                      obtain ⟨A2, c2, rfl⟩ := o2.len
                      obtain ⟨A3, c3, rfl⟩ := o3.len
                      have HO1 := Lib.hid o1
                      have HO2 := Lib.hid o2
                      have HO3 := Lib.hid o3
                      have hzs : w.heap.size + 2 ≤ w4.heap.size ∧ w4.heap.size ≤ wr.heap.size := by omega
                      clear hrb b7 o1 o2 o3
                      go_wp2
                      have HBF := Lib.hid (show Below w.heap.size w ((((w7.setCell ⟨w.heap.size + 1, 0, none⟩ (.int .i64 cnt)).setCell ⟨w.heap.size + 1, 1, none⟩ (.slice A1 (mapEs num es).length c1)).setCell ⟨w.heap.size + 1, 2, none⟩ (.slice A2 (pickL xi num).length c2)).setCell ⟨w.heap.size + 1, 3, none⟩ (.slice A3 (pickL xo num).length c3)) from by
                        repeat' (first | exact HB7.out | apply Below.setCell | (simp; done)))
                      refine bodyPost_ret (v := .tuple #[.agg #[.int .i64 cnt, .slice A1 (mapEs num es).length c1, .slice A2 (pickL xi num).length c2, .slice A3 (pickL xo num).length c3], .slice (some ⟨w4.heap.size, 0, none⟩) s s]) (by simp [results, Try.results82, go_sem, hx0, hx1, hx2, hx3]) rfl ?_
                      refine ⟨_, _, _, _, rfl, HBF.out, ?_, ?_, ?_, ?_⟩
                      · exact (HO1.out.blocks (fun q hq _ => by repeat rw [blk_setCell_other _ _ _ _ (by dsimp only; omega)])).mono fun q hq _ => by omega
                      · exact (HO2.out.blocks (fun q hq _ => by repeat rw [blk_setCell_other _ _ _ _ (by dsimp only; omega)])).mono fun q hq _ => by omega
                      · exact (HO3.out.blocks (fun q hq _ => by repeat rw [blk_setCell_other _ _ _ _ (by dsimp only; omega)])).mono fun q hq _ => by omega
                      · exact owR_at (by omega) (CellsAt.of_block HN7.out (by repeat rw [blk_setCell_other _ _ _ _ (by dsimp only; omega)])) HNL.out.symm
end Go.Proofs.Ytdcgoeapgboclaa
