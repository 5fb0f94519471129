/- The program's open graph, copied into a graph. -/
import Derived.Test.YtdcgoeapgboclaaOpO
import Derived.Test.YtdcgoeapgboclaaLeafF
import Derived.Test.YtdcgoeapgboclaaRetGraphB
namespace Go.Proofs.Ytdcgoeapgboclaa
set_option maxRecDepth 100000
open Go Go.RowKit Go.Deep

/-- What a call leaves that copies an open graph if it is valid. -/
def ResRet (w : World) (n : Int) (es : List Ed) (xi xo : List Int) (e : Ending) (w' : World) : Prop :=
  (validB n es xi xo = false ∧ IRetGraphB w 0 [] [] [] false e w') ∨ (validB n es xi xo = true ∧ IRetGraphB w n es xi xo true e w')
theorem ownE_nil (w : World) (S : Nat → Prop) (A : Option Addr) (c : Nat) : OwnE w S (.slice A 0 c) [] := ⟨⟨A, c, rfl, Nat.zero_le c, Or.inl rfl⟩, by simp [cntE, sumE]⟩
theorem ownR_nil (w : World) (S : Nat → Prop) (A : Option Addr) (c : Nat) : OwnR w S (.slice A 0 c) [] := ⟨OwR.nil A c, by simp [szR]⟩
theorem valid_small {n : Int} {es : List Ed} {xi xo : List Int} (h : validB n es xi xo = true) : es.length ≤ 60 ∧ xi.length ≤ 12 ∧ xo.length ≤ 12 ∧ cntE es ≤ 1000 ∧ ∀ k, k < es.length → (es.getD k ed0).i.length ≤ 1000 ∧ (es.getD k ed0).o.length ≤ 1000 := by
  obtain ⟨⟨-, -, a, b, c⟩, d, -, -⟩ := valid_iff.1 h
  have h1 := occ_len d a b c
  have h2 : sumE es ≤ (occL es xi xo).length := by
    unfold occL sumE
    rw [List.length_append, List.length_flatten, List.map_map]
    have : (fun e : Ed => (e.i ++ e.o).length) = wid := by funext e; simp [wid]
    have e2 : (List.length ∘ fun e : Ed => e.i ++ e.o) = wid := by funext e; simp [wid]
    rw [e2]
    omega
  refine ⟨a, b, c, ?_, fun k hk => ?_⟩
  · unfold cntE
    have : sumE es ≤ es.length * 4 := by
      rw [List.any_eq_false] at d
      have hs : ∀ l : List Ed, (∀ e, e ∈ l → edP e = true) → sumE l ≤ l.length * 4 := by
        intro l
        induction l with
        | nil => simp [sumE]
        | cons e l ih =>
          intro hl
          have := ih fun x hx => hl x (List.mem_cons_of_mem _ hx)
          have he := (edP_iff e).1 (hl e (by simp))
          have hk := kindW_bd e.k
          simp only [sumE, List.map_cons, List.sum_cons, List.length_cons, wid] at this ⊢
          omega
      exact hs es fun e he => by simpa using d e he
    omega
  · have := sumE_at hk
    omega
set_option maxRecDepth 100000 in
set_option maxHeartbeats 6400000 in
theorem result_any (w : World) (B : Nat) (ui uo ue : Value) (n : Int) (es : List Ed) (xi xo : List Int) (hi : RdS w (fun q => q < B) ui xi) (ho : RdS w (fun q => q < B) uo xo) (he : RdO w B ue es) (hB : B ≤ w.heap.size)
    (l1 : es.length ≤ 9223372036854775807) (l2 : xi.length ≤ 9223372036854775807) (l3 : xo.length ≤ 9223372036854775807) :
    Calls Try.prog 35 #[ogV ui uo n ue] w (ResRet w n es xi xo) := by
  obtain ⟨AI, cI, rfl⟩ : ∃ A c, ui = .slice A xi.length c := by obtain ⟨A, c, e, _⟩ := hi; exact ⟨A, c, e⟩
  obtain ⟨AO, cO, rfl⟩ : ∃ A c, uo = .slice A xo.length c := by obtain ⟨A, c, e, _⟩ := ho; exact ⟨A, c, e⟩
  obtain ⟨AE, cE, rfl⟩ := he.len
  have HI := Lib.hid hi
  have HO := Lib.hid ho
  have HE := Lib.hid he
  have HB := Lib.hid hB
  have HIV := Lib.hid (fun (w' : World) (hb : Below w.heap.size w w') => ogValid_any w' B _ _ _ n es xi xo (hi.below hb hB) (ho.below hb hB) (he.below hb hB) (Nat.le_trans hB hb.size) l1 l2 l3)
  unfold ogV at *
  clear hi ho he hB
  cases hv : validB n es xi xo with
  | false =>
    rw [hv] at HIV
    have HV := Lib.hid hv
    clear hv
    go_enter Try.func35, Try.ntmps35
    go_wp2_with fail
    refine (HIV.out _ (((Below.refl w.heap.size w).alloc (Nat.le_refl _) _).alloc (by simp) _)).mono ?_
    rintro e w2 ⟨rfl, b2⟩
    have HB2 := Lib.hid ((((Below.refl w.heap.size w).alloc (Nat.le_refl _) _).alloc (by simp) _).trans (b2.mono (by simp; omega)))
    have HX := Lib.hid (fun (i : Nat) => b2.cell (p := ⟨w.heap.size + 1, i, none⟩) (by simp))
    have HXF := Lib.hid (fun (i : Nat) => b2.frozen (p := ⟨w.heap.size + 1, i, none⟩) (by simp))
    have hs2 : w.heap.size + 2 ≤ w2.heap.size := by have := b2.size; simp at this; omega
    have hx0 : w2.cell? ⟨w.heap.size + 1, 0, none⟩ = some (.int .i64 0) := by have := HX.out 0; simpa [go_sem] using this
    have hx1 : w2.cell? ⟨w.heap.size + 1, 1, none⟩ = some (.slice none 0 0) := by have := HX.out 1; simpa [go_sem] using this
    have hx2 : w2.cell? ⟨w.heap.size + 1, 2, none⟩ = some (.slice none 0 0) := by have := HX.out 2; simpa [go_sem] using this
    have hx3 : w2.cell? ⟨w.heap.size + 1, 3, none⟩ = some (.slice none 0 0) := by have := HX.out 3; simpa [go_sem] using this
    have hxf : ∀ i, w2.frozen? ⟨w.heap.size + 1, i, none⟩ = false := fun i => by have := HXF.out i; simpa [go_sem] using this
    clear b2 HX HXF
    go_wp2
    refine bodyPost_ret (v := .tuple #[.agg #[.int .i64 0, .slice none 0 0, .slice none 0 0, .slice none 0 0], .bool false]) (by simp [results, Try.results35, go_sem, hx0, hx1, hx2, hx3]) rfl ?_
    exact Or.inl ⟨HV.out, _, _, _, fun _ => False, fun _ => False, fun _ => False, rfl, by repeat' (first | exact HB2.out | apply Below.setCell | (simp; done) | omega | (simp; omega)), fun _ h => h.elim, fun _ h => h.elim, fun _ h => h.elim, fun _ h => h.elim, fun _ h => h.elim, fun _ h => h.elim, ownE_nil _ _ _ _, ownR_nil _ _ _ _, ownR_nil _ _ _ _⟩
  | true =>
    obtain ⟨q1, q2, q3, q4, q5⟩ := valid_small hv
    rw [hv] at HIV
    have HV := Lib.hid hv
    have HQ5 := Lib.hid q5
    have HQ4 := Lib.hid q4
    clear hv q5 q4
    have hmk := make_edges es.length (by omega)
    go_enter Try.func35, Try.ntmps35
    go_wp2_with fail
    refine (HIV.out _ (((Below.refl w.heap.size w).alloc (Nat.le_refl _) _).alloc (by simp) _)).mono ?_
    rintro e w2 ⟨rfl, b2⟩
    have HBB := Lib.hid b2
    have hs2 : w.heap.size + 2 ≤ w2.heap.size := by have := b2.size; simp at this; omega
    have HB2 := Lib.hid ((((Below.refl w.heap.size w).alloc (Nat.le_refl _) (.cells #[.slice AI xi.length cI, .slice AO xo.length cO, .int .i64 n, .slice AE es.length cE] 53)).alloc (by simp) (.cells #[.int .i64 0, .slice none 0 0, .slice none 0 0, .slice none 0 0] 29)).trans (b2.mono (by simp; omega)))
    have HXB := Lib.hid (show w2.heap[w.heap.size]? = some (.cells #[.slice AI xi.length cI, .slice AO xo.length cO, .int .i64 n, .slice AE es.length cE] 53 (0, 0)) from (b2.block _ (by simp; omega)).trans ((blk_alloc_lt _ _ _ (by simp)).trans (blk_alloc_new w _)))
    have HXR := Lib.hid (show w2.heap[w.heap.size + 1]? = some (.cells #[.int .i64 0, .slice none 0 0, .slice none 0 0, .slice none 0 0] 29 (0, 0)) from (b2.block _ (by simp)).trans (by have := blk_alloc_new (w.alloc (.cells #[.slice AI xi.length cI, .slice AO xo.length cO, .int .i64 n, .slice AE es.length cE] 53)) (.cells #[.int .i64 0, .slice none 0 0, .slice none 0 0, .slice none 0 0] 29); simpa using this))
    have hx3 : w2.cell? ⟨w.heap.size, 3, none⟩ = some (.slice AE es.length cE) := by have := box_cell HXB.out 3; simpa using this
    have hl2 : w.heap.size < w2.heap.size := by omega
    have hl3 : ¬ w.heap.size = w2.heap.size := by omega
    clear b2 HBB
    go_wp2
    go_loopw [18] (fun i wr => ∃ (k : Nat) (vs : Nat → Value), k ≤ es.length ∧ i = .int .i64 k ∧ Hid (Below w2.heap.size w2 wr) ∧ Hid (EdAt wr (fun q => w2.heap.size ≤ q ∧ q < wr.heap.size) w2.heap.size (es.take k ++ List.replicate (es.length - k) ed0) vs)) (fun i _ => es.length - (intOf i).toNat)
    case atStart => exact ⟨0, _, Nat.zero_le _, rfl, Lib.hid ((Below.refl _ _).alloc (Nat.le_refl _) _), Lib.hid (by rw [List.take_zero, List.nil_append, Nat.sub_zero]; exact made_edges w2 es.length _ ⟨Nat.le_refl _, by simp⟩)⟩
    case round =>
      obtain ⟨k, vs, hk, rfl, HB3, HO3⟩ := hrel
      have hos := HO3.out.outer.lt
      have HBW := Lib.hid (HB2.out.trans (HB3.out.mono (by omega)))
      by_cases hlt : k < es.length
      · obtain ⟨b, o, A1, c1, A2, c2, rfl, hb, hc0, hc1, hc2, hc3, hc4, r1, r2⟩ := (HE.out.below HBW.out HB.out).at hlt
        have HST := Lib.hid (tk_stepE hlt)
        obtain ⟨s1, s2⟩ := HQ5.out k hlt
        have hyl : k < (es.take k ++ List.replicate (es.length - k) ed0).length := by simp; omega
        generalize es.take k ++ List.replicate (es.length - k) ed0 = ys at HO3 HST hyl
        generalize es.getD k ed0 = ed at hc0 hc1 hc2 hc3 hc4 r1 r2 HST s1 s2
        have HR1 := Lib.hid r1
        have HR2 := Lib.hid r2
        clear r1 r2
        have hkI : (k : Int) < (es.length : Int) := by omega
        go_wp2
        obtain ⟨W, HW⟩ : ∃ W, W = wr.alloc (.cells #[.slice A1 ed.i.length c1, .slice A2 ed.o.length c2, .int .i64 ed.k, .int .i64 ed.v, .string ByteArray.empty] 70) := ⟨_, rfl⟩
        rw [← HW]
        have HWB := Lib.hid (show Below wr.heap.size wr W from by rw [HW]; exact (Below.refl _ _).alloc (Nat.le_refl _) _)
        have HWS := Lib.hid (show W.heap.size = wr.heap.size + 1 from by rw [HW]; simp)
        have HWE := Lib.hid (show W.heap[wr.heap.size]? = some (.cells #[.slice A1 ed.i.length c1, .slice A2 ed.o.length c2, .int .i64 ed.k, .int .i64 ed.v, .string ByteArray.empty] 70 (0, 0)) from by rw [HW]; exact blk_alloc_new _ _)
        clear HW hc0 hc1 hc2 hc3 hc4
        have HELD : Hid (∀ w' : World, Below W.heap.size W w' → w'.cell? ⟨wr.heap.size, 0, none⟩ = some (.slice A1 ed.i.length c1) ∧ w'.cell? ⟨wr.heap.size, 1, none⟩ = some (.slice A2 ed.o.length c2) ∧ w'.cell? ⟨wr.heap.size, 2, none⟩ = some (.int .i64 ed.k) ∧ w'.cell? ⟨wr.heap.size, 3, none⟩ = some (.int .i64 ed.v) ∧ w'.cell? ⟨wr.heap.size, 4, none⟩ = some (.string ByteArray.empty)) := Lib.hid (fun w' h => by
          have hb := (h.block wr.heap.size (by rw [HWS.out]; omega)).trans HWE.out
          exact ⟨box_cell hb 0, box_cell hb 1, box_cell hb 2, box_cell hb 3, box_cell hb 4⟩)
        have HCL1 := Lib.hid (clone_any W.drew B (.slice A1 ed.i.length c1) ed.i (HR1.out.below (HWB.out.drew) (by have := HB.out; have := HBW.out.size; omega)) (by have := HB.out; have := HBW.out.size; have := HWB.out.size; show B ≤ W.heap.size; omega) (by omega))
        have HCL2 := Lib.hid (fun (w' : World) (h : Below W.heap.size W w') => clone_any w' B (.slice A2 ed.o.length c2) ed.o ((HR2.out.below HWB.out (by have := HB.out; have := HBW.out.size; omega)).below h (by have := HB.out; have := HBW.out.size; have := HWB.out.size; omega)) (by have := HB.out; have := HBW.out.size; have := HWB.out.size; have := h.size; omega) (by omega))
        have HEX : Hid (∀ w' : World, Below W.heap.size W w' → EdAt w' (fun q => w2.heap.size ≤ q ∧ q < wr.heap.size) w2.heap.size ys vs) := Lib.hid (fun w' h => HO3.out.blocks (fun q hq hl => (h.block q (by rw [HWS.out]; omega)).trans (HWB.out.block q hl)))
        have HD0 := Lib.hid (HELD.out W.drew (Below.refl _ _).drew)
        go_region_held3 (fun w' => w'.cell? ⟨wr.heap.size, 0, none⟩ = some (.slice A1 ed.i.length c1) ∧ w'.cell? ⟨wr.heap.size, 1, none⟩ = some (.slice A2 ed.o.length c2) ∧ w'.cell? ⟨wr.heap.size, 2, none⟩ = some (.int .i64 ed.k) ∧ w'.cell? ⟨wr.heap.size, 3, none⟩ = some (.int .i64 ed.v) ∧ w'.cell? ⟨wr.heap.size, 4, none⟩ = some (.string ByteArray.empty))
          (first
            | with_reducible exact HD0.out
            | with_reducible exact HD1.out
            | with_reducible exact HD2.out
            | (have hs3 := HB5.out.size; have hws := HWS.out; exact ⟨(World.cell?_of_block (w := w4) (by repeat rw [blk_setCell_other _ _ _ _ (by dsimp only; omega)])).trans HD2.out.1, (World.cell?_of_block (w := w4) (by repeat rw [blk_setCell_other _ _ _ _ (by dsimp only; omega)])).trans HD2.out.2.1, (World.cell?_of_block (w := w4) (by repeat rw [blk_setCell_other _ _ _ _ (by dsimp only; omega)])).trans HD2.out.2.2.1, (World.cell?_of_block (w := w4) (by repeat rw [blk_setCell_other _ _ _ _ (by dsimp only; omega)])).trans HD2.out.2.2.2.1, (World.cell?_of_block (w := w4) (by repeat rw [blk_setCell_other _ _ _ _ (by dsimp only; omega)])).trans HD2.out.2.2.2.2⟩)
            | fail)
          (first
            | (go_at_call 63; go_split_ands; refine HCL1.out.mono ?_; rintro e w3 ⟨v3, rfl, b3, o3⟩; obtain ⟨A3, c3, rfl⟩ := o3.len; have HB4 : Hid (Below W.heap.size W w3) := Lib.hid ((Below.refl _ _).drew.trans b3); have HD1 := Lib.hid (HELD.out w3 HB4.out); have HOI := Lib.hid o3; clear b3 o3)
            | (go_at_call 63; go_split_ands; refine (HCL2.out w3 HB4.out).mono ?_; rintro e w4 ⟨v4, rfl, b4, o4⟩; obtain ⟨A4, c4, rfl⟩ := o4.len; have HB5 : Hid (Below W.heap.size W w4) := Lib.hid (HB4.out.trans (b4.mono HB4.out.size)); have HD2 := Lib.hid (HELD.out w4 HB5.out); have HOO := Lib.hid o4; have HOJ := Lib.hid ((HOI.out.mono (T := fun q => W.heap.size ≤ q ∧ q < w3.heap.size) (fun q hq hl => ⟨hq, hl⟩)).blocks (w' := w4) (fun q hq hl _ _ => b4.block q hl)); have HNEW := Lib.hid ((HEX.out w4 HB5.out).put hyl ed HOJ.out HOO.out (fun q hq hs => by have := HWS.out; have := hq.1; have := hs.2; omega) (fun q hq hs => by have := HWS.out; have := HB4.out.size; have := hs.2; omega) (fun q h1 h2 => by have := h1.2; omega)); obtain ⟨x0, hu0⟩ : ∃ u, w4.cell? ⟨w2.heap.size, k * 4, none⟩ = some u := ⟨_, (HEX.out w4 HB5.out).cell (j := k * 4) (by omega)⟩; obtain ⟨x1, hu1⟩ : ∃ u, w4.cell? ⟨w2.heap.size, k * 4 + 1, none⟩ = some u := ⟨_, (HEX.out w4 HB5.out).cell (j := k * 4 + 1) (by omega)⟩; obtain ⟨x2, hu2⟩ : ∃ u, w4.cell? ⟨w2.heap.size, k * 4 + 2, none⟩ = some u := ⟨_, (HEX.out w4 HB5.out).cell (j := k * 4 + 2) (by omega)⟩; obtain ⟨x3, hu3⟩ : ∃ u, w4.cell? ⟨w2.heap.size, k * 4 + 3, none⟩ = some u := ⟨_, (HEX.out w4 HB5.out).cell (j := k * 4 + 3) (by omega)⟩; have hf := (HEX.out w4 HB5.out).outer.frozen; clear b4 o4)
            | fail)
        rw [HST.out] at HNEW
        have HB6 := Lib.hid (HB3.out.trans ((HWB.out.mono HB3.out.size).trans (HB5.out.mono (by rw [HWS.out]; have := HB3.out.size; omega))))
        go_wp2
        go_roundw
        case rel => exact ⟨k + 1, _, by omega, by go_num, Lib.hid (by repeat' (first | exact HB6.out | apply Below.setCell | exact Nat.le_refl _)), Lib.hid (HNEW.out.mono (fun q hq hlq => ⟨by
          have := HWS.out; have := HB4.out.size; have := HB3.out.size
          rcases hq with h | h | h
          · exact h.1
          · have := h.1; omega
          · omega, by simpa using hlq⟩))⟩
        case measure => simp [intOf]; omega
      · have hk2 : es.take k ++ List.replicate (es.length - k) ed0 = es := by
          rw [List.take_of_length_le (by omega), show es.length - k = 0 by omega]
          simp
        rw [hk2] at HO3
        clear hk2
        have hkI : ¬ (k : Int) < (es.length : Int) := by omega
        have HELD : Hid (∀ w' : World, Below wr.heap.size wr w' → w'.cell? ⟨w.heap.size, 0, none⟩ = some (.slice AI xi.length cI) ∧ w'.cell? ⟨w.heap.size, 1, none⟩ = some (.slice AO xo.length cO) ∧ w'.cell? ⟨w.heap.size, 2, none⟩ = some (.int .i64 n) ∧ w'.cell? ⟨w.heap.size, 3, none⟩ = some (.slice AE es.length cE)) := Lib.hid (fun w' h => by
          have hb := (h.block w.heap.size (by omega)).trans ((HB3.out.block _ (by omega)).trans HXB.out)
          exact ⟨box_cell hb 0, box_cell hb 1, box_cell hb 2, box_cell hb 3⟩)
        have HRES : Hid (∀ w' : World, Below wr.heap.size wr w' → w'.cell? ⟨w.heap.size + 1, 0, none⟩ = some (.int .i64 0) ∧ w'.cell? ⟨w.heap.size + 1, 1, none⟩ = some (.slice none 0 0) ∧ w'.cell? ⟨w.heap.size + 1, 2, none⟩ = some (.slice none 0 0) ∧ w'.cell? ⟨w.heap.size + 1, 3, none⟩ = some (.slice none 0 0) ∧ ∀ i, w'.frozen? ⟨w.heap.size + 1, i, none⟩ = false) := Lib.hid (fun w' h => by
          have hb := (h.block (w.heap.size + 1) (by omega)).trans ((HB3.out.block _ (by omega)).trans HXR.out)
          exact ⟨box_cell hb 0, box_cell hb 1, box_cell hb 2, box_cell hb 3, fun i => box_free hb i⟩)
        have HCL1 := Lib.hid (clone_any wr.drew B (.slice AI xi.length cI) xi (HI.out.below HBW.out.drew HB.out) (by have := HB.out; have := HBW.out.size; show B ≤ wr.heap.size; omega) (by omega))
        have HCL2 := Lib.hid (fun (w' : World) (h : Below wr.heap.size wr w') => clone_any w' B (.slice AO xo.length cO) xo ((HO.out.below HBW.out HB.out).below h (by have := HB.out; have := HBW.out.size; omega)) (by have := HB.out; have := HBW.out.size; have := h.size; omega) (by omega))
        have HD0 := Lib.hid (HELD.out wr.drew (Below.refl _ _).drew)
        go_wp2
        go_region_held3 (fun w' => w'.cell? ⟨w.heap.size, 0, none⟩ = some (.slice AI xi.length cI) ∧ w'.cell? ⟨w.heap.size, 1, none⟩ = some (.slice AO xo.length cO) ∧ w'.cell? ⟨w.heap.size, 2, none⟩ = some (.int .i64 n) ∧ w'.cell? ⟨w.heap.size, 3, none⟩ = some (.slice AE es.length cE))
          (first
            | with_reducible exact HD0.out
            | with_reducible exact HD1.out
            | with_reducible exact HD2.out
            | (exact ⟨(World.cell?_of_block (w := w4) (by repeat rw [blk_setCell_other _ _ _ _ (by dsimp only; omega)])).trans HD2.out.1, (World.cell?_of_block (w := w4) (by repeat rw [blk_setCell_other _ _ _ _ (by dsimp only; omega)])).trans HD2.out.2.1, (World.cell?_of_block (w := w4) (by repeat rw [blk_setCell_other _ _ _ _ (by dsimp only; omega)])).trans HD2.out.2.2.1, (World.cell?_of_block (w := w4) (by repeat rw [blk_setCell_other _ _ _ _ (by dsimp only; omega)])).trans HD2.out.2.2.2⟩)
            | fail)
          (first
            | (go_at_call 63; go_split_ands; refine HCL1.out.mono ?_; rintro e w3 ⟨v3, rfl, b3, o3⟩; obtain ⟨A3, c3, rfl⟩ := o3.len; have HB4 : Hid (Below wr.heap.size wr w3) := Lib.hid ((Below.refl _ _).drew.trans b3); have HD1 := Lib.hid (HELD.out w3 HB4.out); have HOI := Lib.hid o3; clear b3 o3)
            | (go_at_call 63; go_split_ands; refine (HCL2.out w3 HB4.out).mono ?_; rintro e w4 ⟨v4, rfl, b4, o4⟩; obtain ⟨A4, c4, rfl⟩ := o4.len; have HB5 : Hid (Below wr.heap.size wr w4) := Lib.hid (HB4.out.trans (b4.mono HB4.out.size)); have HD2 := Lib.hid (HELD.out w4 HB5.out); have HOO := Lib.hid o4; have HOJ := Lib.hid ((HOI.out.mono (T := fun q => wr.heap.size ≤ q ∧ q < w3.heap.size) (fun q hq hl => ⟨hq, hl⟩)).blocks (w' := w4) (fun q hq hl _ _ => b4.block q hl)); obtain ⟨hu0, hu1, hu2, hu3, hf⟩ := HRES.out w4 HB5.out; clear b4 o4)
            | fail)
        go_wp2
        refine bodyPost_ret (v := .tuple #[.agg #[.int .i64 n, .slice (some ⟨w2.heap.size, 0, none⟩) es.length es.length, .slice A3 xi.length c3, .slice A4 xo.length c4], .bool true]) (by simp [results, Try.results35, go_sem, hu0, hu1, hu2, hu3]) rfl ?_
        have hs4 := HB4.out.size
        have HEQ : ∀ q, w2.heap.size ≤ q → ((((w4.setCell ⟨w.heap.size + 1, 0, none⟩ (.int .i64 n)).setCell ⟨w.heap.size + 1, 1, none⟩ (.slice (some ⟨w2.heap.size, 0, none⟩) es.length es.length)).setCell ⟨w.heap.size + 1, 2, none⟩ (.slice A3 xi.length c3)).setCell ⟨w.heap.size + 1, 3, none⟩ (.slice A4 xo.length c4)).heap[q]? = w4.heap[q]? := fun q hq => by
          repeat rw [blk_setCell_other _ _ _ _ (by dsimp only; omega)]
        have hz3 := HB3.out.size
        refine Or.inr ⟨HV.out, _, _, _, fun q => w2.heap.size ≤ q ∧ q < wr.heap.size, fun q => wr.heap.size ≤ q ∧ q < w3.heap.size, fun q => w3.heap.size ≤ q, rfl, ?_, fun q h => by omega, fun q h => by omega, fun q h => by omega, fun q h1 h2 => by omega, fun q h1 h2 => by omega, fun q h1 h2 => by omega, ⟨?_, by have := HQ4.out; omega⟩, ⟨?_, by unfold szR; omega⟩, ⟨?_, by unfold szR; omega⟩⟩
        · repeat' (first | exact HBW.out.trans (HB5.out.mono HBW.out.size) | apply Below.setCell | (simp; done) | omega | (simp; omega))
        · exact ⟨_, _, rfl, Nat.le_refl _, Or.inr ⟨_, vs, rfl, HO3.out.blocks (fun q hq hl => (HEQ q hq.1).trans (HB5.out.block q hl))⟩⟩
        · exact HOJ.out.blocks (fun q hq _ _ _ => HEQ q (by omega))
        · exact HOO.out.blocks (fun q hq _ _ _ => HEQ q (by omega))
end Go.Proofs.Ytdcgoeapgboclaa
