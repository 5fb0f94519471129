/- The program's open graph of a graph. -/
import Derived.Test.YtdcgoeapgboclaaOpV
import Derived.Test.YtdcgoeapgboclaaLeafF
namespace Go.Proofs.Ytdcgoeapgboclaa
set_option maxRecDepth 100000
open Go Go.RowKit Go.Deep

/-- The cells of a block of open edges; list q of them lies at vs q. -/
def ocell (es : List Ed) (vs : Nat → Value) (j : Nat) : Value :=
  if j % 5 = 0 then vs (j / 5 * 2) else if j % 5 = 1 then vs (j / 5 * 2 + 1) else if j % 5 = 2 then .int .i64 (es.getD (j / 5) ed0).k else if j % 5 = 3 then .int .i64 (es.getD (j / 5) ed0).v else .string ByteArray.empty
theorem ocell0 (es : List Ed) (vs : Nat → Value) (k : Nat) : ocell es vs (k * 5) = vs (k * 2) := by unfold ocell; rw [if_pos (by omega), show k * 5 / 5 = k by omega]
theorem ocell1 (es : List Ed) (vs : Nat → Value) (k : Nat) : ocell es vs (k * 5 + 1) = vs (k * 2 + 1) := by unfold ocell; rw [if_neg (by omega), if_pos (by omega), show (k * 5 + 1) / 5 = k by omega]
theorem ocell2 (es : List Ed) (vs : Nat → Value) (k : Nat) : ocell es vs (k * 5 + 2) = .int .i64 (es.getD k ed0).k := by unfold ocell; rw [if_neg (by omega), if_neg (by omega), if_pos (by omega), show (k * 5 + 2) / 5 = k by omega]
theorem ocell3 (es : List Ed) (vs : Nat → Value) (k : Nat) : ocell es vs (k * 5 + 3) = .int .i64 (es.getD k ed0).v := by unfold ocell; rw [if_neg (by omega), if_neg (by omega), if_neg (by omega), if_pos (by omega), show (k * 5 + 3) / 5 = k by omega]
theorem ocell4 (es : List Ed) (vs : Nat → Value) (k : Nat) : ocell es vs (k * 5 + 4) = .string ByteArray.empty := by unfold ocell; rw [if_neg (by omega), if_neg (by omega), if_neg (by omega), if_neg (by omega)]
theorem set_five {cs : List Value} {k n : Nat} {f : Nat → Value} (hl : cs.length = n * 5) (hk : k < n) (h : ∀ j, j < k * 5 → cs[j]? = some (f j)) :
    ∀ j, j < (k + 1) * 5 → (((((cs.set (k * 5) (f (k * 5))).set (k * 5 + 1) (f (k * 5 + 1))).set (k * 5 + 2) (f (k * 5 + 2))).set (k * 5 + 3) (f (k * 5 + 3))).set (k * 5 + 4) (f (k * 5 + 4)))[j]? = some (f j) := by
  intro j hj
  simp only [List.getElem?_set, List.length_set]
  by_cases c4 : k * 5 + 4 = j
  · rw [if_pos c4, if_pos (by omega), c4]
  rw [if_neg c4]
  by_cases c3 : k * 5 + 3 = j
  · rw [if_pos c3, if_pos (by omega), c3]
  rw [if_neg c3]
  by_cases c2 : k * 5 + 2 = j
  · rw [if_pos c2, if_pos (by omega), c2]
  rw [if_neg c2]
  by_cases c1 : k * 5 + 1 = j
  · rw [if_pos c1, if_pos (by omega), c1]
  rw [if_neg c1]
  by_cases c0 : k * 5 = j
  · rw [if_pos c0, if_pos (by omega), c0]
  rw [if_neg c0]
  exact h j (by omega)
theorem infoO : (Try.prog.info? 70).map (fun i => (i.zero, i.size, i.bytes)) = some (some (.agg #[.slice none 0 0, .slice none 0 0, .int .i64 0, .int .i64 0, .string ByteArray.empty]), 5, 80) := by kernel_rfl
theorem make_opens (n : Nat) (hn : n ≤ 1000000000) (w : World) : (Instr.makeSlice 51 (.int .i64 (n : Int)) (.int .i64 (n : Int))).run Try.prog w = .ok (.slice (some ⟨w.heap.size, 0, none⟩) n n) (w.alloc (.cells (madeCells #[.slice none 0 0, .slice none 0 0, .int .i64 0, .int .i64 0, .string ByteArray.empty] (n * 5)) 70)) := by
  obtain ⟨i, hi, hzz⟩ := Option.map_eq_some_iff.1 infoO
  simp only [Prod.mk.injEq] at hzz
  obtain ⟨hz, hs, hb⟩ := hzz
  have h := run_make (P := Try.prog) w 51 70 i _ Try.underlying51 hi hz .i64 .i64 n n (by omega) (Int.le_refl _) (by rw [hb]; omega) (by omega)
  rw [hs] at h
  simpa [Value.cells] using h
/-- Block g holds the open edges es, whose lists lie below B. -/
theorem rdO_cells {w : World} {g n B C : Nat} {es : List Ed} {vs : Nat → Value} {cs : List Value} (hc : CellsAt w g tOE cs) (hl : cs.length = es.length * 5) (h : ∀ j, j < es.length * 5 → cs[j]? = some (ocell es vs j)) (hg : g < C) (hB : B ≤ C) (hn : es.length ≤ n)
    (hr : ∀ k, k < es.length → ∃ A1 c1 A2 c2, vs (k * 2) = .slice A1 (es.getD k ed0).i.length c1 ∧ vs (k * 2 + 1) = .slice A2 (es.getD k ed0).o.length c2 ∧ RdS w (fun q => q < B) (.slice A1 (es.getD k ed0).i.length c1) (es.getD k ed0).i ∧ RdS w (fun q => q < B) (.slice A2 (es.getD k ed0).o.length c2) (es.getD k ed0).o) :
    RdO w C (.slice (some ⟨g, 0, none⟩) es.length n) es := by
  refine ⟨_, n, rfl, hn, fun k hk => ?_⟩
  obtain ⟨A1, c1, A2, c2, e1, e2, r1, r2⟩ := hr k hk
  have cell : ∀ j, j < es.length * 5 → w.cell? ⟨g, 0 + j, none⟩ = some (ocell es vs j) := fun j hj => by
    rw [Nat.zero_add, hc.cell (by omega)]
    exact h j hj
  refine ⟨g, 0, A1, c1, A2, c2, rfl, hg, ?_, ?_, ?_, ?_, ?_, r1.mono fun q hq => Nat.lt_of_lt_of_le hq hB, r2.mono fun q hq => Nat.lt_of_lt_of_le hq hB⟩
  · rw [cell (k * 5) (by omega), ocell0, e1]
  · rw [Nat.zero_add, ← Nat.zero_add (k * 5 + 1), cell (k * 5 + 1) (by omega), ocell1, e2]
  · rw [Nat.zero_add, ← Nat.zero_add (k * 5 + 2), cell (k * 5 + 2) (by omega), ocell2]
  · rw [Nat.zero_add, ← Nat.zero_add (k * 5 + 3), cell (k * 5 + 3) (by omega), ocell3]
  · rw [Nat.zero_add, ← Nat.zero_add (k * 5 + 4), cell (k * 5 + 4) (by omega), ocell4]
set_option maxHeartbeats 800000 in
theorem leafOf_any (w : World) (k v : Int) (A1 A2 : Option Addr) (n1 c1 n2 c2 : Nat) : Calls Try.prog 61 #[.agg #[.int .i64 k, .int .i64 v, .slice A1 n1 c1, .slice A2 n2 c2]] w fun e w' => e = .returned (.agg #[.int .i64 k, .int .i64 v, .string ByteArray.empty]) ∧ Below w.heap.size w w' := by
  go_enter Try.func61, Try.ntmps61
  go_wp2
  refine bodyPost_ret (v := .agg #[.int .i64 k, .int .i64 v, .string ByteArray.empty]) (by simp [results, Try.results61, go_sem]; rfl) rfl ?_
  exact ⟨rfl, by repeat' (first | exact Below.refl _ _ | apply Below.drew | apply below_drewN | apply Below.setCell | apply Below.alloc | (simp; done) | omega | (simp; omega))⟩
/-- What the program makes of a graph: its open graph, or nothing. -/
def OpRet (w : World) (n : Int) (es : List Ed) (xi xo : List Int) (uI uO : Value) (e : Ending) (w' : World) : Prop :=
  Below w.heap.size w w' ∧ ((validB n es xi xo = false ∧ ∃ A1 n1 c1 A2 n2 c2 A3 n3 c3 m, e = .returned (.tuple #[ogV (.slice A1 n1 c1) (.slice A2 n2 c2) m (.slice A3 n3 c3), .bool false])) ∨
    (validB n es xi xo = true ∧ ∃ b c, e = .returned (.tuple #[ogV uI uO n (.slice (some ⟨b, 0, none⟩) es.length c), .bool true]) ∧ w.heap.size ≤ b ∧ RdO w' w'.heap.size (.slice (some ⟨b, 0, none⟩) es.length c) es))
set_option maxRecDepth 100000 in
set_option maxHeartbeats 6400000 in
theorem openOf_any (w : World) (B : Nat) (n : Int) (es : List Ed) (xi xo : List Int) (uE uI uO : Value) (hE : LfE w B uE es) (hI : LfR w B uI xi) (hO : LfR w B uO xo) (hB : B ≤ w.heap.size) :
    Calls Try.prog 33 #[.agg #[.int .i64 n, uE, uI, uO]] w (OpRet w n es xi xo uI uO) := by
  obtain ⟨AE, cE, rfl⟩ := hE.len
  obtain ⟨AI, cI, rfl⟩ := hI.len
  obtain ⟨AO, cO, rfl⟩ := hO.len
  have HE := Lib.hid hE
  have HI := Lib.hid hI
  have HO := Lib.hid hO
  have HB := Lib.hid hB
  clear hE hI hO hB
  by_cases q3 : es.length ≤ 60
  · have hmk := make_opens es.length (by omega)
    have hch : ∀ k, k < es.length → ∃ q : Value × Value, ∃ b o A1 c1 A2 c2, AE = some ⟨b, o, none⟩ ∧ b < B ∧ q.1 = .slice A1 (es.getD k ed0).i.length c1 ∧ q.2 = .slice A2 (es.getD k ed0).o.length c2 ∧ w.cell? ⟨b, o + k * 4, none⟩ = some (.int .i64 (es.getD k ed0).k) ∧ w.cell? ⟨b, o + k * 4 + 1, none⟩ = some (.int .i64 (es.getD k ed0).v) ∧ w.cell? ⟨b, o + k * 4 + 2, none⟩ = some q.1 ∧ w.cell? ⟨b, o + k * 4 + 3, none⟩ = some q.2 ∧
        RdS w (fun q => q < B) (.slice A1 (es.getD k ed0).i.length c1) (es.getD k ed0).i ∧ RdS w (fun q => q < B) (.slice A2 (es.getD k ed0).o.length c2) (es.getD k ed0).o := fun k hk => by
      obtain ⟨b, o, A1, c1, A2, c2, e, h0, h1, h2, h3, h4, h5, h6⟩ := HE.out.1.at hk
      exact ⟨(_, _), b, o, A1, c1, A2, c2, e, h0, rfl, rfl, h1, h2, h3, h4, h5, h6⟩
    haveI : Inhabited (Value × Value) := ⟨(.nilFunc, .nilFunc)⟩
    obtain ⟨q, hq⟩ := choose_lt hch
    obtain ⟨vs, hvs⟩ : ∃ vs : Nat → Value, ∀ k, vs (k * 2) = (q k).1 ∧ vs (k * 2 + 1) = (q k).2 := ⟨fun r => if r % 2 = 0 then (q (r / 2)).1 else (q (r / 2)).2, fun k => ⟨by dsimp only; rw [if_pos (by omega), show k * 2 / 2 = k by omega], by dsimp only; rw [if_neg (by omega), show (k * 2 + 1) / 2 = k by omega]⟩⟩
    have HQ := Lib.hid hq
    have HVS := Lib.hid hvs
    clear hch hq hvs
    go_enter Try.func33, Try.ntmps33
    go_wp2
    go_loopw [20] (fun i wr => ∃ (k : Nat) (cs : List Value), k ≤ es.length ∧ i = .int .i64 k ∧ Hid (Below (w.heap.size + 2) ((w.alloc (.cells #[.int .i64 n, .slice AE es.length cE, .slice AI xi.length cI, .slice AO xo.length cO] 29)).alloc (.cells #[.slice none 0 0, .slice none 0 0, .int .i64 0, .slice none 0 0] 53)) wr) ∧ Hid (CellsAt wr (w.heap.size + 2) tOE cs) ∧ Hid (cs.length = es.length * 5) ∧ Hid (∀ j, j < k * 5 → cs[j]? = some (ocell es vs j))) (fun i _ => es.length - (intOf i).toNat)
    case atStart => exact ⟨0, _, Nat.zero_le _, rfl, Lib.hid ((Below.refl _ _).alloc (by simp) _), Lib.hid (cellsAt_new' _ _ _ _ _ (by simp) rfl), Lib.hid (by simp [madeCells]), Lib.hid (fun j hj => absurd hj (by omega))⟩
    case round =>
      obtain ⟨k, cs, hk, rfl, HB2, HC, HL, HS⟩ := hrel
      have hos := HC.out.lt
      have HBW := Lib.hid (show Below w.heap.size w wr from (((Below.refl w.heap.size w).alloc (Nat.le_refl _) _).alloc (by simp) _).trans (HB2.out.mono (by omega)))
      by_cases hlt : k < es.length
      · obtain ⟨b, o, A1, c1, A2, c2, rfl, hb, e1, e2, d0, d1, d2, d3, -, -⟩ := HQ.out k hlt
        rw [e1] at d2
        rw [e2] at d3
        have hbw : b < w.heap.size := by have := HB.out; omega
        have hc0 := (HBW.out.cell (p := ⟨b, o + k * 4, none⟩) hbw).trans d0
        have hc1 := (HBW.out.cell (p := ⟨b, o + k * 4 + 1, none⟩) hbw).trans d1
        have hc2 := (HBW.out.cell (p := ⟨b, o + k * 4 + 2, none⟩) hbw).trans d2
        have hc3 := (HBW.out.cell (p := ⟨b, o + k * 4 + 3, none⟩) hbw).trans d3
        clear d0 d1 d2 d3
        have HF := Lib.hid (set_five HL.out hlt HS.out)
        rw [ocell0, ocell1, ocell2, ocell3, ocell4, (HVS.out k).1, (HVS.out k).2, e1, e2] at HF
        clear e1 e2
        obtain ⟨x0, hu0⟩ : ∃ u, wr.cell? ⟨w.heap.size + 2, k * 5, none⟩ = some u := ⟨_, (HC.out.cell (i := k * 5) (by rw [HL.out]; omega)).trans (List.getElem?_eq_getElem (by rw [HL.out]; omega))⟩
        obtain ⟨x1, hu1⟩ : ∃ u, wr.cell? ⟨w.heap.size + 2, k * 5 + 1, none⟩ = some u := ⟨_, (HC.out.cell (i := k * 5 + 1) (by rw [HL.out]; omega)).trans (List.getElem?_eq_getElem (by rw [HL.out]; omega))⟩
        obtain ⟨x2, hu2⟩ : ∃ u, wr.cell? ⟨w.heap.size + 2, k * 5 + 2, none⟩ = some u := ⟨_, (HC.out.cell (i := k * 5 + 2) (by rw [HL.out]; omega)).trans (List.getElem?_eq_getElem (by rw [HL.out]; omega))⟩
        obtain ⟨x3, hu3⟩ : ∃ u, wr.cell? ⟨w.heap.size + 2, k * 5 + 3, none⟩ = some u := ⟨_, (HC.out.cell (i := k * 5 + 3) (by rw [HL.out]; omega)).trans (List.getElem?_eq_getElem (by rw [HL.out]; omega))⟩
        obtain ⟨x4, hu4⟩ : ∃ u, wr.cell? ⟨w.heap.size + 2, k * 5 + 4, none⟩ = some u := ⟨_, (HC.out.cell (i := k * 5 + 4) (by rw [HL.out]; omega)).trans (List.getElem?_eq_getElem (by rw [HL.out]; omega))⟩
        have hf := HC.out.frozen
        have hkI : (k : Int) < (es.length : Int) := by omega
        generalize es.getD k ed0 = ed at hc0 hc1 hc2 hc3 HF
        have HC5 := Lib.hid (((((HC.out.set (k * 5) (.slice A1 ed.i.length c1)).set (k * 5 + 1) (.slice A2 ed.o.length c2)).set (k * 5 + 2) (.int .i64 ed.k)).set (k * 5 + 3) (.int .i64 ed.v)).set (k * 5 + 4) (.string ByteArray.empty))
        go_wp2
        obtain ⟨W, HW⟩ : ∃ W, W = wr.alloc (.cells #[.int .i64 ed.k, .int .i64 ed.v, .slice A1 ed.i.length c1, .slice A2 ed.o.length c2] 79) := ⟨_, rfl⟩
        rw [← HW]
        have HWB := Lib.hid (show Below wr.heap.size wr W from by rw [HW]; exact (Below.refl _ _).alloc (Nat.le_refl _) _)
        have HWS := Lib.hid (show W.heap.size = wr.heap.size + 1 from by rw [HW]; simp)
        have HWE := Lib.hid (show W.heap[wr.heap.size]? = some (.cells #[.int .i64 ed.k, .int .i64 ed.v, .slice A1 ed.i.length c1, .slice A2 ed.o.length c2] 79 (0, 0)) from by rw [HW]; exact blk_alloc_new _ _)
        clear HW
        have HELD : Hid (∀ w' : World, Below W.heap.size W w' → w'.cell? ⟨wr.heap.size, 0, none⟩ = some (.int .i64 ed.k) ∧ w'.cell? ⟨wr.heap.size, 1, none⟩ = some (.int .i64 ed.v) ∧ w'.cell? ⟨wr.heap.size, 2, none⟩ = some (.slice A1 ed.i.length c1) ∧ w'.cell? ⟨wr.heap.size, 3, none⟩ = some (.slice A2 ed.o.length c2)) := Lib.hid (fun w' h => by
          have hb := (h.block wr.heap.size (by rw [HWS.out]; omega)).trans HWE.out
          exact ⟨box_cell hb 0, box_cell hb 1, box_cell hb 2, box_cell hb 3⟩)
        have HCEL : Hid (∀ w' : World, Below W.heap.size W w' → w'.cell? ⟨w.heap.size + 1 + 1, k * 5, none⟩ = some x0 ∧ w'.cell? ⟨w.heap.size + 1 + 1, k * 5 + 1, none⟩ = some x1 ∧ w'.cell? ⟨w.heap.size + 1 + 1, k * 5 + 2, none⟩ = some x2 ∧ w'.cell? ⟨w.heap.size + 1 + 1, k * 5 + 3, none⟩ = some x3 ∧ w'.cell? ⟨w.heap.size + 1 + 1, k * 5 + 4, none⟩ = some x4 ∧ ∀ i, w'.frozen? ⟨w.heap.size + 1 + 1, i, none⟩ = false) := Lib.hid (fun w' h => by
          have hg : w'.heap[w.heap.size + 2]? = wr.heap[w.heap.size + 2]? := (h.block _ (by rw [HWS.out]; omega)).trans (HWB.out.block _ hos)
          have cc : ∀ i, w'.cell? ⟨w.heap.size + 2, i, none⟩ = wr.cell? ⟨w.heap.size + 2, i, none⟩ := fun i => World.cell?_of_block (w := wr) hg
          have hcg := HC.out.of_block hg
          exact ⟨(cc _).trans hu0, (cc _).trans hu1, (cc _).trans hu2, (cc _).trans hu3, (cc _).trans hu4, fun i => hcg.frozen i⟩)
        clear hu0 hu1 hu2 hu3 hu4 hf HC5
        have HD0 := Lib.hid (HELD.out W.drew (Below.refl _ _).drew)
        have HLF := Lib.hid (leafOf_any W.drew ed.k ed.v A1 A2 ed.i.length c1 ed.o.length c2)
        go_region_held3 (fun w' => w'.cell? ⟨wr.heap.size, 0, none⟩ = some (.int .i64 ed.k) ∧ w'.cell? ⟨wr.heap.size, 1, none⟩ = some (.int .i64 ed.v) ∧ w'.cell? ⟨wr.heap.size, 2, none⟩ = some (.slice A1 ed.i.length c1) ∧ w'.cell? ⟨wr.heap.size, 3, none⟩ = some (.slice A2 ed.o.length c2))
          (first
            | with_reducible exact HD0.out
            | with_reducible exact HD1.out
            | (have hs3 := HB3.out.size; have hws := HWS.out; exact ⟨(World.cell?_of_block (w := w3) (by repeat rw [blk_setCell_other _ _ _ _ (by dsimp only; omega)])).trans HD1.out.1, (World.cell?_of_block (w := w3) (by repeat rw [blk_setCell_other _ _ _ _ (by dsimp only; omega)])).trans HD1.out.2.1, (World.cell?_of_block (w := w3) (by repeat rw [blk_setCell_other _ _ _ _ (by dsimp only; omega)])).trans HD1.out.2.2.1, (World.cell?_of_block (w := w3) (by repeat rw [blk_setCell_other _ _ _ _ (by dsimp only; omega)])).trans HD1.out.2.2.2⟩)
            | fail)
          (first
            | (go_at_call 61; go_split_ands; refine HLF.out.mono ?_; rintro e w3 ⟨rfl, b3⟩; have HB3 : Hid (Below W.heap.size W w3) := Lib.hid ((Below.refl _ _).drew.trans b3); have HD1 := Lib.hid (HELD.out w3 HB3.out); obtain ⟨hu0, hu1, hu2, hu3, hu4, hf⟩ := HCEL.out w3 HB3.out; clear b3)
            | fail)
        have HC6 := Lib.hid (((HC.out.below HWB.out hos).below HB3.out (by rw [HWS.out]; omega)))
        have HB6 := Lib.hid (HB2.out.trans ((HWB.out.mono (by have := HB2.out.size; simp at this; omega)).trans (HB3.out.mono (by rw [HWS.out]; have := HB2.out.size; simp at this; omega))))
        have HC5 := Lib.hid (((((HC6.out.set (k * 5) (.slice A1 ed.i.length c1)).set (k * 5 + 1) (.slice A2 ed.o.length c2)).set (k * 5 + 2) (.int .i64 ed.k)).set (k * 5 + 3) (.int .i64 ed.v)).set (k * 5 + 4) (.string ByteArray.empty))
        go_wp2
        go_roundw
        case rel => exact ⟨k + 1, _, by omega, by go_num, Lib.hid (by repeat' (first | exact HB6.out | apply Below.setCell | apply Below.alloc | (simp; done) | omega | (simp; omega))), Lib.hid (by repeat (first | exact HC5.out | apply CellsAt.drew | apply CellsAt.alloc)), Lib.hid (by simp only [List.length_set]; exact HL.out), HF⟩
        case measure => simp [intOf]; omega
      · have hke : k = es.length := by omega
        subst hke
        have hkI : ¬ (es.length : Int) < (es.length : Int) := by omega
        have HG := Lib.hid ((HB2.out.block w.heap.size (by omega)).trans ((blk_alloc_lt _ _ _ (by simp)).trans (blk_alloc_new w _)))
        have hg0 := box_cell HG.out 0
        have hg1 := box_cell HG.out 1
        have hg2 := box_cell HG.out 2
        have hg3 := box_cell HG.out 3
        simp at hg0 hg1 hg2 hg3
        have HROF := Lib.hid (fun (w' : World) (hg : w'.heap[w.heap.size + 2]? = wr.heap[w.heap.size + 2]?) (hb : Below w.heap.size w w') => rdO_cells (B := B) (C := w'.heap.size) (n := es.length) (HC.out.of_block hg) HL.out HS.out (HC.out.of_block hg).lt (by have := HB.out; have := hb.size; omega) (Nat.le_refl _) (fun k hk => by
          obtain ⟨b, o, A1, c1, A2, c2, -, hb1, e1, e2, d0, d1, d2, d3, r1, r2⟩ := HQ.out k hk
          exact ⟨A1, c1, A2, c2, (HVS.out k).1.trans e1, (HVS.out k).2.trans e2, r1.below hb HB.out, r2.below hb HB.out⟩))
        have HRO := Lib.hid (HROF.out wr rfl HBW.out)
        have HRB := Lib.hid ((HB2.out.block (w.heap.size + 1) (by omega)).trans (show _ = some (.cells #[.slice none 0 0, .slice none 0 0, .int .i64 0, .slice none 0 0] 53 (0, 0)) from by have := blk_alloc_new (w.alloc (.cells #[.int .i64 n, .slice AE es.length cE, .slice AI xi.length cI, .slice AO xo.length cO] 29)) (.cells #[.slice none 0 0, .slice none 0 0, .int .i64 0, .slice none 0 0] 53); simpa using this))
        go_wp2_with fail
        obtain ⟨W, HW⟩ : ∃ W, W = wr.alloc (.cells #[.slice AI xi.length cI, .slice AO xo.length cO, .int .i64 n, .slice (some ⟨w.heap.size + 1 + 1, 0, none⟩) es.length es.length] 53) := ⟨_, rfl⟩
        rw [← HW]
        have HWB := Lib.hid (show Below wr.heap.size wr W from by rw [HW]; exact (Below.refl _ _).alloc (Nat.le_refl _) _)
        have HWS := Lib.hid (show W.heap.size = wr.heap.size + 1 from by rw [HW]; simp)
        have HWE := Lib.hid (show W.heap[wr.heap.size]? = some (.cells #[.slice AI xi.length cI, .slice AO xo.length cO, .int .i64 n, .slice (some ⟨w.heap.size + 1 + 1, 0, none⟩) es.length es.length] 53 (0, 0)) from by rw [HW]; exact blk_alloc_new _ _)
        have HIV := Lib.hid (show Calls Try.prog 62 #[.agg #[.slice AI xi.length cI, .slice AO xo.length cO, .int .i64 n, .slice (some ⟨w.heap.size + 1 + 1, 0, none⟩) es.length es.length]] W.drew (SaysB W.drew (validB n es xi xo)) from by
          have hbw : Below wr.heap.size wr W.drew := HWB.out.drew
          exact ogValid_any W.drew wr.heap.size (.slice AI xi.length cI) (.slice AO xo.length cO) (.slice (some ⟨w.heap.size + 1 + 1, 0, none⟩) es.length es.length) n es xi xo
            (((HI.out.1.below HBW.out HB.out).below (B' := wr.heap.size) hbw (by have := HB.out; have := HBW.out.size; omega)).mono fun q hq => by have := HB.out; have := HBW.out.size; omega)
            (((HO.out.1.below HBW.out HB.out).below (B' := wr.heap.size) hbw (by have := HB.out; have := HBW.out.size; omega)).mono fun q hq => by have := HB.out; have := HBW.out.size; omega)
            (HRO.out.below hbw (Nat.le_refl _)) hbw.size (by omega) HI.out.2 HO.out.2)
        clear HW hg0 hg1 hg2 hg3
        have HELD : Hid (∀ w' : World, Below W.heap.size W w' → w'.cell? ⟨wr.heap.size, 0, none⟩ = some (.slice AI xi.length cI) ∧ w'.cell? ⟨wr.heap.size, 1, none⟩ = some (.slice AO xo.length cO) ∧ w'.cell? ⟨wr.heap.size, 2, none⟩ = some (.int .i64 n) ∧ w'.cell? ⟨wr.heap.size, 3, none⟩ = some (.slice (some ⟨w.heap.size + 1 + 1, 0, none⟩) es.length es.length)) := Lib.hid (fun w' h => by
          have hb := (h.block wr.heap.size (by rw [HWS.out]; omega)).trans HWE.out
          exact ⟨box_cell hb 0, box_cell hb 1, box_cell hb 2, box_cell hb 3⟩)
        have HRES : Hid (∀ w' : World, Below W.heap.size W w' → w'.cell? ⟨w.heap.size + 1, 0, none⟩ = some (.slice none 0 0) ∧ w'.cell? ⟨w.heap.size + 1, 1, none⟩ = some (.slice none 0 0) ∧ w'.cell? ⟨w.heap.size + 1, 2, none⟩ = some (.int .i64 0) ∧ w'.cell? ⟨w.heap.size + 1, 3, none⟩ = some (.slice none 0 0) ∧ ∀ i, w'.frozen? ⟨w.heap.size + 1, i, none⟩ = false) := Lib.hid (fun w' h => by
          have hb := (h.block (w.heap.size + 1) (by rw [HWS.out]; omega)).trans ((HWB.out.block _ (by omega)).trans HRB.out)
          exact ⟨box_cell hb 0, box_cell hb 1, box_cell hb 2, box_cell hb 3, fun i => box_free hb i⟩)
        have HD0 := Lib.hid (HELD.out W.drew (Below.refl _ _).drew)
        go_region_held3 (fun w' => w'.cell? ⟨wr.heap.size, 0, none⟩ = some (.slice AI xi.length cI) ∧ w'.cell? ⟨wr.heap.size, 1, none⟩ = some (.slice AO xo.length cO) ∧ w'.cell? ⟨wr.heap.size, 2, none⟩ = some (.int .i64 n) ∧ w'.cell? ⟨wr.heap.size, 3, none⟩ = some (.slice (some ⟨w.heap.size + 1 + 1, 0, none⟩) es.length es.length))
          (first
            | with_reducible exact HD0.out
            | with_reducible exact HD1.out
            | (have hs3 := HB3.out.size; have hws := HWS.out; exact ⟨(World.cell?_of_block (w := w3) (by repeat rw [blk_setCell_other _ _ _ _ (by dsimp only; omega)])).trans HD1.out.1, (World.cell?_of_block (w := w3) (by repeat rw [blk_setCell_other _ _ _ _ (by dsimp only; omega)])).trans HD1.out.2.1, (World.cell?_of_block (w := w3) (by repeat rw [blk_setCell_other _ _ _ _ (by dsimp only; omega)])).trans HD1.out.2.2.1, (World.cell?_of_block (w := w3) (by repeat rw [blk_setCell_other _ _ _ _ (by dsimp only; omega)])).trans HD1.out.2.2.2⟩)
            | fail)
          (first
            | (go_at_call 62; go_split_ands; refine HIV.out.mono ?_; rintro e w3 ⟨rfl, b3⟩; have HB3 : Hid (Below W.heap.size W w3) := Lib.hid ((Below.refl _ _).drew.trans b3); have HD1 := Lib.hid (HELD.out w3 HB3.out); obtain ⟨hu0, hu1, hu2, hu3, hf⟩ := HRES.out w3 HB3.out; clear b3)
            | fail)
        go_wp2
        refine bodyPost_ret (v := .tuple #[ogV (.slice AI xi.length cI) (.slice AO xo.length cO) n (.slice (some ⟨w.heap.size + 1 + 1, 0, none⟩) es.length es.length), .bool (validB n es xi xo)]) (by simp [results, Try.results33, go_sem, ogV, hu0, hu1, hu2, hu3]) rfl ?_
        have hs3 := HB3.out.size
        have hws := HWS.out
        have hfb : Below w.heap.size w ((((w3.setCell ⟨w.heap.size + 1, 0, none⟩ (.slice AI xi.length cI)).setCell ⟨w.heap.size + 1, 1, none⟩ (.slice AO xo.length cO)).setCell ⟨w.heap.size + 1, 2, none⟩ (.int .i64 n)).setCell ⟨w.heap.size + 1, 3, none⟩ (.slice (some ⟨w.heap.size + 1 + 1, 0, none⟩) es.length es.length)) := by
          repeat' (first | exact (HBW.out.trans (HWB.out.mono HBW.out.size)).trans (HB3.out.mono (by have := HBW.out.size; omega)) | apply Below.setCell | (simp; done) | omega | (simp; omega))
        refine ⟨hfb, ?_⟩
        cases hv : validB n es xi xo with
        | false => exact Or.inl ⟨rfl, _, _, _, _, _, _, _, _, _, _, rfl⟩
        | true =>
          refine Or.inr ⟨rfl, _, _, rfl, by omega, HROF.out _ ?_ hfb⟩
          repeat rw [blk_setCell_other _ _ _ _ (by dsimp only; omega)]
          exact (HB3.out.block _ (by omega)).trans (HWB.out.block _ (by omega))
  · have HV := Lib.hid (valid_not (n := n) (es := es) (xi := xi) (xo := xo) fun h => q3 h.1.2.2.1)
    have q4 : 60 < (es.length : Int) := by omega
    go_enter Try.func33, Try.ntmps33
    go_wp2
    refine bodyPost_ret (v := .tuple #[ogV (.slice none 0 0) (.slice none 0 0) 0 (.slice none 0 0), .bool false]) (by simp [results, Try.results33, go_sem, ogV]) rfl ?_
    exact ⟨by repeat' (first | exact Below.refl _ _ | apply Below.drew | apply Below.setCell | apply Below.alloc | (simp; done) | omega | (simp; omega)), Or.inl ⟨HV.out, _, _, _, _, _, _, _, _, _, _, rfl⟩⟩
end Go.Proofs.Ytdcgoeapgboclaa
