/- What the laws' helpers do with lists of edges: sizes, copies, comparisons. -/
import Derived.Test.YtdcgoeapgboclaaLeafE
namespace Go.Proofs.Ytdcgoeapgboclaa
set_option maxRecDepth 100000
open Go Go.RowKit Go.Deep

theorem RdE.all {w : World} {B : Nat} {v : Value} {es : List Ed} (h : RdE w B v es) : RdE w w.heap.size v es := by
  obtain ⟨A, c, e, hc, h⟩ := h
  refine ⟨A, c, e, hc, fun k hk => ?_⟩
  obtain ⟨b, o, A1, c1, A2, c2, e2, h3, h4, h5, h6, h7, h8, h9⟩ := h k hk
  exact ⟨b, o, A1, c1, A2, c2, e2, World.block_lt_of_cell? w _ h4, h4, h5, h6, h7, h8.lt.mono fun _ hq => hq.2, h9.lt.mono fun _ hq => hq.2⟩
set_option maxRecDepth 100000 in
set_option maxHeartbeats 1600000 in
theorem szE_any (w : World) (B : Nat) (v : Value) (x : List Ed) (left : Int) (hv : LfE w B v x) (h0 : 0 ≤ left) (h1 : left ≤ 1000000000) :
    Calls Try.prog 26 #[v, .int .i64 left] w (SzB left (szE x) w) := by
  obtain ⟨A, c, rfl⟩ := hv.len
  have HV := Lib.hid hv.1.all
  have hl := hv.2.1
  have HS := Lib.hid hv.2.2
  clear hv
  unfold szE
  by_cases c0 : left - (x.length : Int) < 0
  · go_enter Try.func26, Try.ntmps26
    go_wp2
    go_ret
    exact ⟨Below.refl _ _, Or.inl rfl⟩
  · have hle : (x.length : Int) ≤ left := by omega
    go_enter Try.func26, Try.ntmps26
    go_wp2
    go_loopw [5, 1] (fun i l wr => ∃ (k : Nat) (z : Int), k ≤ x.length ∧ i = .int .i64 k ∧ l = .int .i64 z ∧ Hid (z = left - x.length - ((sumE (x.take k) : Nat) : Int)) ∧ 0 ≤ z ∧ z ≤ 1000000000 ∧ Hid (Below w.heap.size w wr)) (fun i _ _ => x.length - (intOf i).toNat)
    case atStart => exact ⟨0, _, Nat.zero_le _, rfl, rfl, Lib.hid (by simp [sumE]), by omega, by omega, Lib.hid (Below.refl _ _)⟩
    case round =>
      obtain ⟨k, z, hk, rfl, rfl, HZ, hz0, hz1, HB⟩ := hrel
      by_cases hlt : k < x.length
      · obtain ⟨b, o, A1, c1, A2, c2, rfl, hb, hc0, hc1, hc2, hc3, r1, r2⟩ := (HV.out.below HB.out (Nat.le_refl _)).at hlt
        have HST := Lib.hid (sumE_step hlt)
        obtain ⟨s1, s2⟩ := HS.out k hlt
        generalize x.getD k ed0 = ed at hc0 hc1 hc2 hc3 r1 r2 HST s1 s2
        have HL1 : Hid (LfR wr w.heap.size (.slice A1 ed.i.length c1) ed.i) := Lib.hid ⟨r1, s1⟩
        have HL2 : Hid (LfR wr w.heap.size (.slice A2 ed.o.length c2) ed.o) := Lib.hid ⟨r2, s2⟩
        clear r1 r2
        have hkI : (k : Int) < (x.length : Int) := by omega
        go_wp2_with fail
        refine (szEdge_ok _ w.heap.size ed.k ed.v ed.i ed.o _ _ z HL1.out HL2.out HB.out.size hz0 hz1).mono ?_
        rintro e w2 ⟨b2, h2⟩
        have HB2 := Lib.hid (HB.out.trans (b2.mono HB.out.size))
        clear b2 hc0 hc1 hc2 hc3
        unfold szR at h2
        rcases h2 with rfl | ⟨hle2, rfl⟩
        · have HBIG := Lib.hid HB2.out
          go_wp2
          go_ret
          exact ⟨HBIG.out, Or.inl rfl⟩
        · have hz2 : 0 ≤ z - ((ed.i.length + ed.o.length : Nat) : Int) := by omega
          obtain ⟨z2, HZ2, hz3, hz4, hze⟩ : ∃ z2 : Int, Hid (z2 = z - ((ed.i.length + ed.o.length : Nat) : Int)) ∧ 0 ≤ z2 ∧ z2 ≤ 1000000000 ∧ z - ((ed.i.length + ed.o.length : Nat) : Int) = z2 := ⟨_, Lib.hid rfl, hz2, by omega, rfl⟩
          rw [hze]
          clear hze hz2
          go_wp2
          go_roundw
          case rel => exact ⟨k + 1, z2, by omega, by go_num, rfl, Lib.hid (by have := HZ.out; have := HZ2.out; have := HST.out; omega), hz3, hz4, HB2⟩
          case measure => simp [intOf]; omega
      · have hk2 : k = x.length := by omega
        have HK := Lib.hid (show x.take k = x from List.take_of_length_le (by omega))
        rw [HK.out] at HZ
        have hkI : ¬ (k : Int) < (x.length : Int) := by omega
        go_wp2
        go_ret
        refine ⟨HB.out, Or.inr ⟨by have := HZ.out; omega, ?_⟩⟩
        have h : z = left - ((x.length + sumE x : Nat) : Int) := by have := HZ.out; omega
        rw [h]
        rfl
theorem infoE : (Try.prog.info? 79).map (fun i => (i.zero, i.size, i.bytes)) = some (some (.agg #[.int .i64 0, .int .i64 0, .slice none 0 0, .slice none 0 0]), 4, 64) := by kernel_rfl
/-- make([]Edge, n) -/
theorem make_edges (n : Nat) (hn : n ≤ 1000000000) (w : World) : (Instr.makeSlice 27 (.int .i64 (n : Int)) (.int .i64 (n : Int))).run Try.prog w = .ok (.slice (some ⟨w.heap.size, 0, none⟩) n n) (w.alloc (.cells (madeCells #[.int .i64 0, .int .i64 0, .slice none 0 0, .slice none 0 0] (n * 4)) 79)) := by
  obtain ⟨i, hi, hzz⟩ := Option.map_eq_some_iff.1 infoE
  simp only [Prod.mk.injEq] at hzz
  obtain ⟨hz, hs, hb⟩ := hzz
  have h := run_make (P := Try.prog) w 27 79 i _ Try.underlying27 hi hz .i64 .i64 n n (by omega) (Int.le_refl _) (by rw [hb]; omega) (by omega)
  rw [hs] at h
  simpa [Value.cells] using h
theorem made_ecells (n : Nat) : (madeCells #[.int .i64 0, .int .i64 0, .slice none 0 0, .slice none 0 0] (n * 4)).toList = ecells (List.replicate n ed0) (fun _ => .slice none 0 0) := by
  apply List.ext_getElem?
  intro j
  by_cases hj : j < n * 4
  · rw [ecells_at _ _ (by rw [List.length_replicate]; exact hj)]
    unfold ecell
    rw [repl_getD' _ _ _ _ (show j / 4 < n by omega)]
    have hm : j % 4 = 0 ∨ j % 4 = 1 ∨ j % 4 = 2 ∨ j % 4 = 3 := by omega
    rcases hm with h | h | h | h <;> simp [madeCells, ed0, hj, h]
  · rw [List.getElem?_eq_none (by simp [madeCells]; omega), List.getElem?_eq_none (by rw [ecells_len, List.length_replicate]; omega)]
theorem erow_repl (n q : Nat) : erow (List.replicate n ed0) q = [] := by
  unfold erow
  have : (List.replicate n ed0).getD (q / 2) ed0 = ed0 := by
    by_cases h : q / 2 < n
    · exact repl_getD' _ _ _ _ h
    · rw [List.getD_eq_getElem?_getD, List.getElem?_eq_none (by rw [List.length_replicate]; omega)]
      rfl
  rw [this]
  split <;> rfl
theorem made_edges (w : World) (n : Nat) (S : Nat → Prop) (hS : S w.heap.size) : EdAt (w.alloc (.cells (madeCells #[.int .i64 0, .int .i64 0, .slice none 0 0, .slice none 0 0] (n * 4)) 79)) S w.heap.size (List.replicate n ed0) (fun _ => .slice none 0 0) := by
  refine ⟨?_, hS, fun q hq => ?_, fun q _ hx => absurd (erow_repl n q) hx, fun q s _ _ _ hx _ => absurd (erow_repl n q) hx⟩
  · have := cellsAt_new w (madeCells #[.int .i64 0, .int .i64 0, .slice none 0 0, .slice none 0 0] (n * 4)) 79
    rw [made_ecells] at this
    exact this
  · rw [erow_repl]
    exact OwR.nil _ _
theorem tk_stepE {x : List Ed} {k : Nat} (h : k < x.length) : (x.take k ++ List.replicate (x.length - k) ed0).set k (x.getD k ed0) = x.take (k + 1) ++ List.replicate (x.length - (k + 1)) ed0 := by
  have hl : (x.take k).length = k := by rw [List.length_take]; omega
  rw [List.set_append_right _ _ (by omega), hl, Nat.sub_self, show x.length - k = x.length - (k + 1) + 1 by omega, List.replicate_succ, List.set_cons_zero]
  have e : x.take (k + 1) = x.take k ++ [x.getD k ed0] := by
    rw [List.take_add_one, List.getD_eq_getElem?_getD, List.getElem?_eq_getElem h]
    rfl
  rw [e, List.append_assoc]
  rfl
set_option maxHeartbeats 1600000 in
theorem toE_any (w : World) (B : Nat) (v : Value) (x : List Ed) (hv : LfE w B v x) (hB : B ≤ w.heap.size) (hl : szE x ≤ 1048576) :
    Calls Try.prog 31 #[v] w (MkE w x) := by
  obtain ⟨A, c, rfl⟩ := hv.len
  have hlen : x.length ≤ 1048576 := by unfold szE at hl; omega
  have hmk := make_edges x.length (by omega)
  have HV := Lib.hid hv.1
  have HB := Lib.hid hB
  have HSZ := Lib.hid (show cntE x ≤ 1099511627776 by have := cntE_le x; omega)
  have HS := Lib.hid (show ∀ k, k < x.length → (x.getD k ed0).i.length ≤ 1048576 ∧ (x.getD k ed0).o.length ≤ 1048576 from fun k hk => by have := sumE_at hk; unfold szE at hl; omega)
  clear hv hB hl
  go_enter Try.func31, Try.ntmps31
  go_wp2
  go_loopw [4] (fun i wr => ∃ (k : Nat) (vs : Nat → Value), k ≤ x.length ∧ i = .int .i64 k ∧ Hid (Below w.heap.size w wr) ∧ Hid (EdAt wr (fun q => w.heap.size ≤ q ∧ q < wr.heap.size) w.heap.size (x.take k ++ List.replicate (x.length - k) ed0) vs)) (fun i _ => x.length - (intOf i).toNat)
  case atStart => exact ⟨0, _, Nat.zero_le _, rfl, Lib.hid ((Below.refl _ _).alloc (Nat.le_refl _) _), Lib.hid (by rw [List.take_zero, List.nil_append, Nat.sub_zero]; exact made_edges w x.length _ ⟨Nat.le_refl _, by simp⟩)⟩
  case round =>
    obtain ⟨k, vs, hk, rfl, HB2, HO⟩ := hrel
    have hos := HO.out.outer.lt
    by_cases hlt : k < x.length
    · obtain ⟨b, o, A1, c1, A2, c2, rfl, hb, hc0, hc1, hc2, hc3, r1, r2⟩ := (HV.out.below HB2.out HB.out).at hlt
      have HST := Lib.hid (tk_stepE hlt)
      obtain ⟨s1, s2⟩ := HS.out k hlt
      have hyl : k < (x.take k ++ List.replicate (x.length - k) ed0).length := by simp; omega
      generalize x.take k ++ List.replicate (x.length - k) ed0 = ys at HO HST hyl
      generalize x.getD k ed0 = ed at hc0 hc1 hc2 hc3 r1 r2 HST s1 s2
      have HL1 : Hid (LfR wr B (.slice A1 ed.i.length c1) ed.i) := Lib.hid ⟨r1, by omega⟩
      have HL2 : Hid (LfR wr B (.slice A2 ed.o.length c2) ed.o) := Lib.hid ⟨r2, by omega⟩
      clear r1 r2
      have hkI : (k : Int) < (x.length : Int) := by omega
      go_wp2_with fail
      refine (toEdge_ok _ B ed.k ed.v ed.i ed.o _ _ HL1.out HL2.out (by have := HB.out; have := HB2.out.size; omega) s1 s2).mono ?_
      rintro e w2 ⟨u1, u2, T1, T2, rfl, b2, t1, t2, t12, o1, o2⟩
      obtain ⟨Am1, cm1, rfl⟩ := o1.len
      obtain ⟨Am2, cm2, rfl⟩ := o2.len
      have hz2 := b2.size
      have HO2 := Lib.hid ((HO.out.blocks (w' := w2) (fun q hq hl => b2.block q hl)))
      have HB3 := Lib.hid (HB2.out.trans (b2.mono HB2.out.size))
      have hlc : k * 4 + 4 ≤ (ecells ys vs).length := by rw [ecells_len]; omega
      obtain ⟨x0, hu0⟩ : ∃ u, w2.cell? ⟨w.heap.size, k * 4, none⟩ = some u := ⟨_, HO2.out.cell (j := k * 4) (by omega)⟩
      obtain ⟨x1, hu1⟩ : ∃ u, w2.cell? ⟨w.heap.size, k * 4 + 1, none⟩ = some u := ⟨_, HO2.out.cell (j := k * 4 + 1) (by omega)⟩
      obtain ⟨x2, hu2⟩ : ∃ u, w2.cell? ⟨w.heap.size, k * 4 + 2, none⟩ = some u := ⟨_, HO2.out.cell (j := k * 4 + 2) (by omega)⟩
      obtain ⟨x3, hu3⟩ : ∃ u, w2.cell? ⟨w.heap.size, k * 4 + 3, none⟩ = some u := ⟨_, HO2.out.cell (j := k * 4 + 3) (by omega)⟩
      have hf := HO2.out.outer.frozen
      have HO3 := Lib.hid (HO2.out.put hyl ed o1.1 o2.1 (fun q hq hs => by have := t1 q hq; have := hs.2; omega) (fun q hq hs => by have := t2 q hq; have := hs.2; omega) t12)
      have HTT := Lib.hid (And.intro t1 t2)
      rw [HST.out] at HO3
      clear b2 hc0 hc1 hc2 hc3 o1 o2 t1 t2 t12
      go_wp2
      go_roundw
      case rel => exact ⟨k + 1, _, by omega, by go_num, Lib.hid (by repeat' (first | exact HB3.out | apply Below.setCell | exact Nat.le_refl _)), Lib.hid (HO3.out.mono (fun q hq hlq => ⟨by
        rcases hq with h | h | h
        · exact h.1
        · have := HTT.out.1 q h; omega
        · have := HTT.out.2 q h; omega, by simpa using hlq⟩))⟩
      case measure => simp [intOf]; omega
    · have hk2 : x.take k ++ List.replicate (x.length - k) ed0 = x := by
        rw [List.take_of_length_le (by omega), show x.length - k = 0 by omega]
        simp
      rw [hk2] at HO
      clear hk2
      go_wp2
      go_ret
      exact ⟨_, rfl, HB2.out, ⟨_, _, rfl, Nat.le_refl _, Or.inr ⟨_, vs, rfl, HO.out.mono (fun _ h _ => h.1)⟩⟩, HSZ.out⟩
set_option maxHeartbeats 3200000 in
theorem eqE_any (w : World) (B : Nat) (v u : Value) (x : List Ed) (hv : LfE w B v x) (hu : LfE w B u x) :
    Calls Try.prog 36 #[v, u] w (SaysYes w) := by
  obtain ⟨A, c, rfl⟩ := hv.len
  obtain ⟨A2, c2, rfl⟩ := hu.len
  have HV := Lib.hid hv.1.all
  have HU := Lib.hid hu.1.all
  have hl := hv.2.1
  have HS := Lib.hid hv.2.2
  clear hv hu
  have hq : ((x.length : Int) != (x.length : Int)) = false := by simp
  go_enter Try.func36, Try.ntmps36
  go_wp2
  go_loopw [5] (fun i wr => ∃ k : Nat, k ≤ x.length ∧ i = .int .i64 k ∧ Hid (Below w.heap.size w wr)) (fun i _ => x.length - (intOf i).toNat)
  case atStart => exact ⟨0, Nat.zero_le _, rfl, Lib.hid (Below.refl _ _)⟩
  case round =>
    obtain ⟨k, hk, rfl, HB2⟩ := hrel
    by_cases hlt : k < x.length
    · obtain ⟨b, o, A1, c1, A2, c2, rfl, hb, hc0, hc1, hc2, hc3, r1, r2⟩ := (HV.out.below HB2.out (Nat.le_refl _)).at hlt
      obtain ⟨b', o', A3, c3, A4, c4, rfl, hb', hd0, hd1, hd2, hd3, r3, r4⟩ := (HU.out.below HB2.out (Nat.le_refl _)).at hlt
      obtain ⟨s1, s2⟩ := HS.out k hlt
      generalize x.getD k ed0 = ed at hc0 hc1 hc2 hc3 hd0 hd1 hd2 hd3 r1 r2 r3 r4 s1 s2
      have HL : Hid (∀ w', Below wr.heap.size wr w' → Calls Try.prog 64 #[.agg #[.int .i64 ed.k, .int .i64 ed.v, .slice A1 ed.i.length c1, .slice A2 ed.o.length c2], .agg #[.int .i64 ed.k, .int .i64 ed.v, .slice A3 ed.i.length c3, .slice A4 ed.o.length c4]] w' (SaysYes w')) := Lib.hid (fun w' hbw =>
        eqEdge_ok w' w.heap.size ed.k ed.v ed.i ed.o _ _ _ _ ⟨r1.below hbw HB2.out.size, s1⟩ ⟨r2.below hbw HB2.out.size, s2⟩ ⟨r3.below hbw HB2.out.size, s1⟩ ⟨r4.below hbw HB2.out.size, s2⟩ (Nat.le_trans HB2.out.size hbw.size))
      clear r1 r2 r3 r4
      have hkI : (k : Int) < (x.length : Int) := by omega
      have i0 : (0 : Int) ≤ (k : Int) := by omega
      have hs2 : w.heap.size ≤ wr.heap.size := HB2.out.size
      have HELD : Hid (∀ w' : World, Below wr.heap.size wr w' → w'.cell? ⟨b, o + k * 4, none⟩ = some (.int .i64 ed.k) ∧ w'.cell? ⟨b, o + k * 4 + 1, none⟩ = some (.int .i64 ed.v) ∧ w'.cell? ⟨b, o + k * 4 + 2, none⟩ = some (.slice A1 ed.i.length c1) ∧ w'.cell? ⟨b, o + k * 4 + 3, none⟩ = some (.slice A2 ed.o.length c2) ∧ w'.cell? ⟨b', o' + k * 4, none⟩ = some (.int .i64 ed.k) ∧ w'.cell? ⟨b', o' + k * 4 + 1, none⟩ = some (.int .i64 ed.v) ∧ w'.cell? ⟨b', o' + k * 4 + 2, none⟩ = some (.slice A3 ed.i.length c3) ∧ w'.cell? ⟨b', o' + k * 4 + 3, none⟩ = some (.slice A4 ed.o.length c4)) :=
        Lib.hid (fun w' H => ⟨(H.cell (p := ⟨b, o + k * 4, none⟩) (by dsimp only; omega)).trans hc0, (H.cell (p := ⟨b, o + k * 4 + 1, none⟩) (by dsimp only; omega)).trans hc1, (H.cell (p := ⟨b, o + k * 4 + 2, none⟩) (by dsimp only; omega)).trans hc2, (H.cell (p := ⟨b, o + k * 4 + 3, none⟩) (by dsimp only; omega)).trans hc3, (H.cell (p := ⟨b', o' + k * 4, none⟩) (by dsimp only; omega)).trans hd0, (H.cell (p := ⟨b', o' + k * 4 + 1, none⟩) (by dsimp only; omega)).trans hd1, (H.cell (p := ⟨b', o' + k * 4 + 2, none⟩) (by dsimp only; omega)).trans hd2, (H.cell (p := ⟨b', o' + k * 4 + 3, none⟩) (by dsimp only; omega)).trans hd3⟩)
      have HD0 := Lib.hid (HELD.out wr.drew (Below.refl _ _).drew)
      clear hc0 hc1 hc2 hc3 hd0 hd1 hd2 hd3
      go_wp2
      go_region_held3 (fun w' => w'.cell? ⟨b, o + k * 4, none⟩ = some (.int .i64 ed.k) ∧ w'.cell? ⟨b, o + k * 4 + 1, none⟩ = some (.int .i64 ed.v) ∧ w'.cell? ⟨b, o + k * 4 + 2, none⟩ = some (.slice A1 ed.i.length c1) ∧ w'.cell? ⟨b, o + k * 4 + 3, none⟩ = some (.slice A2 ed.o.length c2) ∧ w'.cell? ⟨b', o' + k * 4, none⟩ = some (.int .i64 ed.k) ∧ w'.cell? ⟨b', o' + k * 4 + 1, none⟩ = some (.int .i64 ed.v) ∧ w'.cell? ⟨b', o' + k * 4 + 2, none⟩ = some (.slice A3 ed.i.length c3) ∧ w'.cell? ⟨b', o' + k * 4 + 3, none⟩ = some (.slice A4 ed.o.length c4))
        (first | with_reducible exact HD0.out | with_reducible exact HD1.out | fail)
        (first
          | (go_at_call 64; go_split_ands; refine (HL.out wr.drew (Below.refl _ _).drew).mono ?_; rintro e w2 ⟨rfl, b2⟩; have HB3 : Hid (Below wr.heap.size wr w2) := Lib.hid ((Below.refl _ _).drew.trans b2); have HD1 := Lib.hid (HELD.out w2 HB3.out); clear b2)
          | fail)
      have HB4 := Lib.hid (HB2.out.trans (HB3.out.mono hs2))
      go_wp2
      go_roundw
      case rel => exact ⟨k + 1, by omega, by go_num, HB4⟩
      case measure => simp [intOf]; omega
    · have hkI : ¬ (k : Int) < (x.length : Int) := by omega
      go_wp2
      go_ret
      exact ⟨rfl, HB2.out⟩
end Go.Proofs.Ytdcgoeapgboclaa
