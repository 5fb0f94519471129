/- MirrorGraph: the program. -/
import Derived.Test.YtiealgnmhjebeaaOpR
namespace Go.Proofs.Ytiealgnmhjebeaa
set_option maxRecDepth 100000
open Go Go.RowKit Go.Deep

def mirE (e : Ed) : Ed := ⟨mirK e.k, e.v, e.o, e.i⟩
def mirEs (es : List Ed) : List Ed := es.map mirE
theorem mirEs_len (es : List Ed) : (mirEs es).length = es.length := by simp [mirEs]
theorem mirEs_at {es : List Ed} {k : Nat} (h : k < es.length) : (mirEs es).getD k ed0 = mirE (es.getD k ed0) := by
  simp [mirEs, List.getD_eq_getElem?_getD, h]
theorem mir_kind {k : Int} (h1 : 3 ≤ k) (h2 : k ≤ 14) : kindW (mirK k) = ((kindW k).2, (kindW k).1) ∧ greatest (mirK k) = greatest k ∧ 3 ≤ mirK k ∧ mirK k ≤ 14 := by
  have hk : k = 3 ∨ k = 4 ∨ k = 5 ∨ k = 6 ∨ k = 7 ∨ k = 8 ∨ k = 9 ∨ k = 10 ∨ k = 11 ∨ k = 12 ∨ k = 13 ∨ k = 14 := by omega
  rcases hk with c | c | c | c | c | c | c | c | c | c | c | c <;> (subst c; exact ⟨by decide, by decide, by decide, by decide⟩)
theorem mir_edP {e : Ed} (h : edP e = true) : edP (mirE e) = true := by
  rw [edP_iff] at h ⊢
  obtain ⟨h1, h2, h3, h4, h5⟩ := h
  obtain ⟨k1, k2, k3, k4⟩ := mir_kind h1 h2
  unfold isLeafB at h3 ⊢
  simp only [Bool.and_eq_true, decide_eq_true_eq] at h3 ⊢
  dsimp only [mirE]
  rw [k1, k2]
  exact ⟨k3, k4, ⟨⟨⟨⟨by omega, k4⟩, h3.1.1.2⟩, h3.1.2⟩, h3.2⟩, h5, h4⟩
theorem mir_valid {n : Int} {es : List Ed} {xi xo : List Int} (h : validB n es xi xo = true) : validB n (mirEs es) xo xi = true := by
  obtain ⟨⟨a, b, c, d, e⟩, f, g, k⟩ := valid_iff.1 h
  have hm : ∀ x, x ∈ occL (mirEs es) xo xi ↔ x ∈ occL es xi xo := fun x => by
    rw [mem_occ, mem_occ]
    unfold mirEs
    constructor
    · rintro (h | h | ⟨e, he, h⟩)
      · exact Or.inr (Or.inl h)
      · exact Or.inl h
      · obtain ⟨e', he', rfl⟩ := List.mem_map.1 he
        exact Or.inr (Or.inr ⟨e', he', h.symm⟩)
    · rintro (h | h | ⟨e, he, h⟩)
      · exact Or.inr (Or.inl h)
      · exact Or.inl h
      · exact Or.inr (Or.inr ⟨mirE e, List.mem_map.2 ⟨e, he, rfl⟩, h.symm⟩)
  refine valid_iff.2 ⟨⟨a, b, by rw [mirEs_len]; exact c, e, d⟩, ?_, fun x hx => g x ((hm x).1 hx), fun q h1 h2 => (hm q).2 (k q h1 h2)⟩
  rw [List.any_eq_false] at f ⊢
  intro e he
  obtain ⟨e', he', rfl⟩ := List.mem_map.1 he
  have := f e' he'
  simp at this
  simp [mir_edP this]
set_option maxHeartbeats 1600000 in
theorem mirrorImage_any (w : World) (k v : Int) (h1 : 3 ≤ k) (h2 : k ≤ 14) : Calls Try.prog 56 #[.agg #[.int .i64 k, .int .i64 v, .string ByteArray.empty]] w fun e w' => e = .returned (.agg #[.int .i64 (mirK k), .int .i64 v, .string ByteArray.empty]) ∧ Below w.heap.size w w' := by
  by_cases c : 9 ≤ k
  · have hw : IntKind.i64.wrap (k - 6) = k - 6 := Go.IntWalk.i64_in _ ⟨by omega, by omega⟩
    have HM := Lib.hid (show mirK k = k - 6 by unfold mirK; rw [if_pos c])
    go_enter Try.func56, Try.ntmps56
    go_wp2
    refine bodyPost_ret (v := .agg #[.int .i64 (k - 6), .int .i64 v, .string ByteArray.empty]) (by simp [results, Try.results56, go_sem]) rfl ?_
    exact ⟨by rw [HM.out], by repeat' (first | exact Below.refl _ _ | apply Below.drew | apply below_drewN | apply Below.setCell | apply Below.alloc | (simp; done) | omega | (simp; omega))⟩
  · have hw : IntKind.i64.wrap (k + 6) = k + 6 := Go.IntWalk.i64_in _ ⟨by omega, by omega⟩
    have HM := Lib.hid (show mirK k = k + 6 by unfold mirK; rw [if_neg c, if_pos h1])
    go_enter Try.func56, Try.ntmps56
    go_wp2
    refine bodyPost_ret (v := .agg #[.int .i64 (k + 6), .int .i64 v, .string ByteArray.empty]) (by simp [results, Try.results56, go_sem]) rfl ?_
    exact ⟨by rw [HM.out], by repeat' (first | exact Below.refl _ _ | apply Below.drew | apply below_drewN | apply Below.setCell | apply Below.alloc | (simp; done) | omega | (simp; omega))⟩
set_option maxHeartbeats 800000 in
theorem exchanged_any (w : World) (A1 A2 : Option Addr) (n1 c1 n2 c2 : Nat) : Calls Try.prog 55 #[.agg #[.slice A1 n1 c1, .slice A2 n2 c2]] w fun e w' => e = .returned (.agg #[.slice A2 n2 c2, .slice A1 n1 c1]) ∧ Below w.heap.size w w' := by
  go_enter Try.func55, Try.ntmps55
  go_wp2
  refine bodyPost_ret (v := .agg #[.slice A2 n2 c2, .slice A1 n1 c1]) (by simp [results, Try.results55, go_sem]) rfl ?_
  exact ⟨rfl, by repeat' (first | exact Below.refl _ _ | apply Below.drew | apply below_drewN | apply Below.setCell | apply Below.alloc | (simp; done) | omega | (simp; omega))⟩
def mgB (n : Int) (es : List Ed) (xi xo : List Int) : Bool := validB n es xi xo
def mgN (n : Int) (es : List Ed) (xi xo : List Int) : Int := if validB n es xi xo then n else 0
def mgE (n : Int) (es : List Ed) (xi xo : List Int) : List Ed := if validB n es xi xo then mirEs es else []
def mgI (n : Int) (es : List Ed) (xi xo : List Int) : List Int := if validB n es xi xo then xo else []
def mgO (n : Int) (es : List Ed) (xi xo : List Int) : List Int := if validB n es xi xo then xi else []
set_option maxRecDepth 100000 in
set_option maxHeartbeats 12800000 in
theorem impl_MirrorGraph (w : World) (B : Nat) (uE uI uO : Value) (n : Int) (es : List Ed) (xi xo : List Int) (hE : LfE w B uE es) (hI : LfR w B uI xi) (hO : LfR w B uO xo) (hB : B ≤ w.heap.size) (_ : szE es ≤ 1048576) (_ : szR xi ≤ 1048576) (_ : szR xo ≤ 1048576) :
    Calls Try.prog 23 #[.agg #[.int .i64 n, uE, uI, uO]] w (IRetGraphB w (mgN n es xi xo) (mgE n es xi xo) (mgI n es xi xo) (mgO n es xi xo) (mgB n es xi xo)) := by
  have HOP := Lib.hid (fun (w' : World) (hb : Below w.heap.size w w') => openOf_any w' B n es xi xo uE uI uO (hE.below hb hB) (hI.below hb hB) (hO.below hb hB) (Nat.le_trans hB hb.size))
  have HI := Lib.hid hI
  have HO := Lib.hid hO
  have HB := Lib.hid hB
  obtain ⟨AE, cE, rfl⟩ := hE.len
  obtain ⟨AI, cI, rfl⟩ := hI.len
  obtain ⟨AO, cO, rfl⟩ := hO.len
  clear hE hI hO hB
  go_enter Try.func23, Try.ntmps23
  go_wp2_with fail
  refine (HOP.out _ (((Below.refl w.heap.size w).alloc (Nat.le_refl _) _).alloc (by simp) _)).mono ?_
  rintro e w2 ⟨b2, h2⟩
  have HB2 := Lib.hid ((((Below.refl w.heap.size w).alloc (Nat.le_refl _) (.cells #[.int .i64 n, .slice AE es.length cE, .slice AI xi.length cI, .slice AO xo.length cO] 42)).alloc (by simp) (.cells #[.int .i64 0, .slice none 0 0, .slice none 0 0, .slice none 0 0] 42)).trans (b2.mono (by simp; omega)))
  have HXR := Lib.hid (show w2.heap[w.heap.size + 1]? = some (.cells #[.int .i64 0, .slice none 0 0, .slice none 0 0, .slice none 0 0] 42 (0, 0)) from (b2.block _ (by simp)).trans (by have := blk_alloc_new (w.alloc (.cells #[.int .i64 n, .slice AE es.length cE, .slice AI xi.length cI, .slice AO xo.length cO] 42)) (.cells #[.int .i64 0, .slice none 0 0, .slice none 0 0, .slice none 0 0] 42); simpa using this))
  have hs2 : w.heap.size + 2 ≤ w2.heap.size := by have := b2.size; simp at this; omega
  have hl2 : w.heap.size + 1 < w2.heap.size := by omega
  have hl3 : ¬ w.heap.size + 1 = w2.heap.size := by omega
  clear b2
  rcases h2 with ⟨hv, A1, n1, c1, A2, n2, c2, A3, n3, c3, m, rfl⟩ | ⟨hv, b, c, rfl, hbb, hro⟩
  · have HV := Lib.hid hv
    have hx0 := box_cell HXR.out 0
    have hx1 := box_cell HXR.out 1
    have hx2 := box_cell HXR.out 2
    have hx3 := box_cell HXR.out 3
    have hxf := box_free HXR.out
    simp at hx0 hx1 hx2 hx3
    clear hv
    unfold ogV
    go_wp2
    refine bodyPost_ret (v := .tuple #[.agg #[.int .i64 0, .slice none 0 0, .slice none 0 0, .slice none 0 0], .bool false]) (by simp [results, Try.results23, go_sem, hx0, hx1, hx2, hx3, hl2]) rfl ?_
    unfold mgN mgE mgI mgO mgB
    rw [HV.out]
    exact ⟨_, _, _, fun _ => False, fun _ => False, fun _ => False, rfl, by repeat' (first | exact HB2.out | apply Below.drew | apply Below.setCell | apply Below.alloc | (simp; done) | omega | (simp; omega)), fun _ h => h.elim, fun _ h => h.elim, fun _ h => h.elim, fun _ h => h.elim, fun _ h => h.elim, fun _ h => h.elim, ownE_nil _ _ _ _, ownR_nil _ _ _ _, ownR_nil _ _ _ _⟩
  · have HV := Lib.hid hv
    have hle := (valid_iff.1 hv).1.2.2.1
    have hmk := make_opens es.length (by omega)
    have hch : ∀ k, k < es.length → ∃ q : Value × Value, ∃ o A1 c1 A2 c2, b = b ∧ o = 0 ∧ q.1 = .slice A1 (es.getD k ed0).i.length c1 ∧ q.2 = .slice A2 (es.getD k ed0).o.length c2 ∧ w2.cell? ⟨b, k * 5, none⟩ = some q.1 ∧ w2.cell? ⟨b, k * 5 + 1, none⟩ = some q.2 ∧ w2.cell? ⟨b, k * 5 + 2, none⟩ = some (.int .i64 (es.getD k ed0).k) ∧ w2.cell? ⟨b, k * 5 + 3, none⟩ = some (.int .i64 (es.getD k ed0).v) ∧ w2.cell? ⟨b, k * 5 + 4, none⟩ = some (.string ByteArray.empty) ∧
        RdS w2 (fun q => q < w2.heap.size) (.slice A1 (es.getD k ed0).i.length c1) (es.getD k ed0).i ∧ RdS w2 (fun q => q < w2.heap.size) (.slice A2 (es.getD k ed0).o.length c2) (es.getD k ed0).o ∧ b < w2.heap.size ∧ 3 ≤ (es.getD k ed0).k ∧ (es.getD k ed0).k ≤ 14 := fun k hk => by
      obtain ⟨b', o, A1, c1, A2, c2, e, h0, h1, h2, h3, h4, h5, h6, h7⟩ := hro.at hk
      simp only [Option.some.injEq, Addr.mk.injEq, and_true] at e
      obtain ⟨rfl, rfl⟩ := e
      rw [Nat.zero_add] at h1 h2 h3 h4 h5
      have hp : edP (es.getD k ed0) = true := by
        have := (valid_iff.1 hv).2.1
        rw [List.any_eq_false] at this
        have := this (es.getD k ed0) (getD_mem' hk ed0)
        simpa using this
      have hp2 := (edP_iff _).1 hp
      exact ⟨(_, _), 0, A1, c1, A2, c2, rfl, rfl, rfl, rfl, h1, h2, h3, h4, h5, h6, h7, h0, hp2.1, hp2.2.1⟩
    haveI : Inhabited (Value × Value) := ⟨(.nilFunc, .nilFunc)⟩
    obtain ⟨q, hq⟩ := choose_lt hch
    obtain ⟨vs, hvs⟩ : ∃ vs : Nat → Value, ∀ k, vs (k * 2) = (q k).2 ∧ vs (k * 2 + 1) = (q k).1 := ⟨fun r => if r % 2 = 0 then (q (r / 2)).2 else (q (r / 2)).1, fun k => ⟨by dsimp only; rw [if_pos (by omega), show k * 2 / 2 = k by omega], by dsimp only; rw [if_neg (by omega), show (k * 2 + 1) / 2 = k by omega]⟩⟩
    have HQ := Lib.hid hq
    have HVS := Lib.hid hvs
    have HRO := Lib.hid hro
    clear hch hq hvs hro hv
    unfold ogV
    go_wp2
    go_loopw [24] (fun i wr => ∃ (k : Nat) (cs : List Value), k ≤ es.length ∧ i = .int .i64 k ∧ Hid (Below w2.heap.size w2 wr) ∧ Hid (wr.heap[w2.heap.size]? = some (.cells #[.slice AI xi.length cI, .slice AO xo.length cO, .int .i64 n, .slice (some ⟨b, 0, none⟩) es.length c] 77 (0, 0))) ∧ Hid (CellsAt wr (w2.heap.size + 1) tOE cs) ∧ Hid (cs.length = es.length * 5) ∧ Hid (∀ j, j < k * 5 → cs[j]? = some (ocell (mirEs es) vs j))) (fun i _ => es.length - (intOf i).toNat)
    case atStart => exact ⟨0, _, Nat.zero_le _, rfl, Lib.hid (((Below.refl _ _).alloc (Nat.le_refl _) _).alloc (by simp) _), Lib.hid ((blk_alloc_lt _ _ _ (by simp)).trans (blk_alloc_new _ _)), Lib.hid (cellsAt_new' _ _ _ _ _ (by simp) rfl), Lib.hid (by simp [madeCells]), Lib.hid (fun j hj => absurd hj (by omega))⟩
    case round =>
      obtain ⟨k, cs, hk, rfl, HB3, HX3, HC, HL, HS⟩ := hrel
      have hos := HC.out.lt
      by_cases hlt : k < es.length
      · obtain ⟨o, A1, c1, A2, c2, -, -, e1, e2, d0, d1, d2, d3, d4, -, -, hb, hk1, hk2⟩ := HQ.out k hlt
        rw [e1] at d0
        rw [e2] at d1
        have hc0 := (HB3.out.cell (p := ⟨b, k * 5, none⟩) hb).trans d0
        have hc1 := (HB3.out.cell (p := ⟨b, k * 5 + 1, none⟩) hb).trans d1
        have hc2 := (HB3.out.cell (p := ⟨b, k * 5 + 2, none⟩) hb).trans d2
        have hc3 := (HB3.out.cell (p := ⟨b, k * 5 + 3, none⟩) hb).trans d3
        have hc4 := (HB3.out.cell (p := ⟨b, k * 5 + 4, none⟩) hb).trans d4
        clear d0 d1 d2 d3 d4
        have HF := Lib.hid (set_five HL.out hlt HS.out)
        rw [ocell0, ocell1, ocell2, ocell3, ocell4, (HVS.out k).1, (HVS.out k).2, e1, e2, mirEs_at hlt] at HF
        clear e1 e2
        obtain ⟨x0, hu0⟩ : ∃ u, wr.cell? ⟨w2.heap.size + 1, k * 5, none⟩ = some u := ⟨_, (HC.out.cell (i := k * 5) (by rw [HL.out]; omega)).trans (List.getElem?_eq_getElem (by rw [HL.out]; omega))⟩
        obtain ⟨x1, hu1⟩ : ∃ u, wr.cell? ⟨w2.heap.size + 1, k * 5 + 1, none⟩ = some u := ⟨_, (HC.out.cell (i := k * 5 + 1) (by rw [HL.out]; omega)).trans (List.getElem?_eq_getElem (by rw [HL.out]; omega))⟩
        obtain ⟨x2, hu2⟩ : ∃ u, wr.cell? ⟨w2.heap.size + 1, k * 5 + 2, none⟩ = some u := ⟨_, (HC.out.cell (i := k * 5 + 2) (by rw [HL.out]; omega)).trans (List.getElem?_eq_getElem (by rw [HL.out]; omega))⟩
        obtain ⟨x3, hu3⟩ : ∃ u, wr.cell? ⟨w2.heap.size + 1, k * 5 + 3, none⟩ = some u := ⟨_, (HC.out.cell (i := k * 5 + 3) (by rw [HL.out]; omega)).trans (List.getElem?_eq_getElem (by rw [HL.out]; omega))⟩
        obtain ⟨x4, hu4⟩ : ∃ u, wr.cell? ⟨w2.heap.size + 1, k * 5 + 4, none⟩ = some u := ⟨_, (HC.out.cell (i := k * 5 + 4) (by rw [HL.out]; omega)).trans (List.getElem?_eq_getElem (by rw [HL.out]; omega))⟩
        have hkI : (k : Int) < (es.length : Int) := by omega
        generalize es.getD k ed0 = ed at hc0 hc1 hc2 hc3 hc4 hk1 hk2 HF
        dsimp only [mirE] at HF
        go_wp2
        obtain ⟨W, HW⟩ : ∃ W, W = wr.alloc (.cells #[.slice A1 ed.i.length c1, .slice A2 ed.o.length c2, .int .i64 ed.k, .int .i64 ed.v, .string ByteArray.empty] 89) := ⟨_, rfl⟩
        rw [← HW]
        have HWB := Lib.hid (show Below wr.heap.size wr W from by rw [HW]; exact (Below.refl _ _).alloc (Nat.le_refl _) _)
        have HWS := Lib.hid (show W.heap.size = wr.heap.size + 1 from by rw [HW]; simp)
        have HWE := Lib.hid (show W.heap[wr.heap.size]? = some (.cells #[.slice A1 ed.i.length c1, .slice A2 ed.o.length c2, .int .i64 ed.k, .int .i64 ed.v, .string ByteArray.empty] 89 (0, 0)) from by rw [HW]; exact blk_alloc_new _ _)
        clear HW hc0 hc1 hc2 hc3 hc4
        have HELD : Hid (∀ w' : World, Below W.heap.size W w' → w'.cell? ⟨wr.heap.size, 0, none⟩ = some (.slice A1 ed.i.length c1) ∧ w'.cell? ⟨wr.heap.size, 1, none⟩ = some (.slice A2 ed.o.length c2) ∧ w'.cell? ⟨wr.heap.size, 2, none⟩ = some (.int .i64 ed.k) ∧ w'.cell? ⟨wr.heap.size, 3, none⟩ = some (.int .i64 ed.v) ∧ w'.cell? ⟨wr.heap.size, 4, none⟩ = some (.string ByteArray.empty)) := Lib.hid (fun w' h => by
          have hb := (h.block wr.heap.size (by rw [HWS.out]; omega)).trans HWE.out
          exact ⟨box_cell hb 0, box_cell hb 1, box_cell hb 2, box_cell hb 3, box_cell hb 4⟩)
        have HCEL : Hid (∀ w' : World, Below W.heap.size W w' → w'.cell? ⟨w2.heap.size + 1, k * 5, none⟩ = some x0 ∧ w'.cell? ⟨w2.heap.size + 1, k * 5 + 1, none⟩ = some x1 ∧ w'.cell? ⟨w2.heap.size + 1, k * 5 + 2, none⟩ = some x2 ∧ w'.cell? ⟨w2.heap.size + 1, k * 5 + 3, none⟩ = some x3 ∧ w'.cell? ⟨w2.heap.size + 1, k * 5 + 4, none⟩ = some x4 ∧ ∀ i, w'.frozen? ⟨w2.heap.size + 1, i, none⟩ = false) := Lib.hid (fun w' h => by
          have hg : w'.heap[w2.heap.size + 1]? = wr.heap[w2.heap.size + 1]? := (h.block _ (by rw [HWS.out]; omega)).trans (HWB.out.block _ hos)
          have cc : ∀ i, w'.cell? ⟨w2.heap.size + 1, i, none⟩ = wr.cell? ⟨w2.heap.size + 1, i, none⟩ := fun i => World.cell?_of_block (w := wr) hg
          have hcg := HC.out.of_block hg
          exact ⟨(cc _).trans hu0, (cc _).trans hu1, (cc _).trans hu2, (cc _).trans hu3, (cc _).trans hu4, fun i => hcg.frozen i⟩)
        clear hu0 hu1 hu2 hu3 hu4
        have HD0 := Lib.hid (HELD.out W.drew (Below.refl _ _).drew)
        have HEX := Lib.hid (exchanged_any W.drew A1 A2 ed.i.length c1 ed.o.length c2)
        have HMI := Lib.hid (fun w' => mirrorImage_any w' ed.k ed.v hk1 hk2)
        go_region_held3 (fun w' => w'.cell? ⟨wr.heap.size, 0, none⟩ = some (.slice A1 ed.i.length c1) ∧ w'.cell? ⟨wr.heap.size, 1, none⟩ = some (.slice A2 ed.o.length c2) ∧ w'.cell? ⟨wr.heap.size, 2, none⟩ = some (.int .i64 ed.k) ∧ w'.cell? ⟨wr.heap.size, 3, none⟩ = some (.int .i64 ed.v) ∧ w'.cell? ⟨wr.heap.size, 4, none⟩ = some (.string ByteArray.empty))
          (first
            | with_reducible exact HD0.out
            | with_reducible exact HD1.out
            | with_reducible exact HD2.out
            | (have hs3 := HB5.out.size; have hws := HWS.out; exact ⟨(World.cell?_of_block (w := w4) (by repeat rw [blk_setCell_other _ _ _ _ (by dsimp only; omega)])).trans HD2.out.1, (World.cell?_of_block (w := w4) (by repeat rw [blk_setCell_other _ _ _ _ (by dsimp only; omega)])).trans HD2.out.2.1, (World.cell?_of_block (w := w4) (by repeat rw [blk_setCell_other _ _ _ _ (by dsimp only; omega)])).trans HD2.out.2.2.1, (World.cell?_of_block (w := w4) (by repeat rw [blk_setCell_other _ _ _ _ (by dsimp only; omega)])).trans HD2.out.2.2.2.1, (World.cell?_of_block (w := w4) (by repeat rw [blk_setCell_other _ _ _ _ (by dsimp only; omega)])).trans HD2.out.2.2.2.2⟩)
            | fail)
          (first
            | (go_at_call 55; go_split_ands; refine HEX.out.mono ?_; rintro e w3 ⟨rfl, b3⟩; have HB4 : Hid (Below W.heap.size W w3) := Lib.hid ((Below.refl _ _).drew.trans b3); have HD1 := Lib.hid (HELD.out w3 HB4.out); clear b3)
            | (go_at_call 56; go_split_ands; refine (HMI.out w3).mono ?_; rintro e w4 ⟨rfl, b4⟩; have HB5 : Hid (Below W.heap.size W w4) := Lib.hid (HB4.out.trans (b4.mono HB4.out.size)); have HD2 := Lib.hid (HELD.out w4 HB5.out); obtain ⟨hu0, hu1, hu2, hu3, hu4, hf⟩ := HCEL.out w4 HB5.out; clear b4)
            | fail)
        have HC6 := Lib.hid (((HC.out.below HWB.out hos).below HB5.out (by rw [HWS.out]; omega)))
        have HX6 := Lib.hid ((HB5.out.block w2.heap.size (by rw [HWS.out]; omega)).trans ((HWB.out.block _ (by omega)).trans HX3.out))
        have HB6 := Lib.hid (HB3.out.trans ((HWB.out.mono HB3.out.size).trans (HB5.out.mono (by rw [HWS.out]; have := HB3.out.size; omega))))
        have HC5 := Lib.hid (((((HC6.out.set (k * 5) (.slice A2 ed.o.length c2)).set (k * 5 + 1) (.slice A1 ed.i.length c1)).set (k * 5 + 2) (.int .i64 (mirK ed.k))).set (k * 5 + 3) (.int .i64 ed.v)).set (k * 5 + 4) (.string ByteArray.empty))
        go_wp2
        go_roundw
        case rel => exact ⟨k + 1, _, by omega, by go_num, Lib.hid (by repeat' (first | exact HB6.out | apply Below.setCell | apply Below.alloc | (simp; done) | omega | (simp; omega))), Lib.hid (by (repeat rw [blk_setCell_other _ _ _ _ (by dsimp only; omega)]); exact HX6.out), Lib.hid (by repeat (first | exact HC5.out | apply CellsAt.drew | apply CellsAt.alloc)), Lib.hid (by simp only [List.length_set]; exact HL.out), HF⟩
        case measure => simp [intOf]; omega
      · have hke : k = es.length := by omega
        subst hke
        have hkI : ¬ (es.length : Int) < (es.length : Int) := by omega
        have HML := Lib.hid (mirEs_len es)
        have HBW := Lib.hid (HB2.out.trans (HB3.out.mono (by omega)))
        have HRM := Lib.hid (fun (w' : World) (hb : Below wr.heap.size wr w') => rdO_cells (B := w2.heap.size) (C := w'.heap.size) (n := es.length) (g := w2.heap.size + 1) (es := mirEs es) (vs := vs) (HC.out.below hb hos) (by rw [HML.out]; exact HL.out) (by rw [HML.out]; exact HS.out) (by have := hb.size; omega) (by have := hb.size; have := HB3.out.size; omega) (by rw [HML.out]; exact Nat.le_refl _) (fun k hk => by
          rw [HML.out] at hk
          obtain ⟨o, A1, c1, A2, c2, -, -, e1, e2, -, -, -, -, -, r1, r2, -, -, -⟩ := HQ.out k hk
          have hb2 : Below w2.heap.size w2 w' := HB3.out.trans (hb.mono HB3.out.size)
          rw [mirEs_at hk]
          exact ⟨A2, c2, A1, c1, (HVS.out k).1.trans e2, (HVS.out k).2.trans e1, r2.below hb2 (Nat.le_refl _), r1.below hb2 (Nat.le_refl _)⟩))
        have HRS := Lib.hid (fun (w' : World) (hb : Below wr.heap.size wr w') => show Calls Try.prog 49 #[.agg #[.slice AO xo.length cO, .slice AI xi.length cI, .int .i64 n, .slice (some ⟨w2.heap.size + 1, 0, none⟩) es.length es.length]] w' (IRetGraphB w' n (mirEs es) xo xi true) from by
          have hbw : Below w.heap.size w w' := HBW.out.trans (hb.mono HBW.out.size)
          have h := HRM.out w' hb
          rw [HML.out] at h
          refine (result_any w' w'.heap.size (.slice AO xo.length cO) (.slice AI xi.length cI) (.slice (some ⟨w2.heap.size + 1, 0, none⟩) es.length es.length) n (mirEs es) xo xi ((HO.out.1.below hbw HB.out).mono fun q hq => by have := HB.out; have := hbw.size; omega) ((HI.out.1.below hbw HB.out).mono fun q hq => by have := HB.out; have := hbw.size; omega) h (Nat.le_refl _) (by rw [HML.out]; omega) HO.out.2 HI.out.2).mono ?_
          rintro e w'' (h | h)
          · rw [mir_valid HV.out] at h
            exact absurd h.1 (by decide)
          · exact h.2)
        have HELD : Hid (∀ w' : World, Below wr.heap.size wr w' → w'.cell? ⟨w2.heap.size, 0, none⟩ = some (.slice AI xi.length cI) ∧ w'.cell? ⟨w2.heap.size, 1, none⟩ = some (.slice AO xo.length cO) ∧ w'.cell? ⟨w2.heap.size, 2, none⟩ = some (.int .i64 n) ∧ w'.cell? ⟨w2.heap.size, 3, none⟩ = some (.slice (some ⟨b, 0, none⟩) es.length c)) := Lib.hid (fun w' h => by
          have hb := (h.block w2.heap.size (by omega)).trans HX3.out
          exact ⟨box_cell hb 0, box_cell hb 1, box_cell hb 2, box_cell hb 3⟩)
        have HRES : Hid (∀ w' : World, Below wr.heap.size wr w' → w'.cell? ⟨w.heap.size + 1, 0, none⟩ = some (.int .i64 0) ∧ w'.cell? ⟨w.heap.size + 1, 1, none⟩ = some (.slice none 0 0) ∧ w'.cell? ⟨w.heap.size + 1, 2, none⟩ = some (.slice none 0 0) ∧ w'.cell? ⟨w.heap.size + 1, 3, none⟩ = some (.slice none 0 0) ∧ ∀ i, w'.frozen? ⟨w.heap.size + 1, i, none⟩ = false) := Lib.hid (fun w' h => by
          have hb := (h.block (w.heap.size + 1) (by omega)).trans ((HB3.out.block _ (by omega)).trans HXR.out)
          exact ⟨box_cell hb 0, box_cell hb 1, box_cell hb 2, box_cell hb 3, fun i => box_free hb i⟩)
        have HEX := Lib.hid (exchanged_any wr.drew AI AO xi.length cI xo.length cO)
        have HD0 := Lib.hid (HELD.out wr.drew (Below.refl _ _).drew)
        go_wp2
        go_region_held3 (fun w' => w'.cell? ⟨w2.heap.size, 0, none⟩ = some (.slice AI xi.length cI) ∧ w'.cell? ⟨w2.heap.size, 1, none⟩ = some (.slice AO xo.length cO) ∧ w'.cell? ⟨w2.heap.size, 2, none⟩ = some (.int .i64 n) ∧ w'.cell? ⟨w2.heap.size, 3, none⟩ = some (.slice (some ⟨b, 0, none⟩) es.length c))
          (first
            | with_reducible exact HD0.out
            | with_reducible exact HD1.out
            | with_reducible exact HD2.out
            | (exact ⟨(World.cell?_of_block (w := w4) (by repeat rw [blk_setCell_other _ _ _ _ (by dsimp only; omega)])).trans HD2.out.1, (World.cell?_of_block (w := w4) (by repeat rw [blk_setCell_other _ _ _ _ (by dsimp only; omega)])).trans HD2.out.2.1, (World.cell?_of_block (w := w4) (by repeat rw [blk_setCell_other _ _ _ _ (by dsimp only; omega)])).trans HD2.out.2.2.1, (World.cell?_of_block (w := w4) (by repeat rw [blk_setCell_other _ _ _ _ (by dsimp only; omega)])).trans HD2.out.2.2.2⟩)
            | fail)
          (first
            | (go_at_call 55; go_split_ands; refine HEX.out.mono ?_; rintro e w3 ⟨rfl, b3⟩; have HB4 : Hid (Below wr.heap.size wr w3) := Lib.hid ((Below.refl _ _).drew.trans b3); have HD1 := Lib.hid (HELD.out w3 HB4.out); clear b3)
            | (go_at_call 49; go_split_ands; refine (HRS.out w3 HB4.out).mono ?_; rintro e w4 ⟨v1, v2, v3, S1, S2, S3, rfl, b4, s1, s2, s3, d12, d13, d23, o1, o2, o3⟩; obtain ⟨A4, c4, rfl⟩ := o1.len; obtain ⟨A5, c5, rfl⟩ := o2.len; obtain ⟨A6, c6, rfl⟩ := o3.len; have HB5 : Hid (Below wr.heap.size wr w4) := Lib.hid (HB4.out.trans (b4.mono HB4.out.size)); have HD2 := Lib.hid (HELD.out w4 HB5.out); obtain ⟨hu0, hu1, hu2, hu3, hf⟩ := HRES.out w4 HB5.out; have HOW := Lib.hid (show _ ∧ _ ∧ _ ∧ _ ∧ _ ∧ _ ∧ _ ∧ _ ∧ _ from ⟨s1, s2, s3, d12, d13, d23, o1, o2, o3⟩); clear b4 s1 s2 s3 d12 d13 d23 o1 o2 o3)
            | fail)
        go_wp2
        refine bodyPost_ret (v := .tuple #[.agg #[.int .i64 n, .slice A4 (mirEs es).length c4, .slice A5 xo.length c5, .slice A6 xi.length c6], .bool true]) (by simp [results, Try.results23, go_sem, hu0, hu1, hu2, hu3]) rfl ?_
        unfold mgN mgE mgI mgO mgB
        rw [HV.out]
        obtain ⟨s1, s2, s3, d12, d13, d23, o1, o2, o3⟩ := HOW.out
        have hz3 := HB3.out.size
        have hz4 := HB4.out.size
        refine ⟨_, _, _, S1, S2, S3, rfl, by repeat' (first | exact HBW.out.trans (HB5.out.mono HBW.out.size) | apply Below.setCell | (simp; done) | omega | (simp; omega)), fun q hq => by have := s1 q hq; omega, fun q hq => by have := s2 q hq; omega, fun q hq => by have := s3 q hq; omega, d12, d13, d23, o1.blocks ?_, o2.blocks ?_, o3.blocks ?_⟩
        · exact fun q hq _ => by have := s1 q hq; repeat rw [blk_setCell_other _ _ _ _ (by dsimp only; omega)]
        · exact fun q hq _ => by have := s2 q hq; repeat rw [blk_setCell_other _ _ _ _ (by dsimp only; omega)]
        · exact fun q hq _ => by have := s3 q hq; repeat rw [blk_setCell_other _ _ _ _ (by dsimp only; omega)]
end Go.Proofs.Ytiealgnmhjebeaa
