/- GlT HgO HgT TgS TgG in one text. -/
import Derived.Test.YtdcgoeapgboclaaGlB
import Derived.Test.YtdcgoeapgboclaaGlS
import Derived.Deep.RegionHeld3
import Derived.Test.YtdcgoeapgboclaaGrV
import Derived.BigQuiet
import Derived.Test.YtdcgoeapgboclaaRegL
/-! Tracing: wires made one of which some occur nowhere else; the model's hgOwn. -/
namespace Go.Proofs.Ytdcgoeapgboclaa
set_option maxRecDepth 100000
open Go Go.RowKit Go.Deep

theorem gl_valid2 {N : Nat} {a b : List Int} {es : List Ed} {xi xo : List Int} (v2 : (N : Int) ≤ 100) (v3 : es.length ≤ 60) (v4 : xi.length ≤ 12) (v5 : xo.length ≤ 12) (v6 : (es.any fun e => !edP e) = false) (v7 : ∀ x, x ∈ occL es xi xo → 0 ≤ x ∧ x < N) (hab : a.length ≤ b.length) (hra : inRg N a) (hrb : inRg N b) :
    validB (pCnt N a b es xi xo) (mapEs (pNum N a b es xi xo) es) (pickL xi (pNum N a b es xi xo)) (pickL xo (pNum N a b es xi xo)) = true := by
  have hin := gclK_in hra hrb a.length (Nat.le_refl _) hab
  have hmem : ∀ z : Int, z ∈ clsL (gclK N a b a.length) (occL es xi xo) ↔ ∃ x, x ∈ occL es xi xo ∧ (gclK N a b a.length).getD x.toNat 0 = z := fun z => by
    unfold clsL
    rw [mem_compact, srt_mem]
    exact mem_pickL
  have hpw : (clsL (gclK N a b a.length) (occL es xi xo)).Pairwise (· < ·) := compact_lt (srt_sorted _)
  have hD : ∀ z, z ∈ clsL (gclK N a b a.length) (occL es xi xo) → 0 ≤ z ∧ z < N := fun z hz => by
    obtain ⟨x, hx, rfl⟩ := (hmem z).1 hz
    have := v7 x hx
    exact hin x.toNat (by rw [gclK_len]; omega)
  have hle := (full_iff _ 0 N hpw hD (by omega)).1
  refine valid_iff.2 ⟨⟨by omega, ?_, by rw [mapEs_len]; exact v3, by rw [pickL_len]; exact v4, by rw [pickL_len]; exact v5⟩, ?_, fun y hy => ?_, fun k h0 h1 => ?_⟩
  · unfold pCnt
    omega
  · rw [List.any_eq_false] at v6 ⊢
    intro e he
    obtain ⟨e0, he0, rfl⟩ := List.mem_map.1 he
    rw [edP_map]
    exact v6 e0 he0
  · obtain ⟨x, hx, rfl⟩ := mem_occ_map.1 hy
    have hx2 := v7 x hx
    rw [pNum_at hx2.1 hx2.2]
    obtain ⟨k, hk, -, hc⟩ := cnt_mem hpw ((hmem _).2 ⟨x, hx, rfl⟩)
    rw [hc]
    unfold pCnt
    omega
  · unfold pCnt at h1
    have hk : k.toNat < (clsL (gclK N a b a.length) (occL es xi xo)).length := by omega
    obtain ⟨x, hx, e⟩ := (hmem _).1 (getD_mem' hk 0)
    have hx2 := v7 x hx
    refine mem_occ_map.2 ⟨x, hx, ?_⟩
    rw [pNum_at hx2.1 hx2.2, e, cnt_at hpw _ hk]
    omega
theorem pickL_id {N : Nat} {l : List Int} (h : inRg N l) : pickL l (rangeI 0 N) = l := by
  unfold pickL
  refine (List.map_congr_left fun x hx => ?_).trans (List.map_id l)
  have := inRg_mem h x hx
  rw [rangeI_getD (by omega)]
  show ((x.toNat : Nat) : Int) = x
  omega
theorem mapEs_id {N : Nat} {es : List Ed} (h : ∀ k, k < es.length → inRg N (es.getD k ed0).i ∧ inRg N (es.getD k ed0).o) : mapEs (rangeI 0 N) es = es := by
  unfold mapEs
  refine (List.map_congr_left fun e he => ?_).trans (List.map_id es)
  obtain ⟨k, hk, rfl⟩ := List.getElem_of_mem he
  have h2 := h k hk
  rw [List.getD_eq_getElem?_getD, List.getElem?_eq_getElem hk] at h2
  change inRg N es[k].i ∧ inRg N es[k].o at h2
  unfold mapE
  rw [pickL_id h2.1, pickL_id h2.2]
  rfl
theorem occ_part {es : List Ed} {xi xo : List Int} {n m : Nat} {x : Int} (h : x ∈ occL es (xi.take n) (xo.take m)) : x ∈ occL es xi xo := by
  rcases mem_occ.1 h with h | h | h
  · exact mem_occ.2 (Or.inl (List.mem_of_mem_take h))
  · exact mem_occ.2 (Or.inr (Or.inl (List.mem_of_mem_take h)))
  · exact mem_occ.2 (Or.inr (Or.inr h))
end Go.Proofs.Ytdcgoeapgboclaa

/-! A graph's own copy: the model's hgOwn. -/
namespace Go.Proofs.Ytdcgoeapgboclaa
open Go Go.RowKit Go.Deep

set_option maxRecDepth 100000 in
set_option maxHeartbeats 6400000 in
theorem hgOwn_any (w : World) (B : Nat) (uE uI uO : Value) (N : Nat) (es : List Ed) (xi xo : List Int) (hE : LfE w B uE es) (hI : LfR w B uI xi) (hO : LfR w B uO xo) (hB : B ≤ w.heap.size) (hN : N ≤ 1000)
    (hle : es.length ≤ 1000) (hli : xi.length ≤ 1000) (hlo : xo.length ≤ 1000) (hlr : ∀ k, k < es.length → (es.getD k ed0).i.length ≤ 1000 ∧ (es.getD k ed0).o.length ≤ 1000) (hcn : cntE es ≤ 1099511627776)
    (hai : inRg N xi) (hao : inRg N xo) (hae : ∀ k, k < es.length → inRg N (es.getD k ed0).i ∧ inRg N (es.getD k ed0).o) :
    Calls Try.prog 68 #[.agg #[.int .i64 N, uE, uI, uO]] w fun e w' => ∃ v1 v2 v3, e = .returned (.agg #[.int .i64 N, v1, v2, v3]) ∧ Below w.heap.size w w' ∧ OwnE w' (fun q => w.heap.size ≤ q) v1 es ∧ OwnR w' (fun q => w.heap.size ≤ q) v2 xi ∧ OwnR w' (fun q => w.heap.size ≤ q) v3 xo := by
  have HB := Lib.hid hB
  have hmk := make_ints N (by omega)
  have HMP := Lib.hid (fun (w' : World) (h : Below w.heap.size w w') (uT : Value) (C : Nat) (hC : B ≤ C) (hC2 : C ≤ w'.heap.size) (hT : RdS w' (fun q => q < C) uT (rangeI 0 N)) => hgMap_any w' C uE uI uO uT N N es xi xo (rangeI 0 N) ((hE.below h hB).mono hC) ⟨(hI.1.below h hB).mono (fun q hq => Nat.lt_of_lt_of_le hq hC), hI.2⟩ ⟨(hO.1.below h hB).mono (fun q hq => Nat.lt_of_lt_of_le hq hC), hO.2⟩ hT hC2 hle hli hlo hlr hcn (by rw [rangeI_len]; exact hai) (by rw [rangeI_len]; exact hao) (by rw [rangeI_len]; exact hae))
  rw [mapEs_id hae, pickL_id hai, pickL_id hao] at HMP
  obtain ⟨AE, cE, rfl⟩ := hE.len
  obtain ⟨AI, cI, rfl⟩ := hI.len
  obtain ⟨AO, cO, rfl⟩ := hO.len
  have HRN := Lib.hid (show (rangeI 0 N).length = N from rangeI_len 0 N)
  have HGR := Lib.hid (gidK_range N)
  clear hE hI hO hB hlr hcn hai hao hae
  go_enter Try.func68, Try.ntmps68
  go_upto_region 1 with fail
  obtain ⟨W, HW⟩ : ∃ W, W = (w.alloc (.cells #[.int .i64 N, .slice AE es.length cE, .slice AI xi.length cI, .slice AO xo.length cO] 29)).alloc (.cells #[.int .i64 0, .slice none 0 0, .slice none 0 0, .slice none 0 0] 29) := ⟨_, rfl⟩
  rw [← HW]
  have hws : w.heap.size + 2 ≤ W.heap.size := by rw [HW]; simp
  have HWB := Lib.hid (show Below w.heap.size w W from by rw [HW]; exact ((Below.refl _ _).alloc (Nat.le_refl _) _).alloc (by simp) _)
  have HWG := Lib.hid (show W.heap[w.heap.size]? = some (.cells #[.int .i64 N, .slice AE es.length cE, .slice AI xi.length cI, .slice AO xo.length cO] 29 (0, 0)) from by rw [HW]; exact (blk_alloc_lt _ _ _ (by simp)).trans (blk_alloc_new w _))
  have HWR := Lib.hid (show W.heap[w.heap.size + 1]? = some (.cells #[.int .i64 0, .slice none 0 0, .slice none 0 0, .slice none 0 0] 29 (0, 0)) from by rw [HW]; have := blk_alloc_new (w.alloc (.cells #[.int .i64 N, .slice AE es.length cE, .slice AI xi.length cI, .slice AO xo.length cO] 29)) (.cells #[.int .i64 0, .slice none 0 0, .slice none 0 0, .slice none 0 0] 29); simpa using this)
  clear HW
  have hg0 := box_cell HWG.out 0
  simp at hg0
  go_wp2
  go_loopw [10, 4] (fun i _ wr => ∃ k : Nat, k ≤ N ∧ i = .int .i64 k ∧ Hid (Below W.heap.size W wr) ∧ Hid (IR wr W.heap.size (gidK N k))) (fun i _ _ => N - (intOf i).toNat)
  case atStart => exact ⟨0, Nat.zero_le _, rfl, Lib.hid ((Below.refl _ _).alloc (Nat.le_refl _) _), Lib.hid (made_ints W N)⟩
  case round =>
    obtain ⟨k, hk, rfl, HB1, HC1⟩ := hrel
    have hl1 := CellsAt.lt HC1.out
    have hf1 := CellsAt.frozen HC1.out
    clear hg0
    by_cases hlt : k < N
    · have hc1 := HC1.out.at (k := k) (by rw [gidK_len]; exact hlt)
      have hlI : (k : Int) < (N : Int) := by omega
      go_wp2
      go_roundw
      all_goals first
        | exact ⟨k + 1, by omega, by go_num, Lib.hid (HB1.out.setCell (by dsimp only; omega) _), Lib.hid (HC1.out.put k k)⟩
        | (simp [intOf]; omega)
        | (trace_state; fail)
    · have hkN : k = N := by omega
      rw [hkN, HGR.out] at HC1
      have hnl : ¬ (k : Int) < (N : Int) := by omega
      have HBw := Lib.hid (HWB.out.trans (HB1.out.mono HWB.out.size))
      have hrd := HC1.out.rd wr.heap.size hl1
      rw [HRN.out] at hrd
      have HRD := Lib.hid hrd
      have hgb := (HB1.out.block w.heap.size (by omega)).trans HWG.out
      have hy0 := box_cell hgb 0
      have hy1 := box_cell hgb 1
      have hy2 := box_cell hgb 2
      have hy3 := box_cell hgb 3
      simp at hy0 hy1 hy2 hy3
      have HR1 := Lib.hid ((HB1.out.block (w.heap.size + 1) (by omega)).trans HWR.out)
      clear hrd hgb hlt hkN hf1
      go_wp2_with fail
      refine (HMP.out wr HBw.out (.slice (some ⟨W.heap.size, 0, none⟩) N N) wr.heap.size (Nat.le_trans HB.out HBw.out.size) (Nat.le_refl _) HRD.out).mono ?_
      rintro e w7 ⟨v1, v2, v3, rfl, b7, o1, o2, o3⟩
      have hrb := (b7.block (w.heap.size + 1) (by omega)).trans HR1.out
      have hx0 := box_cell hrb 0
      have hx1 := box_cell hrb 1
      have hx2 := box_cell hrb 2
      have hx3 := box_cell hrb 3
      have hxf := box_free hrb
      simp at hx0 hx1 hx2 hx3
      have hl7 : w.heap.size + 1 < w7.heap.size := by have := b7.size; omega
      have HB7 := Lib.hid (HBw.out.trans (b7.mono HBw.out.size))
      obtain ⟨A1, c1, rfl⟩ := o1.len
      obtain ⟨A2, c2, rfl⟩ := o2.len
      obtain ⟨A3, c3, rfl⟩ := o3.len
      have HO1 := Lib.hid o1
      have HO2 := Lib.hid o2
      have HO3 := Lib.hid o3
      clear hrb b7 o1 o2 o3
      go_wp2
      refine bodyPost_ret (v := .agg #[.int .i64 N, .slice A1 es.length c1, .slice A2 xi.length c2, .slice A3 xo.length c3]) (by simp [results, Try.results68, go_sem, hx0, hx1, hx2, hx3]) rfl ?_
      refine ⟨_, _, _, rfl, by repeat' (first | exact HB7.out | apply Below.setCell | (simp; done)), ?_, ?_, ?_⟩
      · exact (HO1.out.blocks (fun q hq _ => by repeat rw [blk_setCell_other _ _ _ _ (by dsimp only; omega)])).mono fun q hq _ => by omega
      · exact (HO2.out.blocks (fun q hq _ => by repeat rw [blk_setCell_other _ _ _ _ (by dsimp only; omega)])).mono fun q hq _ => by omega
      · exact (HO3.out.blocks (fun q hq _ => by repeat rw [blk_setCell_other _ _ _ _ (by dsimp only; omega)])).mono fun q hq _ => by omega
end Go.Proofs.Ytdcgoeapgboclaa

/-! Tracing: the model's hgTrace. -/
namespace Go.Proofs.Ytdcgoeapgboclaa
open Go Go.RowKit Go.Deep

theorem rdS_front {w : World} {S : Nat → Prop} {A : Option Addr} {n c l : Nat} {xs : List Int} (h : RdS w S (.slice A n c) xs) (hl : l ≤ xs.length) : RdS w S (.slice A l c) (xs.take l) := by
  obtain ⟨A', c', e, kc, h⟩ := h
  obtain ⟨rfl, -, rfl⟩ := sliceEq e
  have hlen : (xs.take l).length = l := by rw [List.length_take]; omega
  refine ⟨A, c, by rw [hlen], by omega, fun k hk => ?_⟩
  rw [hlen] at hk
  obtain ⟨b, o, e2, hs, hc⟩ := h k (by omega)
  refine ⟨b, o, e2, hs, ?_⟩
  have : (xs.take l).getD k 0 = xs.getD k 0 := by rw [List.getD_eq_getElem?_getD, List.getD_eq_getElem?_getD, List.getElem?_take_of_lt hk]
  rw [this]
  exact hc
theorem rdS_back {w : World} {S : Nat → Prop} {A : Option Addr} {n c m : Nat} {xs : List Int} (h : RdS w S (.slice A n c) xs) (hm : m ≤ n) : RdS w S (.slice (if c = m then A else Option.map (fun x => x.add m) A) (n - m) (c - m)) (xs.drop m) := by
  obtain ⟨A', c', e, kc, h'⟩ := h
  obtain ⟨rfl, rfl, rfl⟩ := sliceEq e
  have hd : (xs.drop m).length = xs.length - m := List.length_drop ..
  refine ⟨_, _, by rw [hd], by omega, fun k hk => ?_⟩
  rw [hd] at hk
  obtain ⟨b, o, rfl, hs, hc⟩ := h' (m + k) (by omega)
  rw [if_neg (by omega)]
  refine ⟨b, o + m, by simp [Addr.add], hs, ?_⟩
  rw [Nat.add_assoc, hc]
  simp [List.getD_eq_getElem?_getD]
set_option maxRecDepth 100000 in
set_option maxHeartbeats 6400000 in
theorem hgTrace_any (w : World) (B : Nat) (uE uI uO : Value) (N K : Nat) (es : List Ed) (xi xo : List Int) (hE : LfE w B uE es) (hI : LfR w B uI xi) (hO : LfR w B uO xo) (hB : B ≤ w.heap.size) (hN : N ≤ 1000)
    (hle : es.length ≤ 1000) (hli : xi.length ≤ 1000) (hlo : xo.length ≤ 1000) (hlr : ∀ k, k < es.length → (es.getD k ed0).i.length ≤ 1000 ∧ (es.getD k ed0).o.length ≤ 1000) (hcn : cntE es ≤ 1099511627776)
    (hoc : ∀ x, x ∈ occL es xi xo → 0 ≤ x ∧ x < N) (hki : K ≤ xi.length) (hko : K ≤ xo.length) :
    Calls Try.prog 43 #[.agg #[.int .i64 N, uE, uI, uO], .int .i64 K] w fun e w' => ∃ v1 v2 v3, e = .returned (.agg #[.int .i64 (pCnt N (xi.drop (xi.length - K)) (xo.drop (xo.length - K)) es (xi.take (xi.length - K)) (xo.take (xo.length - K))), v1, v2, v3]) ∧ Below w.heap.size w w' ∧ OwnE w' (fun q => w.heap.size ≤ q) v1 (mapEs (pNum N (xi.drop (xi.length - K)) (xo.drop (xo.length - K)) es (xi.take (xi.length - K)) (xo.take (xo.length - K))) es) ∧ OwnR w' (fun q => w.heap.size ≤ q) v2 (pickL (xi.take (xi.length - K)) (pNum N (xi.drop (xi.length - K)) (xo.drop (xo.length - K)) es (xi.take (xi.length - K)) (xo.take (xo.length - K)))) ∧ OwnR w' (fun q => w.heap.size ≤ q) v3 (pickL (xo.take (xo.length - K)) (pNum N (xi.drop (xi.length - K)) (xo.drop (xo.length - K)) es (xi.take (xi.length - K)) (xo.take (xo.length - K)))) := by
  have hin : inRg N xi ∧ inRg N xo ∧ ∀ k, k < es.length → inRg N (es.getD k ed0).i ∧ inRg N (es.getD k ed0).o := by
    refine ⟨mem_inRg fun x hx => hoc x (mem_occ.2 (Or.inl hx)), mem_inRg fun x hx => hoc x (mem_occ.2 (Or.inr (Or.inl hx))), fun k hk => ⟨mem_inRg fun x hx => hoc x (mem_occ.2 (Or.inr (Or.inr ⟨_, getD_mem' hk ed0, Or.inl hx⟩))), mem_inRg fun x hx => hoc x (mem_occ.2 (Or.inr (Or.inr ⟨_, getD_mem' hk ed0, Or.inr hx⟩)))⟩⟩
  have HOWN := Lib.hid (fun (w' : World) (h : Below w.heap.size w w') => hgOwn_any w' B uE uI uO N es xi xo (hE.below h hB) (hI.below h hB) (hO.below h hB) (Nat.le_trans hB h.size) hN hle hli hlo hlr hcn hin.1 hin.2.1 hin.2.2)
  obtain ⟨n1, hn1⟩ : ∃ n, n = xi.length - K := ⟨_, rfl⟩
  obtain ⟨m1, hm1⟩ : ∃ m, m = xo.length - K := ⟨_, rfl⟩
  rw [← hn1, ← hm1]
  have HGG := Lib.hid (fun (w' : World) (B' : Nat) (hB' : B' ≤ w'.heap.size) (vE vI vO va vb : Value) (h1 : LfE w' B' vE es) (h2 : LfR w' B' vI (xi.take n1)) (h3 : LfR w' B' vO (xo.take m1)) (h4 : RdS w' (fun q => q < B') va (xi.drop n1)) (h5 : RdS w' (fun q => q < B') vb (xo.drop m1)) => hgGlue_any w' B' vE vI vO va vb N es (xi.take n1) (xo.take m1) (xi.drop n1) (xo.drop m1) h1 h2 h3 h4 h5 hB' hN hle (by rw [List.length_take]; omega) (by rw [List.length_take]; omega) hlr hcn (by rw [List.length_drop]; omega) (by rw [List.length_drop, List.length_drop]; omega) (by rw [List.length_drop]; omega) (mem_inRg fun x hx => inRg_mem hin.1 x (List.mem_of_mem_drop hx)) (mem_inRg fun x hx => inRg_mem hin.2.1 x (List.mem_of_mem_drop hx)) (fun x hx => hoc x (occ_part hx)))
  obtain ⟨AE, cE, rfl⟩ := hE.len
  obtain ⟨AI, cI, rfl⟩ := hI.len
  obtain ⟨AO, cO, rfl⟩ := hO.len
  have hw1 : IntKind.i64.wrap ((xi.length : Int) - (K : Int)) = (n1 : Int) := by rw [Go.IntWalk.i64_in _ ⟨by omega, by omega⟩]; omega
  have hw2 : IntKind.i64.wrap ((xo.length : Int) - (K : Int)) = (m1 : Int) := by rw [Go.IntWalk.i64_in _ ⟨by omega, by omega⟩]; omega
  have hnl : n1 ≤ xi.length := by omega
  have hml : m1 ≤ xo.length := by omega
  obtain ⟨nu, HNU⟩ : ∃ nu, Hid (pNum N (xi.drop n1) (xo.drop m1) es (xi.take n1) (xo.take m1) = nu) := ⟨_, Lib.hid rfl⟩
  obtain ⟨cn, HCN⟩ : ∃ cn, Hid (pCnt N (xi.drop n1) (xo.drop m1) es (xi.take n1) (xo.take m1) = cn) := ⟨_, Lib.hid rfl⟩
  rw [HNU.out, HCN.out] at HGG ⊢
  have HNE := Lib.hid hn1
  have HME := Lib.hid hm1
  clear hE hI hO hB hlr hcn hoc hin hn1 hm1
  go_enter Try.func43, Try.ntmps43
  go_wp2_with fail
  obtain ⟨W, HW⟩ : ∃ W, W = (w.alloc (.cells #[.int .i64 N, .slice AE es.length cE, .slice AI xi.length cI, .slice AO xo.length cO] 29)).alloc (.cells #[.int .i64 0, .slice none 0 0, .slice none 0 0, .slice none 0 0] 29) := ⟨_, rfl⟩
  rw [← HW]
  have hws : w.heap.size + 2 ≤ W.heap.size := by rw [HW]; simp
  have HWB := Lib.hid (show Below w.heap.size w W from by rw [HW]; exact ((Below.refl _ _).alloc (Nat.le_refl _) _).alloc (by simp) _)
  have HWG := Lib.hid (show CellsAt W w.heap.size 29 [.int .i64 N, .slice AE es.length cE, .slice AI xi.length cI, .slice AO xo.length cO] from by rw [HW]; exact (cellsAt_new w #[.int .i64 N, .slice AE es.length cE, .slice AI xi.length cI, .slice AO xo.length cO] 29).alloc _)
  have HWR := Lib.hid (show W.heap[w.heap.size + 1]? = some (.cells #[.int .i64 0, .slice none 0 0, .slice none 0 0, .slice none 0 0] 29 (0, 0)) from by rw [HW]; have := blk_alloc_new (w.alloc (.cells #[.int .i64 N, .slice AE es.length cE, .slice AI xi.length cI, .slice AO xo.length cO] 29)) (.cells #[.int .i64 0, .slice none 0 0, .slice none 0 0, .slice none 0 0] 29); simpa using this)
  clear HW
  refine (HOWN.out W HWB.out).mono ?_
  rintro e w2 ⟨v1, v2, v3, rfl, b2, o1, o2, o3⟩
  obtain ⟨A1, c1, rfl⟩ := o1.len
  obtain ⟨A2, c2, rfl⟩ := o2.len
  obtain ⟨A3, c3, rfl⟩ := o3.len
  have HC2 := Lib.hid (HWG.out.below b2 (by omega))
  have HR2 := Lib.hid ((b2.block (w.heap.size + 1) (by omega)).trans HWR.out)
  have HB2 := Lib.hid (HWB.out.trans (b2.mono HWB.out.size))
  have hs2 := b2.size
  have HO1 := Lib.hid o1
  have HO2 := Lib.hid o2
  have HO3 := Lib.hid o3
  obtain ⟨hy0, hy1, hy2, hy3, hyl⟩ := HC2.out.four
  have hyf := HC2.out.frozen
  clear b2 o1 o2 o3
  go_wp2
  obtain ⟨W3, HW3⟩ : ∃ W3, W3 = (((w2.setCell ⟨w.heap.size, 0, none⟩ (.int .i64 N)).setCell ⟨w.heap.size, 1, none⟩ (.slice A1 es.length c1)).setCell ⟨w.heap.size, 2, none⟩ (.slice A2 xi.length c2)).setCell ⟨w.heap.size, 3, none⟩ (.slice A3 xo.length c3) := ⟨_, rfl⟩
  rw [← HW3]
  have HC3 := Lib.hid (show CellsAt W3 w.heap.size 29 [.int .i64 N, .slice A1 es.length c1, .slice A2 xi.length c2, .slice A3 xo.length c3] from by rw [HW3]; exact (((HC2.out.set 0 _).set 1 _).set 2 _).set 3 _)
  have hsz3 : w2.heap.size ≤ W3.heap.size := by rw [HW3]; simp
  have HB3 := Lib.hid (show Below w.heap.size w W3 from by rw [HW3]; repeat' (first | exact HB2.out | apply Below.setCell | (simp; done)))
  have HR3 := Lib.hid ((show W3.heap[w.heap.size + 1]? = w2.heap[w.heap.size + 1]? from by rw [HW3]; repeat rw [blk_setCell_other _ _ _ _ (by dsimp only; omega)]).trans HR2.out)
  have HP1 := Lib.hid (show OwnE W3 (fun q => W.heap.size ≤ q) (.slice A1 es.length c1) es from by rw [HW3]; exact HO1.out.blocks (fun q hq _ => by repeat rw [blk_setCell_other _ _ _ _ (by dsimp only; omega)]))
  have HP2 := Lib.hid (show OwnR W3 (fun q => W.heap.size ≤ q) (.slice A2 xi.length c2) xi from by rw [HW3]; exact HO2.out.blocks (fun q hq _ => by repeat rw [blk_setCell_other _ _ _ _ (by dsimp only; omega)]))
  have HP3 := Lib.hid (show OwnR W3 (fun q => W.heap.size ≤ q) (.slice A3 xo.length c3) xo from by rw [HW3]; exact HO3.out.blocks (fun q hq _ => by repeat rw [blk_setCell_other _ _ _ _ (by dsimp only; omega)]))
  clear HW3 HO1 HO2 HO3 HC2 hy0 hy1 hy2 hy3 hyl hyf
  have HRI := Lib.hid (HP2.out.rd.1)
  have HRO := Lib.hid (HP3.out.rd.1)
  have hc2 : xi.length ≤ c2 := by obtain ⟨A', c', e, kc, -⟩ := HRI.out; obtain ⟨-, -, rfl⟩ := sliceEq e; exact kc
  have hc3 : xo.length ≤ c3 := by obtain ⟨A', c', e, kc, -⟩ := HRO.out; obtain ⟨-, -, rfl⟩ := sliceEq e; exact kc
  obtain ⟨A2d, hA2d⟩ : ∃ A', (if c2 = n1 then A2 else Option.map (fun x => x.add n1) A2) = A' := ⟨_, rfl⟩
  obtain ⟨A3d, hA3d⟩ : ∃ A', (if c3 = m1 then A3 else Option.map (fun x => x.add m1) A3) = A' := ⟨_, rfl⟩
  have HRI2 := Lib.hid (rdS_back (m := n1) HRI.out hnl)
  have HRO2 := Lib.hid (rdS_back (m := m1) HRO.out hml)
  rw [hA2d] at HRI2
  rw [hA3d] at HRO2
  have HS : Hid (∀ w' : World, Below W3.heap.size W3 w' → (fun w' : World => w'.cell? ⟨w.heap.size, 2, none⟩ = some (.slice A2 xi.length c2) ∧ w'.cell? ⟨w.heap.size, 3, none⟩ = some (.slice A3 xo.length c3)) w') := Lib.hid (fun w' h => by
    have hf := (HC3.out.below h HC3.out.lt).four
    exact ⟨hf.2.2.1, hf.2.2.2.1⟩)
  obtain ⟨hy0, hy1, hy2, hy3, hyl⟩ := HC3.out.four
  have hnI : (n1 : Int) ≤ (xi.length : Int) := by omega
  have hmI : (m1 : Int) ≤ (xo.length : Int) := by omega
  have hnc : (xi.length : Int) ≤ (c2 : Int) := by omega
  have hmc : (xo.length : Int) ≤ (c3 : Int) := by omega
  have hn0 : (0 : Int) ≤ (n1 : Int) := by omega
  have hm0 : (0 : Int) ≤ (m1 : Int) := by omega
  go_region
  go_wp2
  have HLA := Lib.hid (fun (w' : World) (h : Below W3.heap.size W3 w') => l1Own_app w' W3.heap.size (.slice A2d (xi.length - n1) (c2 - n1)) (xi.drop n1) (HRI2.out.below h (Nat.le_refl _)) h.size (by rw [List.length_drop]; omega))
  have HLB := Lib.hid (fun (w' : World) (h : Below W3.heap.size W3 w') => l1Own_app w' W3.heap.size (.slice A3d (xo.length - m1) (c3 - m1)) (xo.drop m1) (HRO2.out.below h (Nat.le_refl _)) h.size (by rw [List.length_drop]; omega))
  have HD0 := Lib.hid (HS.out W3.drew.drew (Below.refl _ _).drew.drew)
  go_region_held3 (fun w' => w'.cell? ⟨w.heap.size, 2, none⟩ = some (.slice A2 xi.length c2) ∧ w'.cell? ⟨w.heap.size, 3, none⟩ = some (.slice A3 xo.length c3))
    (first | with_reducible exact HD0.out | with_reducible exact HD1.out | with_reducible exact HD2.out | exact HD0.out | fail)
    (first
      | (have _hb := HB4; go_at_call 58; go_split_ands; (with_reducible refine (HLB.out w4 HB4.out).mono ?_); clear _hb; rintro e w5 ⟨v5, rfl, b5, o5⟩; obtain ⟨A5, c5, rfl⟩ := (RowA.own o5).len; have HB5 : Hid (Below W3.heap.size W3 w5) := Lib.hid (HB4.out.trans (b5.mono HB4.out.size)); have HD2 := Lib.hid (HS.out w5 HB5.out); have HRA := Lib.hid (OwR.blocks (w' := w5) (HR4.out.mono (T := fun q => W3.heap.size ≤ q ∧ q < w4.heap.size) (fun q hq hl => ⟨hq, hl⟩)) (fun q hq hl _ _ => b5.block q hl)); have HRB := Lib.hid ((RowA.own o5).mono (T := fun q => W3.heap.size ≤ q) (fun q hq _ => Nat.le_trans HB4.out.size hq)); clear b5 o5)
      | (go_at_call 58; go_split_ands; (with_reducible refine (HLA.out W3.drew.drew (Below.refl _ _).drew.drew).mono ?_); rintro e w4 ⟨v4, rfl, b4, o4⟩; obtain ⟨A4, c4, rfl⟩ := (RowA.own o4).len; have HB4 : Hid (Below W3.heap.size W3 w4) := Lib.hid ((Below.refl _ _).drew.drew.trans b4); have HD1 := Lib.hid (HS.out w4 HB4.out); have HR4 := Lib.hid ((RowA.own o4).mono (T := fun q => W3.heap.size ≤ q) (fun q hq _ => hq)); clear b4 o4)
      | fail)
  have HC5 := Lib.hid (HC3.out.below HB5.out HC3.out.lt)
  obtain ⟨hz0, hz1, hz2, hz3, hzl⟩ := HC5.out.four
  have hzf := HC5.out.frozen
  clear hy0 hy1 hy2 hy3 hyl
  go_wp2_with fail
  obtain ⟨W6, HW6⟩ : ∃ W6, W6 = (w5.setCell ⟨w.heap.size, 2, none⟩ (.slice A2 n1 c2)).setCell ⟨w.heap.size, 3, none⟩ (.slice A3 m1 c3) := ⟨_, rfl⟩
  rw [← HW6]
  have hs6 : W6.heap.size = w5.heap.size := by rw [HW6]; simp
  have hs5 := HB5.out.size
  have HK6 := Lib.hid (show ∀ q, q ≠ w.heap.size → W6.heap[q]? = w5.heap[q]? from fun q hq => by rw [HW6]; repeat rw [blk_setCell_other _ _ _ _ (by dsimp only; omega)])
  have HB6 := Lib.hid (show Below w.heap.size w W6 from by rw [HW6]; repeat' (first | exact HB3.out.trans (HB5.out.mono HB3.out.size) | apply Below.setCell | (simp; done)))
  have hPE := (HP1.out.blocks (w' := W6) (fun q hq hl => (HK6.out q (by omega)).trans (HB5.out.block q hl))).rd
  have hPI := (HP2.out.blocks (w' := W6) (fun q hq hl => (HK6.out q (by omega)).trans (HB5.out.block q hl))).rd
  have hPO := (HP3.out.blocks (w' := W6) (fun q hq hl => (HK6.out q (by omega)).trans (HB5.out.block q hl))).rd
  have hA := (HRA.out.blocks (w' := W6) (fun q hq hl _ _ => HK6.out q (by omega))).readB
  have hBB := (HRB.out.blocks (w' := W6) (fun q hq hl _ _ => HK6.out q (by omega))).readB
  have hld : (xi.drop n1).length = xi.length - n1 ∧ (xo.drop m1).length = xo.length - m1 := ⟨List.length_drop .., List.length_drop ..⟩
  rw [hld.1] at hA
  rw [hld.2] at hBB
  have HG6 := Lib.hid (HGG.out W6 W6.heap.size (Nat.le_refl _) (.slice A1 es.length c1) (.slice A2 n1 c2) (.slice A3 m1 c3) (.slice A4 (xi.length - n1) c4) (.slice A5 (xo.length - m1) c5) hPE ⟨rdS_front hPI.1 hnl, by rw [List.length_take]; omega⟩ ⟨rdS_front hPO.1 hml, by rw [List.length_take]; omega⟩ hA hBB)
  have HR6 := Lib.hid ((HK6.out (w.heap.size + 1) (by omega)).trans ((HB5.out.block (w.heap.size + 1) (by omega)).trans HR3.out))
  have hs6' : W.heap.size ≤ W6.heap.size := by omega
  clear hPE hPI hPO hA hBB hld HW6 hs6
  refine HG6.out.mono ?_
  rintro e w7 ⟨u1, u2, u3, rfl, b7, p1, p2, p3⟩
  have hrb := (b7.block (w.heap.size + 1) (by omega)).trans HR6.out
  have hx0 := box_cell hrb 0
  have hx1 := box_cell hrb 1
  have hx2 := box_cell hrb 2
  have hx3 := box_cell hrb 3
  have hxf := box_free hrb
  simp at hx0 hx1 hx2 hx3
  have hl7 : w.heap.size + 1 < w7.heap.size := by have := b7.size; omega
  have HB7 := Lib.hid (HB6.out.trans (b7.mono HB6.out.size))
  obtain ⟨B1, d1, rfl⟩ := p1.len
  obtain ⟨B2, d2, rfl⟩ := p2.len
  obtain ⟨B3, d3, rfl⟩ := p3.len
  have HO1 := Lib.hid p1
  have HO2 := Lib.hid p2
  have HO3 := Lib.hid p3
  have h67 : w.heap.size + 2 ≤ W6.heap.size := by omega
  clear hrb b7 p1 p2 p3
  go_wp2
  refine bodyPost_ret (v := .agg #[.int .i64 cn, .slice B1 (mapEs nu es).length d1, .slice B2 (pickL (xi.take n1) nu).length d2, .slice B3 (pickL (xo.take m1) nu).length d3]) (by simp [results, Try.results43, go_sem, hx0, hx1, hx2, hx3]) rfl ?_
  refine ⟨_, _, _, rfl, by repeat' (first | exact HB7.out | apply Below.setCell | (simp; done)), ?_, ?_, ?_⟩
  · exact (HO1.out.blocks (fun q hq _ => by repeat rw [blk_setCell_other _ _ _ _ (by dsimp only; omega)])).mono fun q hq _ => by omega
  · exact (HO2.out.blocks (fun q hq _ => by repeat rw [blk_setCell_other _ _ _ _ (by dsimp only; omega)])).mono fun q hq _ => by omega
  · exact (HO3.out.blocks (fun q hq _ => by repeat rw [blk_setCell_other _ _ _ _ (by dsimp only; omega)])).mono fun q hq _ => by omega
end Go.Proofs.Ytdcgoeapgboclaa

/-! TraceGraph: the model's function. -/
namespace Go.Proofs.Ytdcgoeapgboclaa
open Go Go.RowKit Go.Deep

/-- What TraceGraph returns. -/
def tgB (n : Int) (es : List Ed) (xi xo : List Int) (k : Int) : Bool := validB n es xi xo && (decide (0 ≤ k) && decide (k ≤ min (xi.length : Int) xo.length))
def tgNu (n : Int) (es : List Ed) (xi xo : List Int) (k : Int) : List Int := pNum n.toNat (xi.drop (xi.length - k.toNat)) (xo.drop (xo.length - k.toNat)) es (xi.take (xi.length - k.toNat)) (xo.take (xo.length - k.toNat))
def tgN (n : Int) (es : List Ed) (xi xo : List Int) (k : Int) : Int := if tgB n es xi xo k then (pCnt n.toNat (xi.drop (xi.length - k.toNat)) (xo.drop (xo.length - k.toNat)) es (xi.take (xi.length - k.toNat)) (xo.take (xo.length - k.toNat)) : Nat) else 0
def tgE (n : Int) (es : List Ed) (xi xo : List Int) (k : Int) : List Ed := if tgB n es xi xo k then mapEs (tgNu n es xi xo k) es else []
def tgI (n : Int) (es : List Ed) (xi xo : List Int) (k : Int) : List Int := if tgB n es xi xo k then pickL (xi.take (xi.length - k.toNat)) (tgNu n es xi xo k) else []
def tgO (n : Int) (es : List Ed) (xi xo : List Int) (k : Int) : List Int := if tgB n es xi xo k then pickL (xo.take (xo.length - k.toNat)) (tgNu n es xi xo k) else []
theorem tgB_iff {n : Int} {es : List Ed} {xi xo : List Int} {k : Int} : tgB n es xi xo k = true ↔ validB n es xi xo = true ∧ (0 ≤ k ∧ k ≤ xi.length ∧ k ≤ xo.length) := by
  unfold tgB
  simp only [Bool.and_eq_true, decide_eq_true_eq]
  constructor
  · rintro ⟨a, b, c⟩; exact ⟨a, b, by omega, by omega⟩
  · rintro ⟨a, b, c, d⟩; exact ⟨a, b, by omega⟩
set_option maxRecDepth 100000 in
set_option maxHeartbeats 6400000 in
theorem spec_TraceGraph (w : World) (B : Nat) (uE uI uO : Value) (n : Int) (es : List Ed) (xi xo : List Int) (k : Int) (hE : LfE w B uE es) (hI : LfR w B uI xi) (hO : LfR w B uO xo) (_ : Bi k) (hB : B ≤ w.heap.size) (_ : szE es ≤ 1048576) (_ : szR xi ≤ 1048576) (_ : szR xo ≤ 1048576) :
    Calls Try.prog 17 #[.agg #[.int .i64 n, uE, uI, uO], .int .i64 k] w (SRetGraphB w (tgN n es xi xo k) (tgE n es xi xo k) (tgI n es xi xo k) (tgO n es xi xo k) (tgB n es xi xo k)) := by
  have HTR := Lib.hid (fun (hval : validB n es xi xo = true) (h1 : 0 ≤ k ∧ k ≤ xi.length ∧ k ≤ xo.length) (w' : World) (hb : Below w.heap.size w w') =>
    (show Calls Try.prog 43 #[.agg #[.int .i64 n, uE, uI, uO], .int .i64 k] w' _ from by
      have hsm := valid_small hval
      have hvi := valid_iff.1 hval
      have hnn : ((n.toNat : Nat) : Int) = n := by omega
      have hkk : ((k.toNat : Nat) : Int) = k := by omega
      have := hgTrace_any w' B uE uI uO n.toNat k.toNat es xi xo (hE.below hb hB) (hI.below hb hB) (hO.below hb hB) (Nat.le_trans hB hb.size) (by omega) (by omega) (by omega) (by omega) hsm.2.2.2.2 (by omega) (fun y hy => by have := hvi.2.2.1 y hy; omega) (by omega) (by omega)
      rw [hnn, hkk] at this
      exact this))
  obtain ⟨AE, cE, rfl⟩ := hE.len
  obtain ⟨AI, cI, rfl⟩ := hI.len
  obtain ⟨AO, cO, rfl⟩ := hO.len
  have HB := Lib.hid hB
  have HG := Lib.hid (fun (w' : World) (hb : Below w.heap.size w w') => hgValid_any w' B n es xi xo AE cE AI cI AO cO (hE.1.below hb hB) (hI.1.below hb hB) (hO.1.below hb hB) (Nat.le_trans hB hb.size) hE.2.1 hI.2 hO.2 hE.2.2)
  clear hE hI hO hB
  go_enter Try.func17, Try.ntmps17
  go_wp2_with fail
  refine (HG.out _ (((Below.refl w.heap.size w).alloc (Nat.le_refl _) _).alloc (by simp) _)).mono ?_
  rintro e w2 ⟨rfl, b2⟩
  have HB2 := Lib.hid ((((Below.refl w.heap.size w).alloc (Nat.le_refl _) (.cells #[.int .i64 n, .slice AE es.length cE, .slice AI xi.length cI, .slice AO xo.length cO] 29)).alloc (by simp) (.cells #[.int .i64 0, .slice none 0 0, .slice none 0 0, .slice none 0 0] 29)).trans (b2.mono (by simp; omega)))
  have HX2 := Lib.hid (show w2.heap[w.heap.size]? = some (.cells #[.int .i64 n, .slice AE es.length cE, .slice AI xi.length cI, .slice AO xo.length cO] 29 (0, 0)) from (b2.block _ (by simp; omega)).trans ((blk_alloc_lt _ _ _ (by simp)).trans (blk_alloc_new w _)))
  have HR2 := Lib.hid (show w2.heap[w.heap.size + 1]? = some (.cells #[.int .i64 0, .slice none 0 0, .slice none 0 0, .slice none 0 0] 29 (0, 0)) from (b2.block _ (by simp)).trans (by have := blk_alloc_new (w.alloc (.cells #[.int .i64 n, .slice AE es.length cE, .slice AI xi.length cI, .slice AO xo.length cO] 29)) (.cells #[.int .i64 0, .slice none 0 0, .slice none 0 0, .slice none 0 0] 29); simpa using this))
  have hs2 : w.heap.size + 2 ≤ w2.heap.size := by have := b2.size; simp at this; omega
  have hl2 : w.heap.size + 1 < w2.heap.size := by omega
  clear b2
  have hy0 := box_cell HX2.out 0
  have hy1 := box_cell HX2.out 1
  have hy2 := box_cell HX2.out 2
  have hy3 := box_cell HX2.out 3
  have hx0 := box_cell HR2.out 0
  have hx1 := box_cell HR2.out 1
  have hx2 := box_cell HR2.out 2
  have hx3 := box_cell HR2.out 3
  have hxf := box_free HR2.out
  simp at hy0 hy1 hy2 hy3 hx0 hx1 hx2 hx3
  cases hval : validB n es xi xo with
  | false =>
    have HM := Lib.hid (show tgB n es xi xo k = false from by unfold tgB; rw [hval]; rfl)
    clear hval
    go_wp2
    refine bodyPost_ret (v := .tuple #[.agg #[.int .i64 0, .slice none 0 0, .slice none 0 0, .slice none 0 0], .bool false]) (by simp [results, Try.results17, go_sem, hx0, hx1, hx2, hx3]) rfl ?_
    unfold tgN tgE tgI tgO
    rw [HM.out]
    exact ⟨_, _, _, rfl, by repeat' (first | exact HB2.out | apply Below.drew | apply Below.setCell | apply Below.alloc | (simp; done) | omega | (simp; omega)), ownE_nil _ _ _ _, ownR_nil _ _ _ _, ownR_nil _ _ _ _⟩
  | true =>
    have hn := (valid_iff.1 hval).1
    have HLS := Lib.hid (fun w0 => l1Ls_any (xi.length : Int) (xo.length : Int) w0)
    by_cases h1 : 0 ≤ k ∧ k ≤ xi.length ∧ k ≤ xo.length
    · have HL1 := Lib.hid (fun w0 => l1In_t k 0 (min (xi.length : Int) xo.length) w0 h1.1 (by omega))
      have HM := Lib.hid (tgB_iff.2 ⟨hval, h1⟩)
      have HTT := Lib.hid (HTR.out hval h1 w2 HB2.out)
      clear hval h1 hn HTR
      generalize min (xi.length : Int) xo.length = mn at HL1 HLS
      go_wp2_with (first | (go_at_call 42; (with_reducible refine (HLS.out _).mono ?_); rintro e w' ⟨rfl, rfl⟩) | (go_at_call 41; (with_reducible refine (HL1.out _).mono ?_); rintro e w' ⟨rfl, rfl⟩) | fail)
      refine HTT.out.mono ?_
      rintro e w4 ⟨v1, v2, v3, rfl, b4, o1, o2, o3⟩
      have hrb := (b4.block (w.heap.size + 1) (by omega)).trans HR2.out
      clear hx0 hx1 hx2 hx3 hxf
      have hx0 := box_cell hrb 0
      have hx1 := box_cell hrb 1
      have hx2 := box_cell hrb 2
      have hx3 := box_cell hrb 3
      have hxf := box_free hrb
      simp at hx0 hx1 hx2 hx3
      have hl4 : w.heap.size + 1 < w4.heap.size := by have := b4.size; omega
      have HB4 := Lib.hid (HB2.out.trans (b4.mono HB2.out.size))
      obtain ⟨A1, c1, rfl⟩ := o1.len
      obtain ⟨A2, c2, rfl⟩ := o2.len
      obtain ⟨A3, c3, rfl⟩ := o3.len
      have HO1 := Lib.hid o1
      have HO2 := Lib.hid o2
      have HO3 := Lib.hid o3
      clear hrb b4 o1 o2 o3
      obtain ⟨nu, HNU⟩ : ∃ nu, Hid (pNum n.toNat (xi.drop (xi.length - k.toNat)) (xo.drop (xo.length - k.toNat)) es (xi.take (xi.length - k.toNat)) (xo.take (xo.length - k.toNat)) = nu) := ⟨_, Lib.hid rfl⟩
      obtain ⟨m, HMM⟩ : ∃ m, Hid (pCnt n.toNat (xi.drop (xi.length - k.toNat)) (xo.drop (xo.length - k.toNat)) es (xi.take (xi.length - k.toNat)) (xo.take (xo.length - k.toNat)) = m) := ⟨_, Lib.hid rfl⟩
      obtain ⟨zi, HZI⟩ : ∃ z, Hid (xi.take (xi.length - k.toNat) = z) := ⟨_, Lib.hid rfl⟩
      obtain ⟨zo, HZO⟩ : ∃ z, Hid (xo.take (xo.length - k.toNat) = z) := ⟨_, Lib.hid rfl⟩
      rw [HNU.out] at HO1 HO2 HO3
      rw [HZI.out] at HO2
      rw [HZO.out] at HO3
      rw [HNU.out, HMM.out, HZI.out, HZO.out]
      go_wp2
      refine bodyPost_ret (v := .tuple #[.agg #[.int .i64 m, .slice A1 (mapEs nu es).length c1, .slice A2 (pickL zi nu).length c2, .slice A3 (pickL zo nu).length c3], .bool true]) (by simp [results, Try.results17, go_sem, hx0, hx1, hx2, hx3]) rfl ?_
      unfold tgN tgE tgI tgO tgNu
      rw [HM.out, HNU.out, HMM.out, HZI.out, HZO.out]
      simp only [if_true]
      refine ⟨_, _, _, rfl, by repeat' (first | exact HB4.out | apply Below.setCell | (simp; done)), ?_, ?_, ?_⟩
      · exact (HO1.out.blocks (fun q hq _ => by repeat rw [blk_setCell_other _ _ _ _ (by dsimp only; omega)])).mono fun q hq _ => by omega
      · exact (HO2.out.blocks (fun q hq _ => by repeat rw [blk_setCell_other _ _ _ _ (by dsimp only; omega)])).mono fun q hq _ => by omega
      · exact (HO3.out.blocks (fun q hq _ => by repeat rw [blk_setCell_other _ _ _ _ (by dsimp only; omega)])).mono fun q hq _ => by omega
    · have HL1 := Lib.hid (fun w0 => l1In_f k 0 (min (xi.length : Int) xo.length) w0 (by omega))
      have HM := Lib.hid (show tgB n es xi xo k = false from by cases h : tgB n es xi xo k with | false => rfl | true => exact absurd (tgB_iff.1 h).2 h1)
      clear hval h1 hn HTR
      generalize min (xi.length : Int) xo.length = mn at HL1 HLS
      go_wp2_with (first | (go_at_call 42; (with_reducible refine (HLS.out _).mono ?_); rintro e w' ⟨rfl, rfl⟩) | (go_at_call 41; (with_reducible refine (HL1.out _).mono ?_); rintro e w' ⟨rfl, rfl⟩) | fail)
      refine bodyPost_ret (v := .tuple #[.agg #[.int .i64 0, .slice none 0 0, .slice none 0 0, .slice none 0 0], .bool false]) (by simp [results, Try.results17, go_sem, hx0, hx1, hx2, hx3]) rfl ?_
      unfold tgN tgE tgI tgO
      rw [HM.out]
      exact ⟨_, _, _, rfl, by repeat' (first | exact HB2.out | apply Below.drew | apply Below.setCell | apply Below.alloc | (simp; done) | omega | (simp; omega)), ownE_nil _ _ _ _, ownR_nil _ _ _ _, ownR_nil _ _ _ _⟩
end Go.Proofs.Ytdcgoeapgboclaa

/-! TraceGraph: the program. -/
namespace Go.Proofs.Ytdcgoeapgboclaa
open Go Go.RowKit Go.Deep

set_option maxRecDepth 100000 in
set_option maxHeartbeats 6400000 in
theorem impl_TraceGraph (w : World) (B : Nat) (uE uI uO : Value) (n : Int) (es : List Ed) (xi xo : List Int) (k : Int) (hE : LfE w B uE es) (hI : LfR w B uI xi) (hO : LfR w B uO xo) (_ : Bi k) (hB : B ≤ w.heap.size) (_ : szE es ≤ 1048576) (_ : szR xi ≤ 1048576) (_ : szR xo ≤ 1048576) :
    Calls Try.prog 18 #[.agg #[.int .i64 n, uE, uI, uO], .int .i64 k] w (IRetGraphB w (tgN n es xi xo k) (tgE n es xi xo k) (tgI n es xi xo k) (tgO n es xi xo k) (tgB n es xi xo k)) := by
  have HOP := Lib.hid (fun (w' : World) (hb : Below w.heap.size w w') => openOf_any w' B n es xi xo uE uI uO (hE.below hb hB) (hI.below hb hB) (hO.below hb hB) (Nat.le_trans hB hb.size))
  have HI := Lib.hid hI
  have HO := Lib.hid hO
  have HB := Lib.hid hB
  obtain ⟨AE, cE, rfl⟩ := hE.len
  obtain ⟨AI, cI, rfl⟩ := hI.len
  obtain ⟨AO, cO, rfl⟩ := hO.len
  clear hE hI hO hB
  go_enter Try.func18, Try.ntmps18
  go_wp2_with fail
  refine (HOP.out _ (((Below.refl w.heap.size w).alloc (Nat.le_refl _) _).alloc (by simp) _)).mono ?_
  rintro e w2 ⟨b2, h2⟩
  have HB2 := Lib.hid ((((Below.refl w.heap.size w).alloc (Nat.le_refl _) (.cells #[.int .i64 n, .slice AE es.length cE, .slice AI xi.length cI, .slice AO xo.length cO] 29)).alloc (by simp) (.cells #[.int .i64 0, .slice none 0 0, .slice none 0 0, .slice none 0 0] 29)).trans (b2.mono (by simp; omega)))
  have HR2 := Lib.hid (show w2.heap[w.heap.size + 1]? = some (.cells #[.int .i64 0, .slice none 0 0, .slice none 0 0, .slice none 0 0] 29 (0, 0)) from (b2.block _ (by simp)).trans (by have := blk_alloc_new (w.alloc (.cells #[.int .i64 n, .slice AE es.length cE, .slice AI xi.length cI, .slice AO xo.length cO] 29)) (.cells #[.int .i64 0, .slice none 0 0, .slice none 0 0, .slice none 0 0] 29); simpa using this))
  have hs2 : w.heap.size + 2 ≤ w2.heap.size := by have := b2.size; simp at this; omega
  have hl2 : w.heap.size + 1 < w2.heap.size := by omega
  have hl3 : ¬ w.heap.size + 1 = w2.heap.size := by omega
  clear b2
  have hx0 := box_cell HR2.out 0
  have hx1 := box_cell HR2.out 1
  have hx2 := box_cell HR2.out 2
  have hx3 := box_cell HR2.out 3
  have hxf := box_free HR2.out
  simp at hx0 hx1 hx2 hx3
  rcases h2 with ⟨hv, A1, n1, c1, A2, n2, c2, A3, n3, c3, m, rfl⟩ | ⟨hv, b, c, rfl, hbb, hro⟩
  · have HM := Lib.hid (show tgB n es xi xo k = false from by unfold tgB; rw [hv]; rfl)
    clear hv
    unfold ogV
    go_wp2
    refine bodyPost_ret (v := .tuple #[.agg #[.int .i64 0, .slice none 0 0, .slice none 0 0, .slice none 0 0], .bool false]) (by simp [results, Try.results18, go_sem, hx0, hx1, hx2, hx3, hl2]) rfl ?_
    unfold tgN tgE tgI tgO
    rw [HM.out]
    exact ⟨_, _, _, fun _ => False, fun _ => False, fun _ => False, rfl, by repeat' (first | exact HB2.out | apply Below.drew | apply Below.setCell | apply Below.alloc | (simp; done) | omega | (simp; omega)), fun _ h => h.elim, fun _ h => h.elim, fun _ h => h.elim, fun _ h => h.elim, fun _ h => h.elim, fun _ h => h.elim, ownE_nil _ _ _ _, ownR_nil _ _ _ _, ownR_nil _ _ _ _⟩
  · have HRO := Lib.hid hro
    clear hro
    have hlI : xi.length ≤ cI := by obtain ⟨A', c', e, kc, -⟩ := HI.out.1; obtain ⟨-, -, rfl⟩ := sliceEq e; exact kc
    have hlO : xo.length ≤ cO := by obtain ⟨A', c', e, kc, -⟩ := HO.out.1; obtain ⟨-, -, rfl⟩ := sliceEq e; exact kc
    unfold ogV
    by_cases h1 : 0 ≤ k ∧ k ≤ xi.length ∧ k ≤ xo.length
    · have HM := Lib.hid (tgB_iff.2 ⟨hv, h1⟩)
      obtain ⟨K, rfl⟩ : ∃ K : Nat, k = K := ⟨k.toNat, by omega⟩
      obtain ⟨h1a, h1b, h1c⟩ := h1
      have hK1 : K ≤ xi.length := by omega
      have hK2 : K ≤ xo.length := by omega
      have hmn : ¬ min (xi.length : Int) (xo.length : Int) < (K : Int) := by omega
      have hk0 : ¬ (K : Int) < 0 := by omega
      obtain ⟨n1, hn1⟩ : ∃ z, z = xi.length - K := ⟨_, rfl⟩
      obtain ⟨m1, hm1⟩ : ∃ z, z = xo.length - K := ⟨_, rfl⟩
      have hvi := valid_iff.1 hv
      have hsm := valid_small hv
      have hnn : ((n.toNat : Nat) : Int) = n := by omega
      have hinI : inRg n.toNat xi := mem_inRg fun y hy => by have := hvi.2.2.1 y (mem_occ.2 (Or.inl hy)); omega
      have hinO : inRg n.toNat xo := mem_inRg fun y hy => by have := hvi.2.2.1 y (mem_occ.2 (Or.inr (Or.inl hy))); omega
      have hra : inRg n.toNat (xi.drop n1) := mem_inRg fun y hy => inRg_mem hinI y (List.mem_of_mem_drop hy)
      have hrb : inRg n.toNat (xo.drop m1) := mem_inRg fun y hy => inRg_mem hinO y (List.mem_of_mem_drop hy)
      have hoc : ∀ y, y ∈ occL es (xi.take n1) (xo.take m1) → 0 ≤ y ∧ y < (n.toNat : Int) := fun y hy => by have := hvi.2.2.1 y (occ_part hy); omega
      have hlab : (xi.drop n1).length ≤ (xo.drop m1).length := by rw [List.length_drop, List.length_drop]; omega
      have htI : (xi.take n1).length ≤ 12 := by rw [List.length_take]; omega
      have htO : (xo.take m1).length ≤ 12 := by rw [List.length_take]; omega
      have hva := gl_valid2 (N := n.toNat) (a := xi.drop n1) (b := xo.drop m1) (es := es) (xi := xi.take n1) (xo := xo.take m1) (by omega) (by omega) htI htO hvi.2.1 hoc hlab hra hrb
      have hol : (occL es (xi.take n1) (xo.take m1)).length ≤ 100000 := by have := occ_len (es := es) (xi := xi.take n1) (xo := xo.take m1) hvi.2.1 (by omega) htI htO; omega
      have HGL := Lib.hid (fun (w' : World) (B' : Nat) (hB2 : B' ≤ w'.heap.size) (ui uo ue ua ub : Value) (h1 : RdS w' (fun q => q < B') ui (xi.take n1)) (h2 : RdS w' (fun q => q < B') uo (xo.take m1)) (h3 : RdO w' B' ue es) (h4 : RdS w' (fun q => q < B') ua (xi.drop n1)) (h5 : RdS w' (fun q => q < B') ub (xo.drop m1)) =>
        (show Calls Try.prog 44 #[.agg #[ui, uo, .int .i64 n, ue], ua, ub] w' _ from by
          have := glued_any w' B' ui uo ue ua ub n.toNat es (xi.take n1) (xo.take m1) (xi.drop n1) (xo.drop m1) h1 h2 h3 h4 h5 hB2 (by omega) (by omega) (by omega) (by omega) hsm.2.2.2.2 hol (by rw [List.length_drop]; omega) hlab (by rw [List.length_drop]; omega) hra hrb hoc
          rw [hnn] at this
          unfold ogV at this
          exact this))
      have hpl : (mapEs (pNum n.toNat (xi.drop n1) (xo.drop m1) es (xi.take n1) (xo.take m1)) es).length ≤ 1000 ∧ (pickL (xi.take n1) (pNum n.toNat (xi.drop n1) (xo.drop m1) es (xi.take n1) (xo.take m1))).length ≤ 1000 ∧ (pickL (xo.take m1) (pNum n.toNat (xi.drop n1) (xo.drop m1) es (xi.take n1) (xo.take m1))).length ≤ 1000 := by
        rw [mapEs_len, pickL_len, pickL_len]
        omega
      obtain ⟨nu, HNU⟩ : ∃ nu, Hid (pNum n.toNat (xi.drop n1) (xo.drop m1) es (xi.take n1) (xo.take m1) = nu) := ⟨_, Lib.hid rfl⟩
      obtain ⟨m, HMM⟩ : ∃ m, Hid (pCnt n.toNat (xi.drop n1) (xo.drop m1) es (xi.take n1) (xo.take m1) = m) := ⟨_, Lib.hid rfl⟩
      rw [HNU.out] at hva hpl HGL
      rw [HMM.out] at hva HGL
      have HVA := Lib.hid hva
      have HPL := Lib.hid hpl
      have hw1 : IntKind.i64.wrap ((xi.length : Int) - (K : Int)) = (n1 : Int) := by rw [Go.IntWalk.i64_in _ ⟨by omega, by omega⟩]; omega
      have hw2 : IntKind.i64.wrap ((xo.length : Int) - (K : Int)) = (m1 : Int) := by rw [Go.IntWalk.i64_in _ ⟨by omega, by omega⟩]; omega
      have hnl : n1 ≤ xi.length := by omega
      have hml : m1 ≤ xo.length := by omega
      have hnI : (n1 : Int) ≤ (xi.length : Int) := by omega
      have hmI : (m1 : Int) ≤ (xo.length : Int) := by omega
      have hnc : (xi.length : Int) ≤ (cI : Int) := by omega
      have hmc : (xo.length : Int) ≤ (cO : Int) := by omega
      have hn0 : (0 : Int) ≤ (n1 : Int) := by omega
      have hm0 : (0 : Int) ≤ (m1 : Int) := by omega
      have hnc2 : (n1 : Int) ≤ (cI : Int) := by omega
      have hmc2 : (m1 : Int) ≤ (cO : Int) := by omega
      have HNE := Lib.hid hn1
      have HME := Lib.hid hm1
      obtain ⟨AId, hAId⟩ : ∃ A', (if cI = n1 then AI else Option.map (fun x => x.add n1) AI) = A' := ⟨_, rfl⟩
      obtain ⟨AOd, hAOd⟩ : ∃ A', (if cO = m1 then AO else Option.map (fun x => x.add m1) AO) = A' := ⟨_, rfl⟩
      have HI2 := Lib.hid (rdS_back (m := n1) HI.out.1 hnl)
      have HO2 := Lib.hid (rdS_back (m := m1) HO.out.1 hml)
      rw [hAId] at HI2
      rw [hAOd] at HO2
      clear hva hpl hvi hsm hv hnn hinI hinO hra hrb hoc hlab htI htO hol hn1 hm1 h1a h1b h1c
      go_wp2
      obtain ⟨W3, HW3⟩ : ∃ W3, W3 = w2.alloc (.cells #[.slice AI xi.length cI, .slice AO xo.length cO, .int .i64 n, .slice (some ⟨b, 0, none⟩) es.length c] 53) := ⟨_, rfl⟩
      rw [← HW3]
      have HB3 := Lib.hid (show Below w2.heap.size w2 W3 from by rw [HW3]; exact (Below.refl _ _).alloc (Nat.le_refl _) _)
      have hs3 : w2.heap.size + 1 ≤ W3.heap.size := by rw [HW3]; simp
      have HOGX := Lib.hid (show CellsAt W3 w2.heap.size 53 [.slice AI xi.length cI, .slice AO xo.length cO, .int .i64 n, .slice (some ⟨b, 0, none⟩) es.length c] from by rw [HW3]; exact cellsAt_new w2 #[.slice AI xi.length cI, .slice AO xo.length cO, .int .i64 n, .slice (some ⟨b, 0, none⟩) es.length c] 53)
      clear HW3 hx0 hx1 hx2 hx3 hxf
      have HB3w := Lib.hid (HB2.out.trans (HB3.out.mono HB2.out.size))
      have HR3 := Lib.hid ((HB3.out.block (w.heap.size + 1) hl2).trans HR2.out)
      obtain ⟨hq0, hq1, hq2, hq3, hql⟩ := HOGX.out.four
      go_region
      go_wp2
      go_region
      go_wp2
      refine wp_region_last (fun w' : World => w'.cell? ⟨w2.heap.size, 0, none⟩ = some (.slice AI xi.length cI) ∧ w'.cell? ⟨w2.heap.size, 1, none⟩ = some (.slice AO xo.length cO)) 12 (by kernel_rfl) (⟨hq0, hq1⟩) (fun hHeld => ?_)
      refine wpAnyL_take (i := 0) (v := ?_) rfl (by kernel_rfl) (by kernel_rfl) (fun _ _ _ h => h) (by assumption) (by rfl) ?_ ?_
      rotate_left
      · (intro w hSw; (try dsimp only at hSw); go_simp; (try with_reducible rfl))
      (try simp only [Act.put, List.setIfInBounds_toArray])
      refine wpAnyL_take (i := 1) (v := ?_) rfl (by kernel_rfl) (by kernel_rfl) (fun _ _ _ h => h) (by assumption) (by rfl) ?_ ?_
      rotate_left
      · (intro w hSw; (try dsimp only at hSw); go_simp; (try with_reducible rfl))
      (try simp only [Act.put])
      refine wpAnyL_take (i := 2) (v := ?_) rfl (by kernel_rfl) (by kernel_rfl) (fun _ _ _ h => h) (by assumption) (by rfl) ?_ ?_
      rotate_left
      · (intro w hSw; (try dsimp only at hSw); go_simp; (try with_reducible rfl))
      (try simp only [Act.put])
      refine wpAnyL_take (i := 3) (v := ?_) rfl (by kernel_rfl) (by kernel_rfl) (fun _ _ _ h => h) (by assumption) (by rfl) ?_ ?_
      rotate_left
      · (intro w hSw; (try dsimp only at hSw); go_simp; (try with_reducible rfl))
      (try simp only [Act.put])
      refine wpAnyL_take (i := 5) (v := ?_) rfl (by kernel_rfl) (by kernel_rfl) (fun _ _ _ h => h) (by assumption) (by rfl) ?_ ?_
      rotate_left
      · (intro w hSw; (try dsimp only at hSw); go_simp; (try with_reducible rfl))
      (try simp only [Act.put])
      refine wpAnyL_take (i := 6) (v := ?_) rfl (by kernel_rfl) (by kernel_rfl) (fun _ _ _ h => h) (by assumption) (by rfl) ?_ ?_
      rotate_left
      · (intro w hSw; (try dsimp only at hSw); go_simp; (try with_reducible rfl))
      (try simp only [Act.put])
      refine wpAnyL_take (i := 7) (v := ?_) rfl (by kernel_rfl) (by kernel_rfl) (fun _ _ _ h => h) (by assumption) (by rfl) ?_ ?_
      rotate_left
      · (intro w hSw; (try dsimp only at hSw); go_simp; (try with_reducible rfl))
      (try simp only [Act.put])
      refine wpAnyL_take (i := 8) (v := ?_) rfl (by kernel_rfl) (by kernel_rfl) (fun _ _ _ h => h) (by assumption) (by rfl) ?_ ?_
      rotate_left
      · (intro w hSw; (try dsimp only at hSw); go_simp; (try with_reducible rfl))
      (try simp only [Act.put])
      refine wpAnyL_take (i := 4) (v := ?_) rfl (by kernel_rfl) (by kernel_rfl) (fun _ _ _ h => h) (by assumption) (by rfl) ?_ ?_
      rotate_left
      · (intro w hSw; (try dsimp only at hSw); go_simp; (try with_reducible rfl))
      (try simp only [Act.put])
      refine wpAnyL_take (i := 9) (v := ?_) rfl (by kernel_rfl) (by kernel_rfl) (fun _ _ _ h => h) (by assumption) (by rfl) ?_ ?_
      rotate_left
      · (intro w hSw; (try dsimp only at hSw); go_simp; (try with_reducible rfl))
      (try simp only [Act.put])
      refine wpAnyL_take (i := 10) (v := ?_) rfl (by kernel_rfl) (by kernel_rfl) (fun _ _ _ h => h) (by assumption) (by rfl) ?_ ?_
      rotate_left
      · (intro w hSw; (try dsimp only at hSw); go_simp; (try with_reducible rfl))
      (try simp only [Act.put])
      refine wpAnyL_take (i := 11) (v := ?_) rfl (by kernel_rfl) (by kernel_rfl) (fun _ _ _ h => h) (by assumption) (by rfl) ?_ ?_
      rotate_left
      · (intro w hSw; (try dsimp only at hSw); go_simp; (try with_reducible rfl))
      (try simp only [Act.put])
      have hqf := HOGX.out.frozen
      refine wpAnyL_last (by kernel_rfl) (by kernel_rfl) rfl (fun K' hK => ?_)
      go_simp
      refine hK.out _ _ ?_
      clear hK K'
      obtain ⟨W6, HW6⟩ : ∃ W6, W6 = ((W3.setCell ⟨w2.heap.size, 0, none⟩ (.slice AI n1 cI)).setCell ⟨w2.heap.size, 1, none⟩ (.slice AO m1 cO)).drew.drew.drew := ⟨_, rfl⟩
      rw [← HW6]
      have hs6 : W6.heap.size = W3.heap.size := by rw [HW6]; simp
      have hl6 : W3.heap.size ≤ W6.heap.size := Nat.le_of_eq hs6.symm
      have HOG6 := Lib.hid (show CellsAt W6 w2.heap.size 53 [.slice AI n1 cI, .slice AO m1 cO, .int .i64 n, .slice (some ⟨b, 0, none⟩) es.length c] from by rw [HW6]; exact (HOGX.out.set 0 _).set 1 _)
      have HB6 := Lib.hid (show Below w2.heap.size w2 W6 from by rw [HW6]; repeat' (first | exact HB3.out | apply Below.drew | apply Below.setCell | (simp; done)))
      have HB6w := Lib.hid (HB2.out.trans (HB6.out.mono HB2.out.size))
      have HR6 := Lib.hid ((HB6.out.block (w.heap.size + 1) hl2).trans HR2.out)
      have hB0 := HB.out
      have hh2 := HB2.out.size
      have hGI := (rdS_front (HI.out.1.below HB6w.out HB.out) hnl).mono (T := fun q => q < W6.heap.size) (fun q hq => by omega)
      have hGO := (rdS_front (HO.out.1.below HB6w.out HB.out) hml).mono (T := fun q => q < W6.heap.size) (fun q hq => by omega)
      have HGC := Lib.hid (HGL.out W6 W6.heap.size (Nat.le_refl _) (.slice AI n1 cI) (.slice AO m1 cO) (.slice (some ⟨b, 0, none⟩) es.length c) (.slice AId (xi.length - n1) (cI - n1)) (.slice AOd (xo.length - m1) (cO - m1)) hGI hGO ((HRO.out.below HB6.out (Nat.le_refl _)).mono (by omega)) ((HI2.out.below HB6w.out HB.out).mono (fun q hq => by omega)) ((HO2.out.below HB6w.out HB.out).mono (fun q hq => by omega)))
      obtain ⟨hz0, hz1, hz2, hz3, hzl⟩ := HOG6.out.four
      clear HW6 hs6 hq0 hq1 hq2 hq3 hql hGI hGO hB0 hh2
      go_wp2_with fail
      refine HGC.out.mono ?_
      rintro e w6 ⟨v1, v2, v3, rfl, b6, ow6⟩
      have hs7 := b6.size
      have HB7w := Lib.hid (HB6w.out.trans (b6.mono HB6w.out.size))
      obtain ⟨zi, HZI⟩ : ∃ z, Hid (xi.take n1 = z) := ⟨_, Lib.hid rfl⟩
      obtain ⟨zo, HZO⟩ : ∃ z, Hid (xo.take m1 = z) := ⟨_, Lib.hid rfl⟩
      rw [HZI.out, HZO.out] at HPL HVA ow6
      have HRS := Lib.hid (show Calls Try.prog 35 #[.agg #[v1, v2, .int .i64 m, v3]] w6 (IRetGraphB w6 m (mapEs nu es) (pickL zi nu) (pickL zo nu) true) from by
        have hp := HPL.out
        have hr := ow6.rd
        have h := result_any w6 w6.heap.size v1 v2 v3 m (mapEs nu es) (pickL zi nu) (pickL zo nu) hr.1 hr.2.1 hr.2.2 (Nat.le_refl _) (by omega) (by omega) (by omega)
        unfold ogV at h
        refine h.mono ?_
        rintro e w'' (h | h)
        · rw [HVA.out] at h
          exact absurd h.1 (by decide)
        · exact h.2)
      have HR7 := Lib.hid ((b6.block (w.heap.size + 1) (by omega)).trans HR6.out)
      clear b6 ow6 hz0 hz1 hz2 hz3 hzl
      go_wp2_with fail
      refine HRS.out.mono ?_
      rintro e w7 ⟨u1, u2, u3, S1, S2, S3, rfl, b7, s1, s2, s3, d12, d13, d23, o1, o2, o3⟩
      obtain ⟨A4, c4, rfl⟩ := o1.len
      obtain ⟨A5, c5, rfl⟩ := o2.len
      obtain ⟨A6, c6, rfl⟩ := o3.len
      have hrb := (b7.block (w.heap.size + 1) (by omega)).trans HR7.out
      have hx0 := box_cell hrb 0
      have hx1 := box_cell hrb 1
      have hx2 := box_cell hrb 2
      have hx3 := box_cell hrb 3
      have hxf := box_free hrb
      simp at hx0 hx1 hx2 hx3
      have hl7 : w.heap.size + 1 < w7.heap.size := by have := b7.size; omega
      have HB7 := Lib.hid (HB7w.out.trans (b7.mono HB7w.out.size))
      have HOW := Lib.hid (show _ ∧ _ ∧ _ ∧ _ ∧ _ ∧ _ ∧ _ ∧ _ ∧ _ from ⟨s1, s2, s3, d12, d13, d23, o1, o2, o3⟩)
      clear hrb b7 s1 s2 s3 d12 d13 d23 o1 o2 o3
      go_wp2
      refine bodyPost_ret (v := .tuple #[.agg #[.int .i64 m, .slice A4 (mapEs nu es).length c4, .slice A5 (pickL zi nu).length c5, .slice A6 (pickL zo nu).length c6], .bool true]) (by simp [results, Try.results18, go_sem, hx0, hx1, hx2, hx3]) rfl ?_
      unfold tgN tgE tgI tgO tgNu
      rw [HM.out, Int.toNat_natCast, ← HNE.out, ← HME.out, HNU.out, HMM.out, HZI.out, HZO.out]
      simp only [if_true]
      obtain ⟨s1, s2, s3, d12, d13, d23, o1, o2, o3⟩ := HOW.out
      refine ⟨_, _, _, S1, S2, S3, rfl, by repeat' (first | exact HB7.out | apply Below.setCell | (simp; done)), fun q hq => by have := s1 q hq; omega, fun q hq => by have := s2 q hq; omega, fun q hq => by have := s3 q hq; omega, d12, d13, d23, o1.blocks ?_, o2.blocks ?_, o3.blocks ?_⟩
      · exact fun q hq _ => by have := s1 q hq; repeat rw [blk_setCell_other _ _ _ _ (by dsimp only; omega)]
      · exact fun q hq _ => by have := s2 q hq; repeat rw [blk_setCell_other _ _ _ _ (by dsimp only; omega)]
      · exact fun q hq _ => by have := s3 q hq; repeat rw [blk_setCell_other _ _ _ _ (by dsimp only; omega)]
    · have HM := Lib.hid (show tgB n es xi xo k = false from by cases h : tgB n es xi xo k with | false => rfl | true => exact absurd (tgB_iff.1 h).2 h1)
      clear hv
      by_cases hk0 : k < 0
      · go_wp2
        refine bodyPost_ret (v := .tuple #[.agg #[.int .i64 0, .slice none 0 0, .slice none 0 0, .slice none 0 0], .bool false]) (by simp [results, Try.results18, go_sem, hx0, hx1, hx2, hx3, hl2]) rfl ?_
        unfold tgN tgE tgI tgO
        rw [HM.out]
        exact ⟨_, _, _, fun _ => False, fun _ => False, fun _ => False, rfl, by repeat' (first | exact HB2.out | apply Below.drew | apply Below.setCell | apply Below.alloc | (simp; done) | omega | (simp; omega)), fun _ h => h.elim, fun _ h => h.elim, fun _ h => h.elim, fun _ h => h.elim, fun _ h => h.elim, fun _ h => h.elim, ownE_nil _ _ _ _, ownR_nil _ _ _ _, ownR_nil _ _ _ _⟩
      · have hmn : min (xi.length : Int) (xo.length : Int) < k := by omega
        clear h1
        go_wp2
        refine bodyPost_ret (v := .tuple #[.agg #[.int .i64 0, .slice none 0 0, .slice none 0 0, .slice none 0 0], .bool false]) (by simp [results, Try.results18, go_sem, hx0, hx1, hx2, hx3, hl2]) rfl ?_
        unfold tgN tgE tgI tgO
        rw [HM.out]
        exact ⟨_, _, _, fun _ => False, fun _ => False, fun _ => False, rfl, by repeat' (first | exact HB2.out | apply Below.drew | apply Below.setCell | apply Below.alloc | (simp; done) | omega | (simp; omega)), fun _ h => h.elim, fun _ h => h.elim, fun _ h => h.elim, fun _ h => h.elim, fun _ h => h.elim, fun _ h => h.elim, ownE_nil _ _ _ _, ownR_nil _ _ _ _, ownR_nil _ _ _ _⟩
end Go.Proofs.Ytdcgoeapgboclaa
