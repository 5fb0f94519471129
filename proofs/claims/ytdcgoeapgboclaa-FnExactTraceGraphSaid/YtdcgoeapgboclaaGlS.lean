/- Wires made one: the model's hgGlue; MergeWires: both sides. -/
import Derived.Test.YtdcgoeapgboclaaGlB
import Derived.Test.YtdcgoeapgboclaaGrV
namespace Go.Proofs.Ytdcgoeapgboclaa
set_option maxRecDepth 100000
open Go Go.RowKit Go.Deep

set_option maxRecDepth 100000 in
set_option maxHeartbeats 3200000 in
theorem hgGlue_any (w : World) (B : Nat) (uE uI uO ua ub : Value) (N : Nat) (es : List Ed) (xi xo a b : List Int) (hE : LfE w B uE es) (hI : LfR w B uI xi) (hO : LfR w B uO xo) (ha : RdS w (fun q => q < B) ua a) (hb : RdS w (fun q => q < B) ub b) (hB : B ≤ w.heap.size) (hN : N ≤ 1000)
    (hle : es.length ≤ 1000) (hli : xi.length ≤ 1000) (hlo : xo.length ≤ 1000) (hlr : ∀ k, k < es.length → (es.getD k ed0).i.length ≤ 1000 ∧ (es.getD k ed0).o.length ≤ 1000) (hcn : cntE es ≤ 1099511627776)
    (hla : a.length ≤ 1000) (hab : a.length ≤ b.length) (hlb : b.length ≤ 1000) (hra : inRg N a) (hrb : inRg N b) (hoc : ∀ x, x ∈ occL es xi xo → 0 ≤ x ∧ x < N) :
    Calls Try.prog 59 #[.agg #[.int .i64 N, uE, uI, uO], ua, ub] w fun e w' => ∃ v1 v2 v3, e = .returned (.agg #[.int .i64 (pCnt N a b es xi xo), v1, v2, v3]) ∧ Below w.heap.size w w' ∧ OwnE w' (fun q => w.heap.size ≤ q) v1 (mapEs (pNum N a b es xi xo) es) ∧ OwnR w' (fun q => w.heap.size ≤ q) v2 (pickL xi (pNum N a b es xi xo)) ∧ OwnR w' (fun q => w.heap.size ≤ q) v3 (pickL xo (pNum N a b es xi xo)) := by
  have hvi : allL xi 0 (N - 1) = true := (allL_iff xi N).2 fun x hx => hoc x (mem_occ.2 (Or.inl hx))
  have hvo : allL xo 0 (N - 1) = true := (allL_iff xo N).2 fun x hx => hoc x (mem_occ.2 (Or.inr (Or.inl hx)))
  have hve : ∀ k, k < es.length → allL (es.getD k ed0).i 0 (N - 1) = true ∧ allL (es.getD k ed0).o 0 (N - 1) = true := fun k hk => ⟨(allL_iff _ N).2 fun x hx => hoc x (mem_occ.2 (Or.inr (Or.inr ⟨_, getD_mem' hk ed0, Or.inl hx⟩))), (allL_iff _ N).2 fun x hx => hoc x (mem_occ.2 (Or.inr (Or.inr ⟨_, getD_mem' hk ed0, Or.inr hx⟩)))⟩
  obtain ⟨g1, g2, g3, g4⟩ := gl_graph hab hra hrb hoc
  have HG := Lib.hid (fun (w' : World) (h : Below w.heap.size w w') => hgGlued_any w' B uE uI uO ua ub N es xi xo a b (hE.below h hB) (hI.below h hB) (hO.below h hB) (ha.below h hB) (hb.below h hB) (Nat.le_trans hB h.size) hN hle hli hlo hlr hcn hla hab hlb hra hrb hvi hvo hve)
  rw [g1, g2, g3, g4] at HG
  obtain ⟨AE, cE, rfl⟩ := hE.len
  obtain ⟨AI, cI, rfl⟩ := hI.len
  obtain ⟨AO, cO, rfl⟩ := hO.len
  obtain ⟨A1, c1, rfl⟩ := rdS_len ha
  obtain ⟨A2, c2, rfl⟩ := rdS_len hb
  clear hE hI hO ha hb hB hlr hcn hra hrb hoc hvi hvo hve g1 g2 g3 g4
  generalize pNum N a b es xi xo = nu at HG ⊢
  generalize pCnt N a b es xi xo = m at HG ⊢
  go_enter Try.func59, Try.ntmps59
  go_wp2_with fail
  refine (HG.out _ (((Below.refl w.heap.size w).alloc (Nat.le_refl _) _).alloc (by simp) _)).mono ?_
  rintro e w2 ⟨v1, v2, v3, v4, rfl, b2, o1, o2, o3, -⟩
  have HB2 := Lib.hid ((((Below.refl w.heap.size w).alloc (Nat.le_refl _) (.cells #[.int .i64 N, .slice AE es.length cE, .slice AI xi.length cI, .slice AO xo.length cO] 29)).alloc (by simp) (.cells #[.int .i64 0, .slice none 0 0, .slice none 0 0, .slice none 0 0] 29)).trans (b2.mono (by simp; omega)))
  have HR2 := Lib.hid (show w2.heap[w.heap.size + 1]? = some (.cells #[.int .i64 0, .slice none 0 0, .slice none 0 0, .slice none 0 0] 29 (0, 0)) from (b2.block _ (by simp)).trans (by have := blk_alloc_new (w.alloc (.cells #[.int .i64 N, .slice AE es.length cE, .slice AI xi.length cI, .slice AO xo.length cO] 29)) (.cells #[.int .i64 0, .slice none 0 0, .slice none 0 0, .slice none 0 0] 29); simpa using this))
  have HO1 := Lib.hid (o1.mono (T := fun q => w.heap.size + 2 ≤ q ∧ q < w2.heap.size) (fun q hq hl => ⟨by simp at hq; omega, hl⟩))
  have HO2 := Lib.hid (o2.mono (T := fun q => w.heap.size + 2 ≤ q ∧ q < w2.heap.size) (fun q hq hl => ⟨by simp at hq; omega, hl⟩))
  have HO3 := Lib.hid (o3.mono (T := fun q => w.heap.size + 2 ≤ q ∧ q < w2.heap.size) (fun q hq hl => ⟨by simp at hq; omega, hl⟩))
  have hs2 : w.heap.size + 2 ≤ w2.heap.size := by have := b2.size; simp at this; omega
  have hl2 : w.heap.size + 1 < w2.heap.size := by omega
  obtain ⟨B1, d1, rfl⟩ := o1.len
  obtain ⟨B2, d2, rfl⟩ := o2.len
  obtain ⟨B3, d3, rfl⟩ := o3.len
  have hx0 := box_cell HR2.out 0
  have hx1 := box_cell HR2.out 1
  have hx2 := box_cell HR2.out 2
  have hx3 := box_cell HR2.out 3
  have hxf := box_free HR2.out
  simp at hx0 hx1 hx2 hx3
  clear b2 o1 o2 o3
  go_wp2
  refine bodyPost_ret (v := .agg #[.int .i64 m, .slice B1 (mapEs nu es).length d1, .slice B2 (pickL xi nu).length d2, .slice B3 (pickL xo nu).length d3]) (by simp [results, Try.results59, go_sem, hx0, hx1, hx2, hx3, hl2]) rfl ?_
  refine ⟨_, _, _, rfl, by repeat' (first | exact HB2.out | apply Below.setCell | apply Below.alloc | (simp; done) | omega | (simp; omega)), ?_, ?_, ?_⟩
  · exact (HO1.out.blocks (fun q hq _ => (blk_alloc_lt _ _ _ (by rw [nblk_setCell, nblk_setCell, nblk_setCell, nblk_setCell]; exact hq.2)).trans (by repeat rw [blk_setCell_other _ _ _ _ (by dsimp only; omega)]))).mono fun q hq _ => by omega
  · exact (HO2.out.blocks (fun q hq _ => (blk_alloc_lt _ _ _ (by rw [nblk_setCell, nblk_setCell, nblk_setCell, nblk_setCell]; exact hq.2)).trans (by repeat rw [blk_setCell_other _ _ _ _ (by dsimp only; omega)]))).mono fun q hq _ => by omega
  · exact (HO3.out.blocks (fun q hq _ => (blk_alloc_lt _ _ _ (by rw [nblk_setCell, nblk_setCell, nblk_setCell, nblk_setCell]; exact hq.2)).trans (by repeat rw [blk_setCell_other _ _ _ _ (by dsimp only; omega)]))).mono fun q hq _ => by omega
/-- What MergeWires returns. -/
def mwB (n : Int) (es : List Ed) (xi xo : List Int) (v x : Int) : Bool := validB n es xi xo && (decide (0 ≤ v) && decide (v < n)) && (decide (0 ≤ x) && decide (x < n))
def mwN (n : Int) (es : List Ed) (xi xo : List Int) (v x : Int) : Int := if mwB n es xi xo v x then (pCnt n.toNat [v] [x] es xi xo : Nat) else 0
def mwE (n : Int) (es : List Ed) (xi xo : List Int) (v x : Int) : List Ed := if mwB n es xi xo v x then mapEs (pNum n.toNat [v] [x] es xi xo) es else []
def mwI (n : Int) (es : List Ed) (xi xo : List Int) (v x : Int) : List Int := if mwB n es xi xo v x then pickL xi (pNum n.toNat [v] [x] es xi xo) else []
def mwO (n : Int) (es : List Ed) (xi xo : List Int) (v x : Int) : List Int := if mwB n es xi xo v x then pickL xo (pNum n.toNat [v] [x] es xi xo) else []
theorem mwB_iff {n : Int} {es : List Ed} {xi xo : List Int} {v x : Int} : mwB n es xi xo v x = true ↔ validB n es xi xo = true ∧ (0 ≤ v ∧ v < n) ∧ (0 ≤ x ∧ x < n) := by
  unfold mwB
  simp only [Bool.and_eq_true, decide_eq_true_eq]
  constructor
  · rintro ⟨⟨a, b⟩, c⟩; exact ⟨a, b, c⟩
  · rintro ⟨a, b, c⟩; exact ⟨⟨a, b⟩, c⟩
theorem inRg_one {N : Nat} {v : Int} (h0 : 0 ≤ v) (h1 : v < N) : inRg N [v] := mem_inRg fun x hx => by
  simp only [List.mem_singleton] at hx
  subst hx
  exact ⟨h0, h1⟩
theorem allOcc_len {es : List Ed} {xi xo : List Int} {n : Int} (h : validB n es xi xo = true) : (occL es xi xo).length ≤ 1000 := by
  obtain ⟨⟨-, -, a, b, c⟩, d, -, -⟩ := valid_iff.1 h
  exact occ_len d a b c
end Go.Proofs.Ytdcgoeapgboclaa
