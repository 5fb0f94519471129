/- MirrorGraph: the model's function. -/
import Derived.Test.YtiealgnmhjebeaaMirS
import Derived.Test.YtiealgnmhjebeaaGrV
namespace Go.Proofs.Ytiealgnmhjebeaa
set_option maxRecDepth 100000
open Go Go.RowKit Go.Deep

set_option maxRecDepth 100000 in
set_option maxHeartbeats 3200000 in
theorem spec_MirrorGraph (w : World) (B : Nat) (uE uI uO : Value) (n : Int) (es : List Ed) (xi xo : List Int) (hE : LfE w B uE es) (hI : LfR w B uI xi) (hO : LfR w B uO xo) (hB : B ≤ w.heap.size) (_ : szE es ≤ 1048576) (_ : szR xi ≤ 1048576) (_ : szR xo ≤ 1048576) :
    Calls Try.prog 22 #[.agg #[.int .i64 n, uE, uI, uO]] w (SRetGraphB w (mgN n es xi xo) (mgE n es xi xo) (mgI n es xi xo) (mgO n es xi xo) (mgB n es xi xo)) := by
  have HM := Lib.hid (fun (hv : validB n es xi xo = true) (w' : World) (hb : Below w.heap.size w w') => hgMirror_any w' B uE uI uO n es xi xo (hE.below hb hB) (hI.below hb hB) (hO.below hb hB) (Nat.le_trans hB hb.size) hv)
  obtain ⟨AE, cE, rfl⟩ := hE.len
  obtain ⟨AI, cI, rfl⟩ := hI.len
  obtain ⟨AO, cO, rfl⟩ := hO.len
  have HG := Lib.hid (fun (w' : World) (hb : Below w.heap.size w w') => hgValid_any w' B n es xi xo AE cE AI cI AO cO (hE.1.below hb hB) (hI.1.below hb hB) (hO.1.below hb hB) (Nat.le_trans hB hb.size) hE.2.1 hI.2 hO.2 hE.2.2)
  clear hE hI hO hB
  go_enter Try.func22, Try.ntmps22
  go_wp2_with fail
  refine (HG.out _ (((Below.refl w.heap.size w).alloc (Nat.le_refl _) _).alloc (by simp) _)).mono ?_
  rintro e w2 ⟨rfl, b2⟩
  have HB2 := Lib.hid ((((Below.refl w.heap.size w).alloc (Nat.le_refl _) (.cells #[.int .i64 n, .slice AE es.length cE, .slice AI xi.length cI, .slice AO xo.length cO] 42)).alloc (by simp) (.cells #[.int .i64 0, .slice none 0 0, .slice none 0 0, .slice none 0 0] 42)).trans (b2.mono (by simp; omega)))
  have HX2 := Lib.hid (show w2.heap[w.heap.size]? = some (.cells #[.int .i64 n, .slice AE es.length cE, .slice AI xi.length cI, .slice AO xo.length cO] 42 (0, 0)) from (b2.block _ (by simp; omega)).trans ((blk_alloc_lt _ _ _ (by simp)).trans (blk_alloc_new w _)))
  have HR2 := Lib.hid (show w2.heap[w.heap.size + 1]? = some (.cells #[.int .i64 0, .slice none 0 0, .slice none 0 0, .slice none 0 0] 42 (0, 0)) from (b2.block _ (by simp)).trans (by have := blk_alloc_new (w.alloc (.cells #[.int .i64 n, .slice AE es.length cE, .slice AI xi.length cI, .slice AO xo.length cO] 42)) (.cells #[.int .i64 0, .slice none 0 0, .slice none 0 0, .slice none 0 0] 42); simpa using this))
  have hs2 : w.heap.size + 2 ≤ w2.heap.size := by have := b2.size; simp at this; omega
  have hl2 : w.heap.size + 1 < w2.heap.size := by omega
  clear b2
  have hy0 := box_cell HX2.out 0
  have hy1 := box_cell HX2.out 1
  have hy2 := box_cell HX2.out 2
  have hy3 := box_cell HX2.out 3
  simp at hy0 hy1 hy2 hy3
  cases hv : validB n es xi xo with
  | false =>
    have HV := Lib.hid hv
    clear hv
    have hx0 := box_cell HR2.out 0
    have hx1 := box_cell HR2.out 1
    have hx2 := box_cell HR2.out 2
    have hx3 := box_cell HR2.out 3
    have hxf := box_free HR2.out
    simp at hx0 hx1 hx2 hx3
    go_wp2
    refine bodyPost_ret (v := .tuple #[.agg #[.int .i64 0, .slice none 0 0, .slice none 0 0, .slice none 0 0], .bool false]) (by simp [results, Try.results22, go_sem, hx0, hx1, hx2, hx3]) rfl ?_
    unfold mgN mgE mgI mgO mgB
    rw [HV.out]
    exact ⟨_, _, _, rfl, by repeat' (first | exact HB2.out | apply Below.drew | apply Below.setCell | apply Below.alloc | (simp; done) | omega | (simp; omega)), ownE_nil _ _ _ _, ownR_nil _ _ _ _, ownR_nil _ _ _ _⟩
  | true =>
    have HMM := Lib.hid (HM.out hv w2 HB2.out)
    have HV := Lib.hid hv
    clear hv
    go_wp2_with fail
    refine HMM.out.mono ?_
    rintro e w3 ⟨v1, v2, v3, rfl, b3, o1, o2, o3⟩
    have hx := (b3.block (w.heap.size + 1) hl2).trans HR2.out
    have hx0 := box_cell hx 0
    have hx1 := box_cell hx 1
    have hx2 := box_cell hx 2
    have hx3 := box_cell hx 3
    have hxf := box_free hx
    simp at hx0 hx1 hx2 hx3
    have HB3 := Lib.hid (HB2.out.trans (b3.mono HB2.out.size))
    have hl3 : w.heap.size + 1 < w3.heap.size := by have := b3.size; omega
    obtain ⟨A1, c1, rfl⟩ := o1.len
    obtain ⟨A2, c2, rfl⟩ := o2.len
    obtain ⟨A3, c3, rfl⟩ := o3.len
    have HO1 := Lib.hid o1
    have HO2 := Lib.hid o2
    have HO3 := Lib.hid o3
    clear hx b3 o1 o2 o3
    go_wp2
    refine bodyPost_ret (v := .tuple #[.agg #[.int .i64 n, .slice A1 (mirEs es).length c1, .slice A2 xo.length c2, .slice A3 xi.length c3], .bool true]) (by simp [results, Try.results22, go_sem, hx0, hx1, hx2, hx3]) rfl ?_
    unfold mgN mgE mgI mgO mgB
    rw [HV.out]
    refine ⟨_, _, _, rfl, by repeat' (first | exact HB3.out | apply Below.setCell | (simp; done) | omega | (simp; omega)), ?_, ?_, ?_⟩
    · exact (HO1.out.blocks (fun q hq _ => by repeat rw [blk_setCell_other _ _ _ _ (by dsimp only; omega)])).mono fun q hq _ => by omega
    · exact (HO2.out.blocks (fun q hq _ => by repeat rw [blk_setCell_other _ _ _ _ (by dsimp only; omega)])).mono fun q hq _ => by omega
    · exact (HO3.out.blocks (fun q hq _ => by repeat rw [blk_setCell_other _ _ _ _ (by dsimp only; omega)])).mono fun q hq _ => by omega
end Go.Proofs.Ytiealgnmhjebeaa
