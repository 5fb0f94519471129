/- The space of the first parts of a relation's pairs: the program's helper. -/
import Derived.Test.YtiiloioobmkicaaDoorPartR
import Derived.Deep.RegionHeld3
namespace Go.Proofs.YtiiloioobmkicaaDoor
set_option maxRecDepth 100000
open Go Go.RowKit Go.Deep

theorem rows_len {p : Int} {n c : Nat} {R : List (List Int)} (h : Mat p n c R) {l : Nat} (hl : l ≤ c) : ∀ j, j < R.length → l ≤ (R.getD j []).length := fun j hj => by
  rw [(h.row (by rw [← h.1]; exact hj)).1]
  exact hl
set_option maxHeartbeats 1600000 in
theorem domainOf_any (w : World) (B : Nat) (v : Value) (p : Int) (l r : Nat) (R : List (List Int)) (hv : RdG w B v R) (hB : B ≤ w.heap.size) (hf : fld p = true) (hR : Mat p R.length (l + r) R) (hn : R.length ≤ 1000000) (hl : l ≤ 1000000) :
    Calls Tryd.prog 87 #[.int .i64 p, .agg #[.int .i64 l, .int .i64 r, v]] w (MadeSp w l (rref p (firsts l R) l)) := by
  obtain ⟨A1, c1, rfl⟩ := hv.len
  have HVB := Lib.hid (show Below w.heap.size w ((w.alloc (.cells #[.int .i64 l, .int .i64 r, .slice A1 R.length c1] tRl)).alloc (.cells #[.int .i64 0, .slice none 0 0] tSp)) by repeat' (first | exact Below.refl _ _ | apply Below.alloc | (simp; done) | (simp; omega)))
  have HV := Lib.hid (hv.below HVB.out hB)
  have hB0 : B ≤ ((w.alloc (.cells #[.int .i64 l, .int .i64 r, .slice A1 R.length c1] tRl)).alloc (.cells #[.int .i64 0, .slice none 0 0] tSp)).heap.size := Nat.le_trans hB HVB.out.size
  have HX0 := Lib.hid ((cellsAt_new w #[.int .i64 l, .int .i64 r, .slice A1 R.length c1] tRl).alloc (.cells #[.int .i64 0, .slice none 0 0] tSp))
  have HY0 := Lib.hid (cellsAt_new' (w.alloc (.cells #[.int .i64 l, .int .i64 r, .slice A1 R.length c1] tRl)) #[.int .i64 0, .slice none 0 0] tSp _ (w.heap.size + 1) (by simp) rfl)
  have hsz0 : ((w.alloc (.cells #[.int .i64 l, .int .i64 r, .slice A1 R.length c1] tRl)).alloc (.cells #[.int .i64 0, .slice none 0 0] tSp)).heap.size = w.heap.size + 2 := by simp
  have HF := Lib.hid hf
  have HL := Lib.hid (rows_len hR (Nat.le_add_right l r))
  have HM := Lib.hid (firsts_mat hR)
  clear hv hB hf hR
  go_enter Tryd.func87, Tryd.ntmps87
  go_upto_region 1 with fail
  generalize ((w.alloc (.cells #[.int .i64 l, .int .i64 r, .slice A1 R.length c1] tRl)).alloc (.cells #[.int .i64 0, .slice none 0 0] tSp)) = W at HVB HV hB0 HX0 HY0 hsz0 ⊢
  have hW1 : w.heap.size + 2 ≤ W.heap.size := by omega
  clear hsz0
  have hx := HX0.out.three
  have HELD : Hid (∀ w' : World, w'.heap[w.heap.size]? = W.heap[w.heap.size]? → w'.cell? ⟨w.heap.size, 0, none⟩ = some (.int .i64 l) ∧ w'.cell? ⟨w.heap.size, 1, none⟩ = some (.int .i64 r) ∧ w'.cell? ⟨w.heap.size, 2, none⟩ = some (.slice A1 R.length c1)) := Lib.hid (fun w' H => ⟨(World.cell?_of_block (w := W) H).trans hx.1, (World.cell?_of_block (w := W) H).trans hx.2.1, (World.cell?_of_block (w := W) H).trans hx.2.2.1⟩)
  clear hx
  have HQ0 : Hid (W.drew.heap[w.heap.size]? = W.heap[w.heap.size]?) := Lib.hid rfl
  have HVD := Lib.hid (show RdG W.drew B (.slice A1 R.length c1) R from HV.out)
  have hBD : B ≤ W.drew.heap.size := hB0
  go_wp2
  go_region_held3 (fun w' => w'.cell? ⟨w.heap.size, 0, none⟩ = some (.int .i64 l) ∧ w'.cell? ⟨w.heap.size, 1, none⟩ = some (.int .i64 r) ∧ w'.cell? ⟨w.heap.size, 2, none⟩ = some (.slice A1 R.length c1))
    (first | with_reducible exact HELD.out _ HQ0.out | with_reducible exact HELD.out _ HQ3.out | with_reducible exact HELD.out _ HQ4.out | exact HELD.out _ (((blk_setCell_other _ _ _ _ (by dsimp only; omega)).trans (blk_setCell_other _ _ _ _ (by dsimp only; omega))).trans HQ4.out))
    (first
      | (go_at_call 53; go_split_ands; refine (mapFirst_any W.drew B _ _ l r R HVD.out hBD hn HL.out).mono ?_; rintro e w3 ⟨v3, rfl, b3, o3⟩; have HB3 : Hid (Below W.heap.size W w3) := Lib.hid ((Below.refl _ _).drew.trans b3); have HQ3 : Hid (w3.heap[w.heap.size]? = W.heap[w.heap.size]?) := Lib.hid (HB3.out.block _ (by omega)); have HO3 := Lib.hid o3; have hs3 : W.heap.size ≤ w3.heap.size := HB3.out.size; clear b3 o3)
      | (go_at_call 106; go_split_ands; refine (spanOf_any w3 w3.heap.size _ p R.length l (firsts l R) HO3.out (Nat.le_refl _) HF.out HM.out hn hl).mono ?_; rintro e w4 ⟨v4, rfl, b4, o4⟩; obtain ⟨A4, c4, rfl⟩ := OwG.len o4; have HB4 : Hid (Below W.heap.size W w4) := Lib.hid (HB3.out.trans (b4.mono hs3)); have HQ4 : Hid (w4.heap[w.heap.size]? = W.heap[w.heap.size]?) := Lib.hid (HB4.out.block _ (by omega)); have HO4 := Lib.hid (OwG.mono (T := fun q => W.heap.size ≤ q) o4 (fun q hq _ => Nat.le_trans hs3 hq)); have HY4 := Lib.hid (HY0.out.below HB4.out (by omega)); obtain ⟨hy0, hy1, hyf0, hyf1, hys⟩ := HY4.out.two; clear b4 o4))
  have HBE := Lib.hid (HVB.out.trans (HB4.out.mono HVB.out.size))
  go_wp2
  refine bodyPost_ret (v := .agg #[.int .i64 l, .slice A4 (rref p (firsts l R) l).length c4]) (by simp [results, Tryd.results87, go_sem, hy0, hy1]) rfl ?_
  refine ⟨_, rfl, (by refine Below.trans HBE.out ?_; repeat' (first | exact Below.refl _ _ | apply Below.drew | apply Below.setCell | apply Below.alloc | (simp; done) | omega | (simp; omega))), (HO4.out.blocks (fun q hq _ => ?_)).mono (fun q hq _ => by omega)⟩
  repeat rw [blk_setCell_other _ _ _ _ (by dsimp only; omega)]
end Go.Proofs.YtiiloioobmkicaaDoor
