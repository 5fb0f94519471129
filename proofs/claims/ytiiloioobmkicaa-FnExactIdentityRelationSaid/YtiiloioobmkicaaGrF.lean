/- The relation of a matrix: the program's helper. -/
import Derived.Test.YtiiloioobmkicaaJnR
import Derived.Test.YtiiloioobmkicaaMxB
import Derived.Deep.RegionHeld3
namespace Go.Proofs.Ytiiloioobmkicaa
set_option maxRecDepth 100000
open Go Go.RowKit Go.Deep

set_option maxHeartbeats 1600000 in
theorem graphOf_any (w : World) (B : Nat) (v : Value) (c : Int) (M : List (List Int)) (hv : RdG w B v M) (hB : B ≤ w.heap.size) (hn : M.length ≤ 1000) (hr : ∀ r, r < M.length → (M.getD r []).length ≤ 1000) (hi : ∀ r, r < (idRows M.length).length → ((idRows M.length).getD r []).length ≤ 1000) :
    Calls Try.prog 12 #[.agg #[.int .i64 c, v]] w (MadeRl w M.length c (jn (idRows M.length) M)) := by
  obtain ⟨A1, c1, rfl⟩ := hv.len
  have HVB := Lib.hid (show Below w.heap.size w ((w.alloc (.cells #[.int .i64 c, .slice A1 M.length c1] tM)).alloc (.cells #[.int .i64 0, .int .i64 0, .slice none 0 0] tRl)) by repeat' (first | exact Below.refl _ _ | apply Below.alloc | (simp; done) | (simp; omega)))
  have HV := Lib.hid (hv.below HVB.out hB)
  have hB0 : B ≤ ((w.alloc (.cells #[.int .i64 c, .slice A1 M.length c1] tM)).alloc (.cells #[.int .i64 0, .int .i64 0, .slice none 0 0] tRl)).heap.size := Nat.le_trans hB HVB.out.size
  have HX0 := Lib.hid ((cellsAt_new w #[.int .i64 c, .slice A1 M.length c1] tM).alloc (.cells #[.int .i64 0, .int .i64 0, .slice none 0 0] tRl))
  have HY0 := Lib.hid (cellsAt_new' (w.alloc (.cells #[.int .i64 c, .slice A1 M.length c1] tM)) #[.int .i64 0, .int .i64 0, .slice none 0 0] tRl _ (w.heap.size + 1) (by simp) rfl)
  have hsz0 : ((w.alloc (.cells #[.int .i64 c, .slice A1 M.length c1] tM)).alloc (.cells #[.int .i64 0, .int .i64 0, .slice none 0 0] tRl)).heap.size = w.heap.size + 2 := by simp
  have HN := Lib.hid hn
  have HR := Lib.hid hr
  have HI := Lib.hid hi
  have hn6 : M.length ≤ 1000000 := by omega
  clear hv hB hr hi
  go_enter Try.func12, Try.ntmps12
  go_upto_region 1 with fail
  generalize ((w.alloc (.cells #[.int .i64 c, .slice A1 M.length c1] tM)).alloc (.cells #[.int .i64 0, .int .i64 0, .slice none 0 0] tRl)) = W at HVB HV hB0 HX0 HY0 hsz0 ⊢
  have hW1 : w.heap.size + 2 ≤ W.heap.size := by omega
  clear hsz0
  have hx := HX0.out.two
  have HELD : Hid (∀ w' : World, w'.heap[w.heap.size]? = W.heap[w.heap.size]? → w'.cell? ⟨w.heap.size, 0, none⟩ = some (.int .i64 c) ∧ w'.cell? ⟨w.heap.size, 1, none⟩ = some (.slice A1 M.length c1)) := Lib.hid (fun w' H => ⟨(World.cell?_of_block (w := W) H).trans hx.1, (World.cell?_of_block (w := W) H).trans hx.2.1⟩)
  clear hx
  have HQ0 : Hid (W.drew.heap[w.heap.size]? = W.heap[w.heap.size]?) := Lib.hid rfl
  go_wp2
  go_region_held3 (fun w' => w'.cell? ⟨w.heap.size, 0, none⟩ = some (.int .i64 c) ∧ w'.cell? ⟨w.heap.size, 1, none⟩ = some (.slice A1 M.length c1))
    (first | with_reducible exact HELD.out _ HQ0.out | with_reducible exact HELD.out _ HQ3.out | with_reducible exact HELD.out _ HQ4.out | exact HELD.out _ ((blk_setCell_other _ _ _ _ (by dsimp only; omega)).trans HQ4.out) | exact HELD.out _ (((blk_setCell_other _ _ _ _ (by dsimp only; omega)).trans (blk_setCell_other _ _ _ _ (by dsimp only; omega))).trans HQ4.out) | exact HELD.out _ ((((blk_setCell_other _ _ _ _ (by dsimp only; omega)).trans (blk_setCell_other _ _ _ _ (by dsimp only; omega))).trans (blk_setCell_other _ _ _ _ (by dsimp only; omega))).trans HQ4.out) | fail)
    (first
      | (go_at_call 13; go_split_ands; refine (identityRows_any W.drew M.length hn6).mono ?_; rintro e w3 ⟨v3, rfl, b3, o3⟩; obtain ⟨A3, c3, rfl⟩ := OwG.len o3; have HB3 : Hid (Below W.heap.size W w3) := Lib.hid ((Below.refl _ _).drew.trans b3); have HQ3 : Hid (w3.heap[w.heap.size]? = W.heap[w.heap.size]?) := Lib.hid (HB3.out.block _ (by omega)); have hs3 : W.heap.size ≤ w3.heap.size := HB3.out.size; have HO3 := Lib.hid (show RdG w3 w3.heap.size _ (idRows M.length) from OwG.readB o3); have HV3 := Lib.hid (show RdG w3 w3.heap.size (.slice A1 M.length c1) M from (HV.out.below HB3.out hB0).mono (by omega)); clear b3 o3)
      | (go_at_call 17; go_split_ands; refine (joinRows_any w3 w3.heap.size _ _ (idRows M.length) M HO3.out HV3.out (Nat.le_refl _) (idRows_len _) (by rw [idRows_len]; exact HN.out) HI.out HR.out).mono ?_; rintro e w4 ⟨v4, rfl, b4, o4⟩; obtain ⟨A4, c4, rfl⟩ := OwG.len o4; have HB4 : Hid (Below W.heap.size W w4) := Lib.hid (HB3.out.trans (b4.mono hs3)); have HQ4 : Hid (w4.heap[w.heap.size]? = W.heap[w.heap.size]?) := Lib.hid (HB4.out.block _ (by omega)); have HO4 := Lib.hid (OwG.mono (T := fun q => W.heap.size ≤ q) o4 (fun q hq _ => Nat.le_trans hs3 hq)); have HY4 := Lib.hid (HY0.out.below HB4.out (by omega)); obtain ⟨hy0, hy1, hy2, hyf0, hyf1, hyf2, hys⟩ := HY4.out.three; clear b4 o4)
      | fail)
  have HBE := Lib.hid (HVB.out.trans (HB4.out.mono HVB.out.size))
  go_wp2
  refine bodyPost_ret (v := .agg #[.int .i64 M.length, .int .i64 c, .slice A4 (jn (idRows M.length) M).length c4]) (by simp [results, Try.results12, go_sem, hy0, hy1, hy2]) rfl ?_
  refine ⟨_, rfl, (by refine Below.trans HBE.out ?_; repeat' (first | exact Below.refl _ _ | apply Below.drew | apply Below.setCell | apply Below.alloc | (simp; done) | omega | (simp; omega))), (HO4.out.blocks (fun q hq _ => ?_)).mono (fun q hq _ => by omega)⟩
  repeat rw [blk_setCell_other _ _ _ _ (by dsimp only; omega)]
end Go.Proofs.Ytiiloioobmkicaa
