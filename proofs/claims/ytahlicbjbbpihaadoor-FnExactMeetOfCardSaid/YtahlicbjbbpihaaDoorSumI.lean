/- The sum of two spaces: the program's helper. -/
import Derived.Test.YtahlicbjbbpihaaDoorConcat
import Derived.Test.YtahlicbjbbpihaaDoorSpanF
import Derived.Deep.RegionHeld3
namespace Go.Proofs.YtahlicbjbbpihaaDoor
set_option maxRecDepth 100000
open Go Go.RowKit Go.Deep

theorem mat_app {p : Int} {n m c : Nat} {R S : List (List Int)} (hR : Mat p n c R) (hS : Mat p m c S) : Mat p (n + m) c (R ++ S) := by
  refine ⟨by rw [List.length_append, hR.1, hS.1], fun r hr => ?_⟩
  rcases List.mem_append.1 hr with h | h
  · exact hR.2 r h
  · exact hS.2 r h
set_option maxHeartbeats 3200000 in
theorem sumOf_any (w : World) (B : Nat) (va vb : Value) (p : Int) (c : Nat) (R S : List (List Int)) (ha : RdG w B va R) (hb : RdG w B vb S) (hB : B ≤ w.heap.size) (hf : fld p = true) (hR : Mat p R.length c R) (hS : Mat p S.length c S) (hn : R.length + S.length ≤ 1000000) (hc : c ≤ 1000000) :
    Calls Tryd.prog 62 #[.int .i64 p, .agg #[.int .i64 c, va], .agg #[.int .i64 c, vb]] w (MadeSp w c (rref p (R ++ S) c)) := by
  obtain ⟨A1, c1, rfl⟩ := ha.len
  obtain ⟨A2, c2, rfl⟩ := hb.len
  have HVB := Lib.hid (show Below w.heap.size w (((w.alloc (.cells #[.int .i64 c, .slice A1 R.length c1] tSp)).alloc (.cells #[.int .i64 c, .slice A2 S.length c2] tSp)).alloc (.cells #[.int .i64 0, .slice none 0 0] tSp)) by repeat' (first | exact Below.refl _ _ | apply Below.alloc | (simp; done) | (simp; omega)))
  have HA := Lib.hid (ha.below HVB.out hB)
  have HS := Lib.hid (hb.below HVB.out hB)
  have hB0 : B ≤ (((w.alloc (.cells #[.int .i64 c, .slice A1 R.length c1] tSp)).alloc (.cells #[.int .i64 c, .slice A2 S.length c2] tSp)).alloc (.cells #[.int .i64 0, .slice none 0 0] tSp)).heap.size := Nat.le_trans hB HVB.out.size
  have HX0 := Lib.hid (((cellsAt_new w #[.int .i64 c, .slice A1 R.length c1] tSp).alloc (.cells #[.int .i64 c, .slice A2 S.length c2] tSp)).alloc (.cells #[.int .i64 0, .slice none 0 0] tSp))
  have HM0 := Lib.hid ((cellsAt_new' (w.alloc (.cells #[.int .i64 c, .slice A1 R.length c1] tSp)) #[.int .i64 c, .slice A2 S.length c2] tSp _ (w.heap.size + 1) (by simp) rfl).alloc (.cells #[.int .i64 0, .slice none 0 0] tSp))
  have HY0 := Lib.hid (cellsAt_new' ((w.alloc (.cells #[.int .i64 c, .slice A1 R.length c1] tSp)).alloc (.cells #[.int .i64 c, .slice A2 S.length c2] tSp)) #[.int .i64 0, .slice none 0 0] tSp _ (w.heap.size + 2) (by simp) rfl)
  have hsz0 : (((w.alloc (.cells #[.int .i64 c, .slice A1 R.length c1] tSp)).alloc (.cells #[.int .i64 c, .slice A2 S.length c2] tSp)).alloc (.cells #[.int .i64 0, .slice none 0 0] tSp)).heap.size = w.heap.size + 3 := by simp
  have HF := Lib.hid hf
  have HMA := Lib.hid (mat_app hR hS)
  clear ha hb hf hR hS hB
  go_enter Tryd.func62, Tryd.ntmps62
  go_upto_region 1 with fail
  generalize (((w.alloc (.cells #[.int .i64 c, .slice A1 R.length c1] tSp)).alloc (.cells #[.int .i64 c, .slice A2 S.length c2] tSp)).alloc (.cells #[.int .i64 0, .slice none 0 0] tSp)) = W at HVB HA HS hB0 HX0 HM0 HY0 hsz0 ⊢
  have hW1 : w.heap.size + 3 ≤ W.heap.size := by omega
  clear hsz0
  obtain ⟨hx0, hx1, hxf0, hxf1, hxs⟩ := HX0.out.two
  obtain ⟨hm0, hm1, hmf0, hmf1, hms⟩ := HM0.out.two
  have HELD : Hid (∀ w' : World, w'.heap[w.heap.size]? = W.heap[w.heap.size]? → w'.heap[w.heap.size + 1]? = W.heap[w.heap.size + 1]? → w'.cell? ⟨w.heap.size, 0, none⟩ = some (.int .i64 c) ∧ w'.cell? ⟨w.heap.size, 1, none⟩ = some (.slice A1 R.length c1) ∧ w'.cell? ⟨w.heap.size + 1, 1, none⟩ = some (.slice A2 S.length c2)) := Lib.hid (fun w' H K => ⟨(World.cell?_of_block (w := W) H).trans hx0, (World.cell?_of_block (w := W) H).trans hx1, (World.cell?_of_block (w := W) K).trans hm1⟩)
  have HQ0 : Hid (W.drew.heap[w.heap.size]? = W.heap[w.heap.size]?) := Lib.hid rfl
  have HK0 : Hid (W.drew.heap[w.heap.size + 1]? = W.heap[w.heap.size + 1]?) := Lib.hid rfl
  have HQ1 : Hid (∀ o, (W.alloc o).drew.heap[w.heap.size]? = W.heap[w.heap.size]?) := Lib.hid (fun o => blk_alloc_lt W o _ (show w.heap.size < W.heap.size by omega))
  have HK1 : Hid (∀ o, (W.alloc o).drew.heap[w.heap.size + 1]? = W.heap[w.heap.size + 1]?) := Lib.hid (fun o => blk_alloc_lt W o _ (show w.heap.size + 1 < W.heap.size by omega))
  have HC1 := Lib.hid (cellsAt_new W #[.slice A1 R.length c1, .slice A2 S.length c2] 22).drew.two
  have HBA : Hid (Below W.heap.size W (W.alloc (.cells #[.slice A1 R.length c1, .slice A2 S.length c2] 22)).drew) := Lib.hid ((Below.refl _ _).alloc (Nat.le_refl _) _).drew
  have HA1 := Lib.hid ((HA.out.mono hB0).below HBA.out (Nat.le_refl _))
  have HS1 := Lib.hid ((HS.out.mono hB0).below HBA.out (Nat.le_refl _))
  clear hx0 hx1 hxf0 hxf1 hxs hm0 hm1 hmf0 hmf1 hms
  go_wp2
  go_region_held3 (fun w' => w'.cell? ⟨w.heap.size, 0, none⟩ = some (.int .i64 c) ∧ w'.cell? ⟨w.heap.size, 1, none⟩ = some (.slice A1 R.length c1) ∧ w'.cell? ⟨w.heap.size + 1, 1, none⟩ = some (.slice A2 S.length c2))
    (first | with_reducible exact HELD.out _ HQ0.out HK0.out | with_reducible exact HELD.out _ (HQ1.out _) (HK1.out _) | with_reducible exact HELD.out _ HQ3.out HK3.out | with_reducible exact HELD.out _ HQ4.out HK4.out | exact HELD.out _ (((blk_setCell_other _ _ _ _ (by dsimp only; omega)).trans (blk_setCell_other _ _ _ _ (by dsimp only; omega))).trans HQ4.out) (((blk_setCell_other _ _ _ _ (by dsimp only; omega)).trans (blk_setCell_other _ _ _ _ (by dsimp only; omega))).trans HK4.out))
    (first
      | (go_at_call 107; go_split_ands; refine (concat_any (W.alloc (.cells #[.slice A1 R.length c1, .slice A2 S.length c2] 22)).drew W.heap.size A1 A2 c1 c2 R S HC1.out.1 HC1.out.2.1 HC1.out.2.2.2.2 (HA1.out.mono HBA.out.size) (HS1.out.mono HBA.out.size) hn).mono ?_; rintro e w3 ⟨v3, rfl, b3, o3⟩; have HB3 : Hid (Below W.heap.size W w3) := Lib.hid (HBA.out.trans (b3.mono HBA.out.size)); have HQ3 : Hid (w3.heap[w.heap.size]? = W.heap[w.heap.size]?) := Lib.hid (HB3.out.block _ (by omega)); have HK3 : Hid (w3.heap[w.heap.size + 1]? = W.heap[w.heap.size + 1]?) := Lib.hid (HB3.out.block _ (by omega)); have HO3 := Lib.hid o3; have hs3 : W.heap.size ≤ w3.heap.size := HB3.out.size; clear b3 o3)
      | (go_at_call 99; go_split_ands; refine (spanOf_any w3 w3.heap.size _ p (R.length + S.length) c (R ++ S) HO3.out (Nat.le_refl _) HF.out HMA.out hn hc).mono ?_; rintro e w4 ⟨v4, rfl, b4, o4⟩; obtain ⟨A4, c4, rfl⟩ := OwG.len o4; have HB4 : Hid (Below W.heap.size W w4) := Lib.hid (HB3.out.trans (b4.mono hs3)); have HQ4 : Hid (w4.heap[w.heap.size]? = W.heap[w.heap.size]?) := Lib.hid (HB4.out.block _ (by omega)); have HK4 : Hid (w4.heap[w.heap.size + 1]? = W.heap[w.heap.size + 1]?) := Lib.hid (HB4.out.block _ (by omega)); have HO4 := Lib.hid (OwG.mono (T := fun q => W.heap.size ≤ q) o4 (fun q hq _ => Nat.le_trans hs3 hq)); have HY4 := Lib.hid (HY0.out.below HB4.out (by omega)); obtain ⟨hy0, hy1, hyf0, hyf1, hys⟩ := HY4.out.two; clear b4 o4))
  have HBE := Lib.hid (HVB.out.trans (HB4.out.mono HVB.out.size))
  go_wp2
  refine bodyPost_ret (v := .agg #[.int .i64 c, .slice A4 (rref p (R ++ S) c).length c4]) (by simp [results, Tryd.results62, go_sem, hy0, hy1]) rfl ?_
  refine ⟨_, rfl, (by refine Below.trans HBE.out ?_; repeat' (first | exact Below.refl _ _ | apply Below.drew | apply Below.setCell | apply Below.alloc | (simp; done) | omega | (simp; omega))), (HO4.out.blocks (fun q hq _ => ?_)).mono (fun q hq _ => by omega)⟩
  repeat rw [blk_setCell_other _ _ _ _ (by dsimp only; omega)]
end Go.Proofs.YtahlicbjbbpihaaDoor
