/- The juxtaposition of relations: the program's helper. -/
import Derived.Test.YtiiloioobmkicaaDoorTenI
import Derived.Test.YtiiloioobmkicaaDoorConcat
import Derived.Test.YtiiloioobmkicaaDoorMapR
import Derived.Test.YtiiloioobmkicaaDoorSpanF
namespace Go.Proofs.YtiiloioobmkicaaDoor
set_option maxRecDepth 100000
open Go Go.RowKit Go.Deep

theorem mapTenA (w : World) (B ba : Nat) (Aa : Option Addr) (na ca la ra bb : Nat) (Ab : Option Addr) (nb cb lb rb : Nat) (v : Value) (R : List (List Int)) (ha : CellsAt w ba tRl [.int .i64 la, .int .i64 ra, .slice Aa na ca]) (hb : CellsAt w bb tRl [.int .i64 lb, .int .i64 rb, .slice Ab nb cb]) (hv : RdG w B v R) (hB : B ≤ w.heap.size) (hn : R.length ≤ 1000000) (hl : ∀ j, j < R.length → la ≤ (R.getD j []).length ∧ (R.getD j []).length ≤ 1000) (hla : la ≤ 1000) (hra : ra ≤ 1000) (hlb : lb ≤ 1000) (hrb : rb ≤ 1000) :
    Calls Tryd.prog 53 #[v, .func (.func 78) #[] #[.pointer (some ⟨ba, 0, none⟩), .pointer (some ⟨bb, 0, none⟩)]] w (MapB w (R.map (ten1 la lb rb))) :=
  map_ten1 w B v R (R.map (ten1 la lb rb)) _ _ hv hB hn (by simp) fun W j u hb' hs hj hu => by
    rw [map_getD _ _ _ hj [] []]
    exact (tenA_any W B ba Aa na ca la ra bb Ab nb cb lb rb u _ (ha.below hb' ha.lt) (hb.below hb' hb.lt) hu (by omega) (hl j hj).1 (hl j hj).2 hla hra hlb hrb).mono fun e w' ⟨v', he, hb2, ho⟩ => ⟨v', he, hb2, ho.read.mono fun q hq => ⟨by omega, hq.2⟩⟩
theorem mapTenB (w : World) (B ba : Nat) (Aa : Option Addr) (na ca la ra bb : Nat) (Ab : Option Addr) (nb cb lb rb : Nat) (v : Value) (R : List (List Int)) (ha : CellsAt w ba tRl [.int .i64 la, .int .i64 ra, .slice Aa na ca]) (hb : CellsAt w bb tRl [.int .i64 lb, .int .i64 rb, .slice Ab nb cb]) (hv : RdG w B v R) (hB : B ≤ w.heap.size) (hn : R.length ≤ 1000000) (hl : ∀ j, j < R.length → lb ≤ (R.getD j []).length ∧ (R.getD j []).length ≤ 1000) (hla : la ≤ 1000) (hra : ra ≤ 1000) (hlb : lb ≤ 1000) (hrb : rb ≤ 1000) :
    Calls Tryd.prog 53 #[v, .func (.func 79) #[] #[.pointer (some ⟨ba, 0, none⟩), .pointer (some ⟨bb, 0, none⟩)]] w (MapB w (R.map (ten2 la ra lb))) :=
  map_ten2 w B v R (R.map (ten2 la ra lb)) _ _ hv hB hn (by simp) fun W j u hb' hs hj hu => by
    rw [map_getD _ _ _ hj [] []]
    exact (tenB_any W B ba Aa na ca la ra bb Ab nb cb lb rb u _ (ha.below hb' ha.lt) (hb.below hb' hb.lt) hu (by omega) (hl j hj).1 (hl j hj).2 hla hra hlb hrb).mono fun e w' ⟨v', he, hb2, ho⟩ => ⟨v', he, hb2, ho.read.mono fun q hq => ⟨by omega, hq.2⟩⟩
set_option maxRecDepth 100000 in
set_option maxHeartbeats 6400000 in
theorem tensorOf_any (w : World) (B : Nat) (va vb : Value) (p : Int) (l r l2 r2 : Nat) (R S : List (List Int)) (ha : RdG w B va R) (hb : RdG w B vb S) (hB : B ≤ w.heap.size) (hf : fld p = true) (hR : Mat p R.length (l + r) R) (hS : Mat p S.length (l2 + r2) S) (hn : R.length ≤ 1000) (hm : S.length ≤ 1000) (h24 : l + l2 + (r + r2) ≤ 1000) :
    Calls Tryd.prog 45 #[.int .i64 p, .agg #[.int .i64 l, .int .i64 r, va], .agg #[.int .i64 l2, .int .i64 r2, vb]] w (MadeRl w ((l + l2 : Nat) : Int) ((r + r2 : Nat) : Int) (rref p (tens l r l2 r2 R S) (l + l2 + (r + r2)))) := by
  obtain ⟨A1, c1, rfl⟩ := ha.len
  obtain ⟨A2, c2, rfl⟩ := hb.len
  have HVB := Lib.hid (show Below w.heap.size w (((w.alloc (.cells #[.int .i64 l, .int .i64 r, .slice A1 R.length c1] tRl)).alloc (.cells #[.int .i64 l2, .int .i64 r2, .slice A2 S.length c2] tRl)).alloc (.cells #[.int .i64 0, .int .i64 0, .slice none 0 0] tRl)) by repeat' (first | exact Below.refl _ _ | apply Below.alloc | (simp; done) | (simp; omega)))
  have HA := Lib.hid (ha.below HVB.out hB)
  have HS := Lib.hid (hb.below HVB.out hB)
  have hB0 : B ≤ (((w.alloc (.cells #[.int .i64 l, .int .i64 r, .slice A1 R.length c1] tRl)).alloc (.cells #[.int .i64 l2, .int .i64 r2, .slice A2 S.length c2] tRl)).alloc (.cells #[.int .i64 0, .int .i64 0, .slice none 0 0] tRl)).heap.size := Nat.le_trans hB HVB.out.size
  have HX0 := Lib.hid (((cellsAt_new w #[.int .i64 l, .int .i64 r, .slice A1 R.length c1] tRl).alloc (.cells #[.int .i64 l2, .int .i64 r2, .slice A2 S.length c2] tRl)).alloc (.cells #[.int .i64 0, .int .i64 0, .slice none 0 0] tRl))
  have HM0 := Lib.hid ((cellsAt_new' (w.alloc (.cells #[.int .i64 l, .int .i64 r, .slice A1 R.length c1] tRl)) #[.int .i64 l2, .int .i64 r2, .slice A2 S.length c2] tRl _ (w.heap.size + 1) (by simp) rfl).alloc (.cells #[.int .i64 0, .int .i64 0, .slice none 0 0] tRl))
  have HY0 := Lib.hid (cellsAt_new' ((w.alloc (.cells #[.int .i64 l, .int .i64 r, .slice A1 R.length c1] tRl)).alloc (.cells #[.int .i64 l2, .int .i64 r2, .slice A2 S.length c2] tRl)) #[.int .i64 0, .int .i64 0, .slice none 0 0] tRl _ (w.heap.size + 1 + 1) (by simp) rfl)
  have hsz0 : (((w.alloc (.cells #[.int .i64 l, .int .i64 r, .slice A1 R.length c1] tRl)).alloc (.cells #[.int .i64 l2, .int .i64 r2, .slice A2 S.length c2] tRl)).alloc (.cells #[.int .i64 0, .int .i64 0, .slice none 0 0] tRl)).heap.size = w.heap.size + 3 := by simp
  have HF := Lib.hid hf
  have HMA := Lib.hid (tens_mat (fld_bd hf).1 hR hS)
  have HLA := Lib.hid (fun j (hj : j < R.length) => (show l ≤ (R.getD j []).length ∧ (R.getD j []).length ≤ 1000 by have := (hR.row hj).1; omega))
  have HLB := Lib.hid (fun j (hj : j < S.length) => (show l2 ≤ (S.getD j []).length ∧ (S.getD j []).length ≤ 1000 by have := (hS.row hj).1; omega))
  have HC1 := Lib.hid (show ((l : Int) + (l2 : Int)) = ((l + l2 : Nat) : Int) by omega)
  have HC2 := Lib.hid (show ((r : Int) + (r2 : Int)) = ((r + r2 : Nat) : Int) by omega)
  have hq1 : (l : Int) + l2 ≤ 1000 := by omega
  have hq2 : (r : Int) + r2 ≤ 1000 := by omega
  have hw1 : IntKind.i64.wrap ((l : Int) + (l2 : Int)) = (l : Int) + (l2 : Int) := Go.IntWalk.i64_in _ ⟨by omega, by omega⟩
  have hw2 : IntKind.i64.wrap ((r : Int) + (r2 : Int)) = (r : Int) + (r2 : Int) := Go.IntWalk.i64_in _ ⟨by omega, by omega⟩
  have hq3 : (0 : Int) ≤ (l : Int) + l2 := by omega
  have hq4 : (0 : Int) ≤ (r : Int) + r2 := by omega
  have HLN : Hid ((R.map (ten1 l l2 r2)).length = R.length) := Lib.hid (by simp)
  have HLM : Hid ((S.map (ten2 l r l2)).length = S.length) := Lib.hid (by simp)
  clear ha hb hf hR hS hB
  go_enter Tryd.func45, Tryd.ntmps45
  go_upto_region 1 with fail
  generalize (((w.alloc (.cells #[.int .i64 l, .int .i64 r, .slice A1 R.length c1] tRl)).alloc (.cells #[.int .i64 l2, .int .i64 r2, .slice A2 S.length c2] tRl)).alloc (.cells #[.int .i64 0, .int .i64 0, .slice none 0 0] tRl)) = W at HVB HA HS hB0 HX0 HM0 HY0 hsz0 ⊢
  have hW1 : w.heap.size + 3 ≤ W.heap.size := by omega
  clear hsz0
  obtain ⟨hx0, hx1, hx2, hxf0, hxf1, hxf2, hxs⟩ := HX0.out.three
  go_wp2_with fail
  refine (mapTenA W B w.heap.size A1 R.length c1 l r (w.heap.size + 1) A2 S.length c2 l2 r2 _ R HX0.out HM0.out HA.out hB0 (by omega) HLA.out (by omega) (by omega) (by omega) (by omega)).mono ?_
  rintro e w2 ⟨v2, rfl, b2, o2⟩
  obtain ⟨A3, c3, rfl⟩ := RdG.len o2
  rw [HLN.out]
  have HX2 := Lib.hid (HX0.out.below b2 hxs)
  have HM2 := Lib.hid (HM0.out.below b2 HM0.out.lt)
  have HY2 := Lib.hid (HY0.out.below b2 HY0.out.lt)
  have HS2 := Lib.hid (HS.out.below b2 hB0)
  have HO2 := Lib.hid o2
  rw [HLN.out] at HO2
  have HB2 := Lib.hid (HVB.out.trans (b2.mono HVB.out.size))
  have hW2 : w.heap.size + 3 ≤ w2.heap.size := Nat.le_trans hW1 b2.size
  have hB2 : B ≤ w2.heap.size := Nat.le_trans hB0 b2.size
  clear b2 o2 hx0 hx1 hx2 hxf0 hxf1 hxf2 hxs
  obtain ⟨hm0, hm1, hm2, hmf0, hmf1, hmf2, hms⟩ := HM2.out.three
  go_wp2_with fail
  refine (mapTenB w2 B w.heap.size A1 R.length c1 l r (w.heap.size + 1) A2 S.length c2 l2 r2 _ S HX2.out HM2.out HS2.out hB2 (by omega) HLB.out (by omega) (by omega) (by omega) (by omega)).mono ?_
  rintro e W3 ⟨v3, rfl, b3, o3⟩
  obtain ⟨A4, c4, rfl⟩ := RdG.len o3
  rw [HLM.out]
  have HX3 := Lib.hid (HX2.out.below b3 HX2.out.lt)
  have HM3 := Lib.hid (HM2.out.below b3 hms)
  have HY3 := Lib.hid (HY2.out.below b3 HY2.out.lt)
  have HR3 := Lib.hid ((HO2.out.below b3 (Nat.le_refl _)).mono b3.size)
  have HS3 := Lib.hid o3
  rw [HLM.out] at HS3
  have HB3 := Lib.hid (HB2.out.trans (b3.mono HB2.out.size))
  have hW3 : w.heap.size + 3 ≤ W3.heap.size := Nat.le_trans hW2 b3.size
  clear b3 o3 hm0 hm1 hm2 hmf0 hmf1 hmf2 hms
  obtain ⟨hx0, hx1, hx2, hxf0, hxf1, hxf2, hxs⟩ := HX3.out.three
  obtain ⟨hm0, hm1, hm2, hmf0, hmf1, hmf2, hms⟩ := HM3.out.three
  have HELD : Hid (∀ w' : World, w'.heap[w.heap.size]? = W3.heap[w.heap.size]? → w'.heap[w.heap.size + 1]? = W3.heap[w.heap.size + 1]? → w'.cell? ⟨w.heap.size, 0, none⟩ = some (.int .i64 l) ∧ w'.cell? ⟨w.heap.size, 1, none⟩ = some (.int .i64 r) ∧ w'.cell? ⟨w.heap.size + 1, 0, none⟩ = some (.int .i64 l2) ∧ w'.cell? ⟨w.heap.size + 1, 1, none⟩ = some (.int .i64 r2)) := Lib.hid (fun w' H K => ⟨(World.cell?_of_block (w := W3) H).trans hx0, (World.cell?_of_block (w := W3) H).trans hx1, (World.cell?_of_block (w := W3) K).trans hm0, (World.cell?_of_block (w := W3) K).trans hm1⟩)
  have HQ0 : Hid (W3.drew.heap[w.heap.size]? = W3.heap[w.heap.size]?) := Lib.hid rfl
  have HK0 : Hid (W3.drew.heap[w.heap.size + 1]? = W3.heap[w.heap.size + 1]?) := Lib.hid rfl
  have HQ1 : Hid (∀ o, (W3.alloc o).drew.heap[w.heap.size]? = W3.heap[w.heap.size]?) := Lib.hid (fun o => blk_alloc_lt W3 o _ (show w.heap.size < W3.heap.size by omega))
  have HK1 : Hid (∀ o, (W3.alloc o).drew.heap[w.heap.size + 1]? = W3.heap[w.heap.size + 1]?) := Lib.hid (fun o => blk_alloc_lt W3 o _ (show w.heap.size + 1 < W3.heap.size by omega))
  have HC := Lib.hid (cellsAt_new W3 #[.slice A3 R.length c3, .slice A4 S.length c4] 22).drew.two
  have HBA : Hid (Below W3.heap.size W3 (W3.alloc (.cells #[.slice A3 R.length c3, .slice A4 S.length c4] 22)).drew) := Lib.hid ((Below.refl _ _).alloc (Nat.le_refl _) _).drew
  have HA1 := Lib.hid (HR3.out.below HBA.out (Nat.le_refl _))
  have HS1 := Lib.hid (HS3.out.below HBA.out (Nat.le_refl _))
  have HCC := Lib.hid (fun hn0 => concat_any (W3.alloc (.cells #[.slice A3 R.length c3, .slice A4 S.length c4] 22)).drew W3.heap.size A3 A4 c3 c4 (R.map (ten1 l l2 r2)) (S.map (ten2 l r l2)) (by rw [HLN.out]; exact HC.out.1) (by rw [HLM.out]; exact HC.out.2.1) HC.out.2.2.2.2 (by rw [HLN.out]; exact HA1.out.mono HBA.out.size) (by rw [HLM.out]; exact HS1.out.mono HBA.out.size) hn0)
  have hnn : (R.map (ten1 l l2 r2)).length + (S.map (ten2 l r l2)).length ≤ 1000000 := by simp; omega
  have hn2 : R.length + S.length ≤ 1000000 := by omega
  have hc2 : l + l2 + (r + r2) ≤ 1000000 := by omega
  clear hx0 hx1 hx2 hxf0 hxf1 hxf2 hxs hm0 hm1 hm2 hmf0 hmf1 hmf2 hms
  go_wp2
  go_region_held3 (fun w' => w'.cell? ⟨w.heap.size, 0, none⟩ = some (.int .i64 l) ∧ w'.cell? ⟨w.heap.size, 1, none⟩ = some (.int .i64 r) ∧ w'.cell? ⟨w.heap.size + 1, 0, none⟩ = some (.int .i64 l2) ∧ w'.cell? ⟨w.heap.size + 1, 1, none⟩ = some (.int .i64 r2))
    (first | with_reducible exact HELD.out _ HQ0.out HK0.out | with_reducible exact HELD.out _ (HQ1.out _) (HK1.out _) | with_reducible exact HELD.out _ HQ3.out HK3.out | with_reducible exact HELD.out _ HQ4.out HK4.out | exact HELD.out _ (((blk_setCell_other _ _ _ _ (by dsimp only; omega)).trans ((blk_setCell_other _ _ _ _ (by dsimp only; omega)).trans (blk_setCell_other _ _ _ _ (by dsimp only; omega)))).trans HQ4.out) (((blk_setCell_other _ _ _ _ (by dsimp only; omega)).trans ((blk_setCell_other _ _ _ _ (by dsimp only; omega)).trans (blk_setCell_other _ _ _ _ (by dsimp only; omega)))).trans HK4.out) | fail)
    (first
      | (go_at_call 80; go_split_ands; refine (HCC.out hnn).mono ?_; rintro e w5 ⟨v5, rfl, b5, o5⟩; have HB5 : Hid (Below W3.heap.size W3 w5) := Lib.hid (HBA.out.trans (b5.mono HBA.out.size)); have HQ3 : Hid (w5.heap[w.heap.size]? = W3.heap[w.heap.size]?) := Lib.hid (HB5.out.block _ (by omega)); have HK3 : Hid (w5.heap[w.heap.size + 1]? = W3.heap[w.heap.size + 1]?) := Lib.hid (HB5.out.block _ (by omega)); have HO5 := Lib.hid (show RdG w5 w5.heap.size v5 (tens l r l2 r2 R S) from o5); have hs5 : W3.heap.size ≤ w5.heap.size := HB5.out.size; clear b5 o5)
      | (go_at_call 76; go_split_ands; rw [HC1.out, HC2.out]; refine (relationOf_any w5 w5.heap.size _ p (R.length + S.length) (l + l2) (r + r2) (tens l r l2 r2 R S) HO5.out (Nat.le_refl _) HF.out HMA.out hn2 hc2).mono ?_; rintro e w6 ⟨v6, rfl, b6, o6⟩; obtain ⟨A6, c6, rfl⟩ := OwG.len o6; have HB6 : Hid (Below W3.heap.size W3 w6) := Lib.hid (HB5.out.trans (b6.mono hs5)); have HQ4 : Hid (w6.heap[w.heap.size]? = W3.heap[w.heap.size]?) := Lib.hid (HB6.out.block _ (by omega)); have HK4 : Hid (w6.heap[w.heap.size + 1]? = W3.heap[w.heap.size + 1]?) := Lib.hid (HB6.out.block _ (by omega)); have HO6 := Lib.hid (OwG.mono (T := fun q => W3.heap.size ≤ q) o6 (fun q hq _ => Nat.le_trans hs5 hq)); have HY6 := Lib.hid (HY3.out.below HB6.out (by omega)); obtain ⟨hy0, hy1, hy2, hyf0, hyf1, hyf2, hys⟩ := HY6.out.three; clear b6 o6)
      | fail)
  have HBE := Lib.hid (HB3.out.trans (HB6.out.mono HB3.out.size))
  go_wp2
  refine bodyPost_ret (v := .agg #[.int .i64 ((l + l2 : Nat) : Int), .int .i64 ((r + r2 : Nat) : Int), .slice A6 (rref p (tens l r l2 r2 R S) (l + l2 + (r + r2))).length c6]) (by simp [results, Tryd.results45, go_sem, hy0, hy1, hy2]) rfl ?_
  refine ⟨_, rfl, (by refine Below.trans HBE.out ?_; repeat' (first | exact Below.refl _ _ | apply Below.drew | apply Below.setCell | apply Below.alloc | (simp; done) | omega | (simp; omega))), (HO6.out.blocks (fun q hq _ => ?_)).mono (fun q hq _ => by omega)⟩
  repeat rw [blk_setCell_other _ _ _ _ (by dsimp only; omega)]
end Go.Proofs.YtiiloioobmkicaaDoor
