/- The composition of relations: the program's helper. -/
import Derived.Test.YtdjgkcnhmfkjoaaDoorCmpI
import Derived.Test.YtdjgkcnhmfkjoaaDoorConcat
import Derived.Test.YtdjgkcnhmfkjoaaDoorMapR
import Derived.Test.YtdjgkcnhmfkjoaaDoorSpanF
import Derived.Test.YtdjgkcnhmfkjoaaDoorSpI
import Derived.Test.YtdjgkcnhmfkjoaaDoorCmpP
import Derived.Deep.RegionLaw
namespace Go.Proofs.YtdjgkcnhmfkjoaaDoor
set_option maxRecDepth 100000
open Go Go.RowKit Go.Deep

theorem mapCmpA (w : World) (B ba : Nat) (Aa : Option Addr) (na ca la ra bb : Nat) (Ab : Option Addr) (nb cb lb rb : Nat) (v : Value) (R : List (List Int)) (ha : CellsAt w ba tRl [.int .i64 la, .int .i64 ra, .slice Aa na ca]) (hb : CellsAt w bb tRl [.int .i64 lb, .int .i64 rb, .slice Ab nb cb]) (hv : RdG w B v R) (hB : B ≤ w.heap.size) (hn : R.length ≤ 1000000) (hl : ∀ j, j < R.length → la ≤ (R.getD j []).length ∧ (R.getD j []).length ≤ 1000) (hla : la ≤ 1000) (hra : ra ≤ 1000) (hlb : lb ≤ 1000) (hrb : rb ≤ 1000) :
    Calls Tryd.prog 32 #[v, .func (.func 33) #[] #[.pointer (some ⟨ba, 0, none⟩), .pointer (some ⟨bb, 0, none⟩)]] w (MapB w (R.map (cmpA la rb))) :=
  map_cmp1 w B v R (R.map (cmpA la rb)) _ _ hv hB hn (by simp) fun W j u hb' hs hj hu => by
    rw [map_getD _ _ _ hj [] []]
    exact (cmpA_any W B ba Aa na ca la ra bb Ab nb cb lb rb u _ (ha.below hb' ha.lt) (hb.below hb' hb.lt) hu (by omega) (hl j hj).1 (hl j hj).2 hla hra hlb hrb).mono fun e w' ⟨v', he, hb2, ho⟩ => ⟨v', he, hb2, ho.read.mono fun q hq => ⟨by omega, hq.2⟩⟩
theorem mapCmpB (w : World) (B bp : Nat) (p : Int) (bb : Nat) (Ab : Option Addr) (nb cb lb rb : Nat) (ba : Nat) (Aa : Option Addr) (na ca la ra : Nat) (v : Value) (R : List (List Int)) (hp : CellsAt w bp 3 [.int .i64 p]) (hb : CellsAt w bb tRl [.int .i64 lb, .int .i64 rb, .slice Ab nb cb]) (ha : CellsAt w ba tRl [.int .i64 la, .int .i64 ra, .slice Aa na ca]) (hv : RdG w B v R) (hB : B ≤ w.heap.size) (hn : R.length ≤ 1000000) (hl : ∀ j, j < R.length → lb ≤ (R.getD j []).length ∧ (R.getD j []).length ≤ 1000 ∧ Vec p lb ((R.getD j []).take lb)) (hla : la ≤ 1000) (hra : ra ≤ 1000) (hlb : lb ≤ 1000) (hrb : rb ≤ 1000) (hp1 : 2 ≤ p) (hp2 : p ≤ 97) :
    Calls Tryd.prog 32 #[v, .func (.func 37) #[] #[.pointer (some ⟨bp, 0, none⟩), .pointer (some ⟨bb, 0, none⟩), .pointer (some ⟨ba, 0, none⟩)]] w (MapB w (R.map (cmpB p la lb))) :=
  map_cmp2 w B v R (R.map (cmpB p la lb)) _ _ _ hv hB hn (by simp) fun W j u hb' hs hj hu => by
    rw [map_getD _ _ _ hj [] []]
    exact (cmpB_any W B bp p bb Ab nb cb lb rb ba Aa na ca la ra u _ (hp.below hb' hp.lt) (hb.below hb' hb.lt) (ha.below hb' ha.lt) hu (by omega) (hl j hj).1 (hl j hj).2.1 hla hra hlb hrb hp1 hp2 (hl j hj).2.2).mono fun e w' ⟨v', he, hb2, ho⟩ => ⟨v', he, hb2, ho.read.mono fun q hq => ⟨by omega, hq.2⟩⟩
def MadeRlP (w : World) (l r : Int) (rows : List (List Int)) (e : Ending) (w' : World) : Prop := ∃ v, e = .returned (.agg #[.int .i64 l, .int .i64 r, v]) ∧ Below w.heap.size w w' ∧ OwGP w' tI tR (fun q => w.heap.size ≤ q) v rows
set_option maxRecDepth 100000 in
set_option maxHeartbeats 6400000 in
theorem compositionOf_any (w : World) (B : Nat) (va vb : Value) (p : Int) (l r r2 : Nat) (R S : List (List Int)) (ha : RdG w B va R) (hb : RdG w B vb S) (hB : B ≤ w.heap.size) (hf : fld p = true) (hR : Mat p R.length (l + r) R) (hS : Mat p S.length (r + r2) S) (hn : R.length ≤ 1000) (hm : S.length ≤ 1000) (h24 : l + r + r2 ≤ 1000) :
    Calls Tryd.prog 17 #[.int .i64 p, .agg #[.int .i64 l, .int .i64 r, va], .agg #[.int .i64 r, .int .i64 r2, vb]] w (MadeRlP w l r2 (tailR r (rref p (cmpX p l r r2 R S) (r + (l + r2))))) := by
  obtain ⟨A1, c1, rfl⟩ := ha.len
  obtain ⟨A2, c2, rfl⟩ := hb.len
  have hp1 := (fld_bd hf).1
  have hp2 := (fld_bd hf).2
  have HVB := Lib.hid (show Below w.heap.size w ((((w.alloc (.cells #[.int .i64 p] 3)).alloc (.cells #[.int .i64 l, .int .i64 r, .slice A1 R.length c1] tRl)).alloc (.cells #[.int .i64 r, .int .i64 r2, .slice A2 S.length c2] tRl)).alloc (.cells #[.int .i64 0, .int .i64 0, .slice none 0 0] tRl)) by repeat' (first | exact Below.refl _ _ | apply Below.alloc | (simp; done) | (simp; omega)))
  have HA := Lib.hid (ha.below HVB.out hB)
  have HS := Lib.hid (hb.below HVB.out hB)
  have hB0 : B ≤ ((((w.alloc (.cells #[.int .i64 p] 3)).alloc (.cells #[.int .i64 l, .int .i64 r, .slice A1 R.length c1] tRl)).alloc (.cells #[.int .i64 r, .int .i64 r2, .slice A2 S.length c2] tRl)).alloc (.cells #[.int .i64 0, .int .i64 0, .slice none 0 0] tRl)).heap.size := Nat.le_trans hB HVB.out.size
  have HP0 := Lib.hid ((((cellsAt_new w #[.int .i64 p] 3).alloc (.cells #[.int .i64 l, .int .i64 r, .slice A1 R.length c1] tRl)).alloc (.cells #[.int .i64 r, .int .i64 r2, .slice A2 S.length c2] tRl)).alloc (.cells #[.int .i64 0, .int .i64 0, .slice none 0 0] tRl))
  have HX0 := Lib.hid (((cellsAt_new' (w.alloc (.cells #[.int .i64 p] 3)) #[.int .i64 l, .int .i64 r, .slice A1 R.length c1] tRl _ (w.heap.size + 1) (by simp) rfl).alloc (.cells #[.int .i64 r, .int .i64 r2, .slice A2 S.length c2] tRl)).alloc (.cells #[.int .i64 0, .int .i64 0, .slice none 0 0] tRl))
  have HM0 := Lib.hid ((cellsAt_new' ((w.alloc (.cells #[.int .i64 p] 3)).alloc (.cells #[.int .i64 l, .int .i64 r, .slice A1 R.length c1] tRl)) #[.int .i64 r, .int .i64 r2, .slice A2 S.length c2] tRl _ (w.heap.size + 1 + 1) (by simp) rfl).alloc (.cells #[.int .i64 0, .int .i64 0, .slice none 0 0] tRl))
  have HY0 := Lib.hid (cellsAt_new' (((w.alloc (.cells #[.int .i64 p] 3)).alloc (.cells #[.int .i64 l, .int .i64 r, .slice A1 R.length c1] tRl)).alloc (.cells #[.int .i64 r, .int .i64 r2, .slice A2 S.length c2] tRl)) #[.int .i64 0, .int .i64 0, .slice none 0 0] tRl _ (w.heap.size + 1 + 1 + 1) (by simp) rfl)
  have hsz0 : ((((w.alloc (.cells #[.int .i64 p] 3)).alloc (.cells #[.int .i64 l, .int .i64 r, .slice A1 R.length c1] tRl)).alloc (.cells #[.int .i64 r, .int .i64 r2, .slice A2 S.length c2] tRl)).alloc (.cells #[.int .i64 0, .int .i64 0, .slice none 0 0] tRl)).heap.size = w.heap.size + 4 := by simp
  have HF := Lib.hid hf
  have HMA := Lib.hid (cmpX_mat hp1 hR hS)
  have HLA := Lib.hid (fun j (hj : j < R.length) => (show l ≤ (R.getD j []).length ∧ (R.getD j []).length ≤ 1000 by have := (hR.row hj).1; omega))
  have HLB := Lib.hid (fun j (hj : j < S.length) => (show r ≤ (S.getD j []).length ∧ (S.getD j []).length ≤ 1000 ∧ Vec p r ((S.getD j []).take r) from ⟨by have := (hS.row hj).1; omega, by have := (hS.row hj).1; omega, ⟨by rw [List.length_take, (hS.row hj).1]; omega, fun x hx => (hS.row hj).2 x (List.mem_of_mem_take hx)⟩⟩))
  have hq1 : (r : Int) + l ≤ 1000 := by omega
  have hq2 : (r : Int) + l + r2 ≤ 1000 := by omega
  have hw1 : IntKind.i64.wrap ((r : Int) + (l : Int)) = (r : Int) + (l : Int) := Go.IntWalk.i64_in _ ⟨by omega, by omega⟩
  have hw2 : IntKind.i64.wrap ((r : Int) + (l : Int) + (r2 : Int)) = (r : Int) + (l : Int) + (r2 : Int) := Go.IntWalk.i64_in _ ⟨by omega, by omega⟩
  have HC2 := Lib.hid (show ((r : Int) + (l : Int) + (r2 : Int)) = ((r + (l + r2) : Nat) : Int) by omega)
  have HLN : Hid ((R.map (cmpA l r2)).length = R.length) := Lib.hid (by simp)
  have HLM : Hid ((S.map (cmpB p l r)).length = S.length) := Lib.hid (by simp)
  clear ha hb hf hR hS hB
  go_enter Tryd.func17, Tryd.ntmps17
  go_upto_region 1 with fail
  generalize ((((w.alloc (.cells #[.int .i64 p] 3)).alloc (.cells #[.int .i64 l, .int .i64 r, .slice A1 R.length c1] tRl)).alloc (.cells #[.int .i64 r, .int .i64 r2, .slice A2 S.length c2] tRl)).alloc (.cells #[.int .i64 0, .int .i64 0, .slice none 0 0] tRl)) = W at HVB HA HS hB0 HP0 HX0 HM0 HY0 hsz0 ⊢
  have hW1 : w.heap.size + 4 ≤ W.heap.size := by omega
  clear hsz0
  obtain ⟨hx0, hx1, hx2, hxf0, hxf1, hxf2, hxs⟩ := HX0.out.three
  go_wp2_with fail
  refine (mapCmpA W B (w.heap.size + 1) A1 R.length c1 l r (w.heap.size + 1 + 1) A2 S.length c2 r r2 _ R HX0.out HM0.out HA.out hB0 (by omega) HLA.out (by omega) (by omega) (by omega) (by omega)).mono ?_
  rintro e w2 ⟨v2, rfl, b2, o2⟩
  obtain ⟨A3, c3, rfl⟩ := RdG.len o2
  rw [HLN.out]
  have HP2 := Lib.hid (HP0.out.below b2 HP0.out.lt)
  have HX2 := Lib.hid (HX0.out.below b2 hxs)
  have HM2 := Lib.hid (HM0.out.below b2 HM0.out.lt)
  have HY2 := Lib.hid (HY0.out.below b2 HY0.out.lt)
  have HS2 := Lib.hid (HS.out.below b2 hB0)
  have HO2 := Lib.hid o2
  rw [HLN.out] at HO2
  have HB2 := Lib.hid (HVB.out.trans (b2.mono HVB.out.size))
  have hW2 : w.heap.size + 4 ≤ w2.heap.size := Nat.le_trans hW1 b2.size
  have hB2 : B ≤ w2.heap.size := Nat.le_trans hB0 b2.size
  clear b2 o2 hx0 hx1 hx2 hxf0 hxf1 hxf2 hxs
  obtain ⟨hm0, hm1, hm2, hmf0, hmf1, hmf2, hms⟩ := HM2.out.three
  go_wp2_with fail
  refine (mapCmpB w2 B w.heap.size p (w.heap.size + 1 + 1) A2 S.length c2 r r2 (w.heap.size + 1) A1 R.length c1 l r _ S HP2.out HM2.out HX2.out HS2.out hB2 (by omega) HLB.out (by omega) (by omega) (by omega) (by omega) hp1 hp2).mono ?_
  rintro e W3 ⟨v3, rfl, b3, o3⟩
  obtain ⟨A4, c4, rfl⟩ := RdG.len o3
  rw [HLM.out]
  have HP3 := Lib.hid (HP2.out.below b3 HP2.out.lt)
  have HX3 := Lib.hid (HX2.out.below b3 HX2.out.lt)
  have HM3 := Lib.hid (HM2.out.below b3 hms)
  have HY3 := Lib.hid (HY2.out.below b3 HY2.out.lt)
  have HR3 := Lib.hid ((HO2.out.below b3 (Nat.le_refl _)).mono b3.size)
  have HS3 := Lib.hid o3
  rw [HLM.out] at HS3
  have HB3 := Lib.hid (HB2.out.trans (b3.mono HB2.out.size))
  have hW3 : w.heap.size + 4 ≤ W3.heap.size := Nat.le_trans hW2 b3.size
  clear b3 o3 hm0 hm1 hm2 hmf0 hmf1 hmf2 hms
  obtain ⟨hx0, hx1, hx2, hxf0, hxf1, hxf2, hxs⟩ := HX3.out.three
  obtain ⟨hm0, hm1, hm2, hmf0, hmf1, hmf2, hms⟩ := HM3.out.three
  go_upto_region 5 with fail
  have HC4 := Lib.hid (cellsAt_new W3 #[.int .i64 l, .int .i64 r2, .slice none 0 0] tRl)
  have HB34 := Lib.hid (show Below W3.heap.size W3 (W3.alloc (.cells #[.int .i64 l, .int .i64 r2, .slice none 0 0] tRl)) from (Below.refl _ _).alloc (Nat.le_refl _) _)
  have hs4 : (W3.alloc (.cells #[.int .i64 l, .int .i64 r2, .slice none 0 0] tRl)).heap.size = W3.heap.size + 1 := by simp
  generalize W3.alloc (.cells #[.int .i64 l, .int .i64 r2, .slice none 0 0] tRl) = W4 at HC4 HB34 hs4 ⊢
  have HP4 := Lib.hid (HP3.out.below HB34.out HP3.out.lt)
  have HX4 := Lib.hid (HX3.out.below HB34.out HX3.out.lt)
  have HM4 := Lib.hid (HM3.out.below HB34.out HM3.out.lt)
  have HY4 := Lib.hid (HY3.out.below HB34.out HY3.out.lt)
  have HR4 := Lib.hid (HR3.out.below HB34.out (Nat.le_refl _))
  have HS4 := Lib.hid (HS3.out.below HB34.out (Nat.le_refl _))
  have HB4 := Lib.hid (HB3.out.trans (HB34.out.mono HB3.out.size))
  have hW4 : w.heap.size + 5 ≤ W4.heap.size := by omega
  have hW34 : W3.heap.size < W4.heap.size := by omega
  clear hs4
  clear hx0 hx1 hx2 hxf0 hxf1 hxf2 hxs hm0 hm1 hm2 hmf0 hmf1 hmf2 hms
  have hp40 : W4.cell? ⟨w.heap.size, 0, none⟩ = some (.int .i64 p) := HP4.out.cell (i := 0) (by simp)
  obtain ⟨hx0, hx1, hx2, hxf0, hxf1, hxf2, hxs⟩ := HX4.out.three
  obtain ⟨hm0, hm1, hm2, hmf0, hmf1, hmf2, hms⟩ := HM4.out.three
  have hlt0 : w.heap.size < W4.heap.size := by omega
  have hlt1 : w.heap.size + 1 < W4.heap.size := by omega
  have hlt2 : w.heap.size + 1 + 1 < W4.heap.size := by omega
  have HELD : Hid (∀ w' : World, Hid (Stp W4 w') → w'.cell? ⟨w.heap.size, 0, none⟩ = some (.int .i64 p) ∧ w'.cell? ⟨w.heap.size + 1, 0, none⟩ = some (.int .i64 l) ∧ w'.cell? ⟨w.heap.size + 1 + 1, 1, none⟩ = some (.int .i64 r2) ∧ Hid (Stp W4 w')) := Lib.hid (fun w' H => ⟨(H.out.cell (p := ⟨w.heap.size, 0, none⟩) hlt0).trans hp40, (H.out.cell (p := ⟨w.heap.size + 1, 0, none⟩) hlt1).trans hx0, (H.out.cell (p := ⟨w.heap.size + 1 + 1, 1, none⟩) hlt2).trans hm1, H⟩)
  have HC := Lib.hid (cellsAt_new W4 #[.slice A3 R.length c3, .slice A4 S.length c4] 22).drew.two
  have HBA : Hid (Below W4.heap.size W4 (W4.alloc (.cells #[.slice A3 R.length c3, .slice A4 S.length c4] 22)).drew) := Lib.hid ((Below.refl _ _).alloc (Nat.le_refl _) _).drew
  have HA1 := Lib.hid ((HR4.out.mono (by omega : W3.heap.size ≤ W4.heap.size)).below HBA.out (Nat.le_refl _))
  have HS1 := Lib.hid ((HS4.out.mono (by omega : W3.heap.size ≤ W4.heap.size)).below HBA.out (Nat.le_refl _))
  have HCC := Lib.hid (fun hn0 => concat_any (W4.alloc (.cells #[.slice A3 R.length c3, .slice A4 S.length c4] 22)).drew W4.heap.size A3 A4 c3 c4 (R.map (cmpA l r2)) (S.map (cmpB p l r)) (by rw [HLN.out]; exact HC.out.1) (by rw [HLM.out]; exact HC.out.2.1) HC.out.2.2.2.2 (by rw [HLN.out]; exact HA1.out.mono HBA.out.size) (by rw [HLM.out]; exact HS1.out.mono HBA.out.size) hn0)
  have hnn : (R.map (cmpA l r2)).length + (S.map (cmpB p l r)).length ≤ 1000000 := by simp; omega
  have hn2 : R.length + S.length ≤ 1000000 := by omega
  have hc2 : r + (l + r2) ≤ 1000000 := by omega
  clear hp40 hx0 hx1 hx2 hxf0 hxf1 hxf2 hxs hm0 hm1 hm2 hmf0 hmf1 hmf2 hms
  go_region_held3 (fun w' => w'.cell? ⟨w.heap.size, 0, none⟩ = some (.int .i64 p) ∧ w'.cell? ⟨w.heap.size + 1, 0, none⟩ = some (.int .i64 l) ∧ w'.cell? ⟨w.heap.size + 1 + 1, 1, none⟩ = some (.int .i64 r2) ∧ Hid (Stp W4 w'))
    (exact HELD.out _ (by first | assumption | (refine Lib.hid ?_; repeat' (first | exact Stp.refl _ | exact Hid.out (by assumption) | apply Stp.drew | apply Stp.alloc))))
    (first
      | (go_at_call 40; go_split_ands; refine (HCC.out hnn).mono ?_; rintro e w5 ⟨v5, rfl, b5, o5⟩; have HB5 : Hid (Below W4.heap.size W4 w5) := Lib.hid (HBA.out.trans (b5.mono HBA.out.size)); have HS5 : Hid (Stp W4 w5) := Lib.hid HB5.out; have HO5 := Lib.hid (show RdG w5 w5.heap.size _ (cmpX p l r r2 R S) from o5); have hs5 : W4.heap.size ≤ w5.heap.size := HB5.out.size; clear b5 o5)
      | (go_at_call 39; go_split_ands; rw [HC2.out]; refine (reducedList_any w5 w5.heap.size _ p (R.length + S.length) (r + (l + r2)) (cmpX p l r r2 R S) HO5.out (Nat.le_refl _) HF.out HMA.out hn2 hc2).mono ?_; rintro e w6 ⟨v6, rfl, b6, o6⟩; obtain ⟨A6, c6, rfl⟩ := OwG.len o6; have HB6 : Hid (Below W4.heap.size W4 w6) := Lib.hid (HB5.out.trans (b6.mono hs5)); have HS6 : Hid (Stp W4 w6) := Lib.hid HB6.out; have HO6 := Lib.hid (OwG.mono (T := fun q => W4.heap.size ≤ q ∧ q < w6.heap.size) o6 (fun q hq hl => ⟨Nat.le_trans hs5 hq, hl⟩)); clear b6 o6))
  have HRED := Lib.hid (rref_red HF.out HMA.out)
  have HB46 := HB6
  have HC6 := Lib.hid (HC4.out.below HB6.out (by omega))
  have HY6 := Lib.hid (HY4.out.below HB6.out (by omega))
  have HBE := Lib.hid (HB4.out.trans (HB6.out.mono HB4.out.size))
  have hs6 : W4.heap.size ≤ w6.heap.size := HB6.out.size
  have HQN := Lib.hid (show (rref p (cmpX p l r r2 R S) (r + (l + r2))).length ≤ 2000 by have h1 := HRED.out.mat.1; have h2 := (rr_inv HF.out HMA.out (Nat.le_refl _)).rank; omega)
  have HQV := Lib.hid (fun i (hi : i < (rref p (cmpX p l r r2 R S) (r + (l + r2))).length) => (show lead0 ((rref p (cmpX p l r r2 R S) (r + (l + r2))).getD i []) < ((rref p (cmpX p l r r2 R S) (r + (l + r2))).getD i []).length ∧ ((rref p (cmpX p l r r2 R S) (r + (l + r2))).getD i []).length = r + (l + r2) from by
    have h1 := HRED.out.mat.1
    have h2 := HRED.out.lt i (by omega)
    have h3 := (HRED.out.mat.row (r := i) (by omega)).1
    exact ⟨by omega, h3⟩))
  clear HRED HO5 HB5 HCC HS1 HA1 HBA HC HELD HS5 HS6 HB6 hnn HMA HLA HLB HLN HLM
  generalize hQe : (rref p (cmpX p l r r2 R S) (r + (l + r2))) = Q at HO6 HQN HQV ⊢
  have HQE := Lib.hid hQe
  clear hQe
  obtain ⟨A6', c6', e6, kc6, h6⟩ := HO6.out
  obtain ⟨rfl, -, rfl⟩ := sliceEq e6
  have hqn := HQN.out
  have h24i : (r : Int) + ((l : Int) + (r2 : Int)) ≤ 1000 := by omega
  rcases h6 with rfl | ⟨g6, vsQ, rfl, hG6⟩
  · obtain ⟨hn0, hn1, hn2', hnf0, hnf1, hnf2, hns⟩ := HC6.out.three
    obtain ⟨hy0, hy1, hy2, hyf0, hyf1, hyf2, hys⟩ := HY6.out.three
    go_wp2
    refine wp_loop_rounds 1 ?_
    rw [rounds_succ]
    go_wp2
    refine bodyPost_ret (v := .agg #[.int .i64 l, .int .i64 r2, .slice none 0 0]) (by simp [results, Tryd.results17, go_sem, hy0, hy1, hy2]) rfl ?_
    rw [HQE.out]
    refine ⟨_, rfl, (by refine Below.trans HBE.out ?_; repeat' (first | exact Below.refl _ _ | apply Below.drew | apply Below.setCell | apply Below.alloc | (simp; done) | omega | (simp; omega))), ?_⟩
    exact ⟨none, 0, rfl, Nat.le_refl 0, Or.inl rfl⟩
  · have HG6 := Lib.hid hG6
    have HGS := Lib.hid (show ∀ k, (W4.heap.size ≤ k ∧ k < w6.heap.size) → k < w6.heap.size from fun k h => h.2)
    clear hG6 HO6 e6
    go_wp2
    go_loopw [42, 12] (fun ti _ wr => ∃ (i : Nat) (A7 : Option Addr) (n7 c7 : Nat), i ≤ Q.length ∧ ti = .int .i64 i ∧ Hid (n7 = (selQ r Q i).length) ∧ Hid (Touch (fun q => q = W3.heap.size) w6 wr) ∧ Hid (CellsAt wr W3.heap.size tRl [.int .i64 l, .int .i64 r2, .slice A7 n7 c7]) ∧ Hid (wr.ownsRow w6.heap.size tR 1 (.slice A7 n7 c7) n7 ((selQ r Q i).map fun k => pieceV r (vsQ.getD k .nilFunc)))) (fun ti _ _ => Q.length - (intOf ti).toNat)
    case atStart => exact ⟨0, none, 0, 0, Nat.zero_le _, rfl, Lib.hid rfl, Lib.hid (Touch.refl _ _), HC6, Lib.hid (World.ownsRow_nil _ _ _ _)⟩
    case round =>
      obtain ⟨i, A7, n7, c7, hi, rfl, HN7, HT7, HC7, HW7⟩ := hrel
      by_cases hlt : i < Q.length
      · have HG7 := Lib.hid (HG6.out.blocks (w' := wr) fun k hk hl => HT7.out.block k hl (by omega))
        have hc7 := HG7.out.cell hlt
        have HR7 := Lib.hid (HG7.out.row i hlt)
        have hrd := HR7.out.readB
        obtain ⟨hq1', hq2'⟩ := HQV.out i hlt
        have hq3' : (Q.getD i []).length ≤ 1000 := by omega
        clear hq2'
        have HRD := Lib.hid hrd
        have HSY := Lib.hid (fun h => selQ_yes (m := r) (Q := Q) (i := i) h)
        have HSN := Lib.hid (fun h => selQ_no (m := r) (Q := Q) (i := i) h)
        have hs7 : w6.heap.size ≤ wr.heap.size := HT7.out.size
        clear hrd
        generalize hy : Q.getD i [] = xi at HRD HR7 HSY HSN hq1' hq3'
        generalize hu : vsQ.getD i Value.nilFunc = u at hc7 HR7 HRD
        have HU := Lib.hid hu
        clear hy hu
        go_wp2_with fail
        refine (leadIdx_any wr _ u xi HRD.out (by omega)).mono ?_
        rintro e w' ⟨rfl, rfl⟩
        rw [leadI_pos hq1']
        by_cases hge : r ≤ lead0 xi
        · have HNX := Lib.hid (HSY.out hge)
          have hgeI : (r : Int) ≤ (lead0 xi : Int) := by omega
          rcases HR7.out.cases with ⟨h0, _⟩ | ⟨b9, c9, rfl, hs9, ⟨_, hc9⟩, hcells9⟩
          · rw [h0] at hq1'
            exact absurd hq1' (Nat.not_lt_zero _)
          · have hlc : (r : Int) ≤ (xi.length : Int) := by omega
            have hlc2 : (xi.length : Int) ≤ (c9 : Int) := by omega
            have hcf : (c9 = r) = False := by simp; omega
            have HC7' := HC7
            obtain ⟨hn0, hn1, hn2', hnf0, hnf1, hnf2, hns⟩ := HC7.out.three
            have hS0 : wr.drew.cell? ⟨W3.heap.size, 2, none⟩ = some (.slice A7 n7 c7) := hn2'
            have hS1 : ∀ o, (wr.alloc o).drew.cell? ⟨W3.heap.size, 2, none⟩ = some (.slice A7 n7 c7) := fun o => ((HC7.out.alloc o).drew.cell (i := 2) (by simp)).trans (by simp)
            have HWc := Lib.hid (show (wr.alloc (.cells #[(.slice (some ⟨b9, r, none⟩) (xi.length - r) (c9 - r))] tR)).drew.ownsRow w6.heap.size tR 1 (.slice A7 n7 c7) n7 ((selQ r Q i).map fun k => pieceV r (vsQ.getD k .nilFunc)) from ownsRow_of_block HW7.out fun g _ hl => blk_alloc_lt _ _ _ hl)
            have hvn : ((selQ r Q i).map fun k => pieceV r (vsQ.getD k .nilFunc)).length = n7 := by rw [List.length_map]; exact HN7.out.symm
            have hn7 : n7 + 1 ≤ 1000000 := by have h1 := selQ_len r Q i; have h2 := HN7.out; omega
            have HX8 := Lib.hid (show (wr.alloc (.cells #[(.slice (some ⟨b9, r, none⟩) (xi.length - r) (c9 - r))] tR)).drew.cell? ⟨wr.heap.size, 0, none⟩ = some (.slice (some ⟨b9, r, none⟩) (xi.length - r) (c9 - r)) from ((cellsAt_new wr #[(.slice (some ⟨b9, r, none⟩) (xi.length - r) (c9 - r))] tR).drew.cell (i := 0) (by simp)).trans (by simp))
            have HB78 := Lib.hid (show Below wr.heap.size wr (wr.alloc (.cells #[(.slice (some ⟨b9, r, none⟩) (xi.length - r) (c9 - r))] tR)).drew from ((Below.refl _ _).alloc (Nat.le_refl _) _).drew)
            have hb8 : w6.heap.size ≤ (wr.alloc (.cells #[(.slice (some ⟨b9, r, none⟩) (xi.length - r) (c9 - r))] tR)).drew.heap.size := Nat.le_trans hs7 HB78.out.size
            clear hs9 hcells9
            go_wp2
            go_region_law
              (first
                | (refine step_pushV (by rfl) (.tmp 51) (.tmp 55) (by rfl) (wr.alloc (.cells #[(.slice (some ⟨b9, r, none⟩) (xi.length - r) (c9 - r))] tR)).drew w6.heap.size n7 _ _ wr.heap.size 1 _ _ _ (by rfl) HWc.out hvn (by rfl) HX8.out hb8 hn7 ?_; intro g8 cap8 w8 hown8 hb9; have HW8 := Lib.hid hown8; have HB9 : Hid (Below w6.heap.size wr w8) := Lib.hid ((HB78.out.mono hs7).trans hb9); have HC8 := Lib.hid (HC7'.out.below HB9.out (by omega)); obtain ⟨hm0, hm1, hm2, hmf0, hmf1, hmf2, hms⟩ := HC8.out.three; have hS8 : w8.cell? ⟨W3.heap.size, 2, none⟩ = some (.slice A7 n7 c7) := hm2; have hS9 : ∀ u, (w8.setCell ⟨W3.heap.size, 2, none⟩ u).cell? ⟨W3.heap.size, 2, none⟩ = some u := fun u => ((HC8.out.set 2 u).cell (i := 2) (by simp)).trans (by simp); clear hown8 hb9))
            all_goals (try go_wp2)
            all_goals go_roundw
            all_goals first
              | exact ⟨i + 1, some ⟨g8, 0, none⟩, n7 + 1, cap8, by omega, by go_num, Lib.hid (by rw [HNX.out, List.length_append, ← HN7.out]; rfl), Lib.hid (Touch.setCell (S := fun q => q = W3.heap.size) ⟨HB9.out.os.trans HT7.out.os, HB9.out.tape.trans HT7.out.tape, HB9.out.output.trans HT7.out.output, Nat.le_trans HT7.out.size HB9.out.size, fun k hk hs => (HB9.out.block k hk).trans (HT7.out.block k hk hs)⟩ (Or.inl rfl) _), Lib.hid (by have := HC8.out.set 2 (.slice (some ⟨g8, 0, none⟩) (n7 + 1) cap8); simpa using this), Lib.hid (by
                  rw [HNX.out, List.map_append, List.map_cons, List.map_nil, HU.out, show pieceV r (.slice (some ⟨b9, 0, none⟩) xi.length c9) = (.slice (some ⟨b9, r, none⟩) (xi.length - r) (c9 - r)) by simp [pieceV]]
                  exact ownsRow_of_block HW8.out fun g hg _ => blk_setCell_other _ _ _ _ (by have := (World.ownsRow.lt HW8.out g hg).1; dsimp only; omega))⟩
              | (simp [intOf]; omega)
        · have HNX := Lib.hid (HSN.out hge)
          have hgeI : (lead0 xi : Int) < (r : Int) := by omega
          go_wp2
          go_roundw
          case rel => exact ⟨i + 1, A7, n7, c7, by omega, by go_num, Lib.hid (by rw [HNX.out]; exact HN7.out), HT7, HC7, Lib.hid (by rw [HNX.out]; exact HW7.out)⟩
          case measure => simp [intOf]; omega
      · obtain ⟨hn0, hn1, hn2', hnf0, hnf1, hnf2, hns⟩ := HC7.out.three
        have HYE := Lib.hid (HY6.out.of_block (HT7.out.block _ (by omega) (by omega)))
        obtain ⟨hy0, hy1, hy2, hyf0, hyf1, hyf2, hys⟩ := HYE.out.three
        have HWE := Lib.hid (show wr.ownsRow w6.heap.size tR 1 (.slice A7 n7 c7) (selQ r Q Q.length).length ((selQ r Q Q.length).map fun k => pieceV r (vsQ.getD k .nilFunc)) from by have h := HW7.out; have e := HN7.out; rw [show i = Q.length by omega] at h e; rw [← e]; exact h)
        go_wp2
        refine bodyPost_ret (v := .agg #[.int .i64 l, .int .i64 r2, .slice A7 n7 c7]) (by simp [results, Tryd.results17, go_sem, hy0, hy1, hy2]) rfl ?_
        rw [HQE.out]
        refine ⟨_, rfl, (by refine Below.trans (HBE.out.trans (HT7.out.below (by omega) (fun k e => by omega))) ?_; repeat' (first | exact Below.refl _ _ | apply Below.drew | apply Below.setCell | apply Below.alloc | (simp; done) | omega | (simp; omega))), ?_⟩
        refine OwGP.mono (OwGP.blocks (w := wr) (pieces_own (HG6.out.blocks (w' := wr) fun k hk hl => HT7.out.block k hl (by omega)) HGS.out HWE.out (fun k hk => by have h1 := selQ_mem hk; have h2 := HQV.out k h1.1; omega)) (fun k hk hl => ?_)) (fun k hk hl => by omega)
        repeat rw [blk_setCell_other _ _ _ _ (by dsimp only; omega)]
end Go.Proofs.YtdjgkcnhmfkjoaaDoor
