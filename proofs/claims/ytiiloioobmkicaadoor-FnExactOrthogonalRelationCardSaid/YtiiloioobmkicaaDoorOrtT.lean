/- OrthogonalRelation: both sides. -/
import Derived.Test.YtiiloioobmkicaaDoorOrtR
import Derived.Test.YtiiloioobmkicaaDoorPushG
import Derived.Test.YtiiloioobmkicaaDoorLawGB
namespace Go.Proofs.YtiiloioobmkicaaDoor
set_option maxRecDepth 100000
open Go Go.RowKit Go.Deep

def ortL (p l r : Int) (R : List (List Int)) : Int := if isRl p l r R then l else 0
def ortG (p l r : Int) (R : List (List Int)) : Int := if isRl p l r R then r else 0
def ortRR (p l r : Int) (R : List (List Int)) : List (List Int) := if isRl p l r R then nullB p (negs p l.toNat R) (l.toNat + r.toNat) else []
theorem ort_no' {p l r : Int} {R : List (List Int)} (h : isRl p l r R = false) : ortL p l r R = 0 ∧ ortG p l r R = 0 ∧ ortRR p l r R = [] := by simp [ortL, ortG, ortRR, h]
theorem ort_yes' {p : Int} {a b : Nat} {R : List (List Int)} (h : isRl p a b R = true) : ortL p a b R = a ∧ ortG p a b R = b ∧ ortRR p a b R = nullB p (negs p a R) (a + b) := by simp [ortL, ortG, ortRR, h]
/-- The elements from l on, below j, negated. -/
def negS (p : Int) (l j : Nat) (x : List Int) : List Int := x.mapIdx fun i a => if l ≤ i ∧ i < j then (p - a) % p else a
theorem negS_len (p : Int) (l j : Nat) (x : List Int) : (negS p l j x).length = x.length := by simp [negS]
theorem negS_at {p : Int} {l j i : Nat} {x : List Int} (h : i < x.length) : (negS p l j x).getD i 0 = if l ≤ i ∧ i < j then (p - x.getD i 0) % p else x.getD i 0 := by
  unfold negS
  rw [mapIdx_getD _ _ _ h 0]
theorem negS_start (p : Int) (l : Nat) (x : List Int) : negS p l l x = x := by
  refine ext_getD 0 (negS_len _ _ _ _) fun i hi => ?_
  rw [negS_len] at hi
  rw [negS_at hi, if_neg (by omega)]
theorem negS_next {p : Int} {l j : Nat} {x : List Int} (hl : l ≤ j) (h : j < x.length) : (negS p l j x).set j ((p - x.getD j 0) % p) = negS p l (j + 1) x := by
  refine ext_getD 0 (by rw [List.length_set, negS_len, negS_len]) fun i hi => ?_
  rw [List.length_set, negS_len] at hi
  rw [set_getD _ _ _ _ _ (by rw [negS_len]; exact h), negS_at hi, negS_at hi]
  by_cases c : j = i
  · subst c
    rw [if_pos rfl, if_pos (by omega)]
  · rw [if_neg c]
    by_cases c2 : l ≤ i ∧ i < j
    · rw [if_pos c2, if_pos (by omega)]
    · rw [if_neg c2, if_neg (by omega)]
theorem negS_end {p : Int} {l j : Nat} {x : List Int} (h : x.length ≤ j) : negS p l j x = neg1 p l x := by
  refine ext_getD 0 (by rw [negS_len, neg1_len]) fun i hi => ?_
  rw [negS_len] at hi
  rw [negS_at hi, neg1_at hi]
  by_cases c : i < l
  · rw [if_pos c, if_neg (by omega)]
  · rw [if_neg c, if_pos (by omega)]
theorem negs_take {p : Int} {l k : Nat} {R : List (List Int)} (h : k < R.length) : negs p l (R.take (k + 1)) = negs p l (R.take k) ++ [neg1 p l (R.getD k [])] := by
  rw [take_one h []]
  unfold negs
  rw [List.map_append]
  rfl
set_option maxRecDepth 100000 in
set_option maxHeartbeats 12800000 in
theorem spec_OrthogonalRelation (w : World) (B : Nat) (v : Value) (p l r : Int) (R : List (List Int)) (hbl : Bi l) (_hbr : Bi r) (hv : LfG w B v R) (hB : B ≤ w.heap.size) (_hs : szG R ≤ 1048576) :
    Calls Tryd.prog 9 #[.int .i64 p, .agg #[.int .i64 l, .int .i64 r, v]] w (SRetRelationB w (ortL p l r R) (ortG p l r R) (ortRR p l r R) (isRl p l r R)) := by
  obtain ⟨A, cp, rfl⟩ := hv.len
  cases hs : isRl p l r R with
  | false =>
    have HOK := Lib.hid hs
    clear hs
    have HVB := Lib.hid (show Below w.heap.size w ((w.alloc (.cells #[.int .i64 l, .int .i64 r, .slice A R.length cp] tRl)).alloc (.cells #[.int .i64 0, .int .i64 0, .slice none 0 0] tRl)) by repeat' (first | exact Below.refl _ _ | apply Below.alloc | (simp; done) | (simp; omega)))
    have HV := Lib.hid (hv.below HVB.out hB)
    have hB0 : B ≤ ((w.alloc (.cells #[.int .i64 l, .int .i64 r, .slice A R.length cp] tRl)).alloc (.cells #[.int .i64 0, .int .i64 0, .slice none 0 0] tRl)).heap.size := Nat.le_trans hB HVB.out.size
    have HX0 := Lib.hid ((cellsAt_new w #[.int .i64 l, .int .i64 r, .slice A R.length cp] tRl).alloc (.cells #[.int .i64 0, .int .i64 0, .slice none 0 0] tRl))
    have HY0 := Lib.hid (cellsAt_new' (w.alloc (.cells #[.int .i64 l, .int .i64 r, .slice A R.length cp] tRl)) #[.int .i64 0, .int .i64 0, .slice none 0 0] tRl _ (w.heap.size + 1) (by simp) rfl)
    have hsz0 : ((w.alloc (.cells #[.int .i64 l, .int .i64 r, .slice A R.length cp] tRl)).alloc (.cells #[.int .i64 0, .int .i64 0, .slice none 0 0] tRl)).heap.size = w.heap.size + 2 := by simp
    clear hv hB hbl
    go_enter Tryd.func9, Tryd.ntmps9
    go_upto_region 1 with fail
    generalize ((w.alloc (.cells #[.int .i64 l, .int .i64 r, .slice A R.length cp] tRl)).alloc (.cells #[.int .i64 0, .int .i64 0, .slice none 0 0] tRl)) = W0 at HVB HV hB0 HX0 HY0 hsz0 ⊢
    have hz0 : w.heap.size + 2 ≤ W0.heap.size := by omega
    clear hsz0
    obtain ⟨hx0, hx1, hx2, hxf0, hxf1, hxf2, hxs⟩ := HX0.out.three
    go_wp2_with fail
    refine (rlGood_any W0 B _ p l r R HV.out hB0).mono ?_
    rintro e w1 ⟨rfl, b1⟩
    rw [HOK.out]
    have HX1 := Lib.hid (HX0.out.below b1 hxs)
    have HY1 := Lib.hid (HY0.out.below b1 (by omega))
    have HV1 := Lib.hid (HV.out.below b1 hB0)
    have HB1 := Lib.hid (HVB.out.trans (b1.mono HVB.out.size))
    have hs1 : W0.heap.size ≤ w1.heap.size := b1.size
    have hB1 : B ≤ w1.heap.size := Nat.le_trans hB0 hs1
    clear b1 hx0 hx1 hx2 hxf0 hxf1 hxf2 hxs
    obtain ⟨hy0, hy1, hy2, hyf0, hyf1, hyf2, hys⟩ := HY1.out.three
    go_wp2
    refine bodyPost_ret (v := .tuple #[.agg #[.int .i64 0, .int .i64 0, .slice none 0 0], .bool false]) (by simp [results, Tryd.results9, go_sem, hy0, hy1, hy2]) rfl ?_
    rw [(ort_no' HOK.out).1, (ort_no' HOK.out).2.1, (ort_no' HOK.out).2.2]
    exact ⟨_, rfl, (by refine Below.trans HB1.out ?_; repeat' (first | exact Below.refl _ _ | apply Below.drew | apply Below.setCell | apply Below.alloc | (simp; done) | omega | (simp; omega))), ⟨none, 0, rfl, Nat.le_refl 0, Or.inl rfl⟩, by simp [szG, tot]⟩
  | true =>
    obtain ⟨hf, a, b, rfl, rfl, hab, hln, hred⟩ := isRl_parts hs
    have HOK := Lib.hid hs
    have HF := Lib.hid hf
    have HRM := Lib.hid hred.mat
    have HSZ := Lib.hid (nullB_sz hf (negs p a R) hab)
    clear hs hf hred
    have HVB := Lib.hid (show Below w.heap.size w ((w.alloc (.cells #[.int .i64 a, .int .i64 b, .slice A R.length cp] tRl)).alloc (.cells #[.int .i64 0, .int .i64 0, .slice none 0 0] tRl)) by repeat' (first | exact Below.refl _ _ | apply Below.alloc | (simp; done) | (simp; omega)))
    have HV := Lib.hid (hv.below HVB.out hB)
    have hB0 : B ≤ ((w.alloc (.cells #[.int .i64 a, .int .i64 b, .slice A R.length cp] tRl)).alloc (.cells #[.int .i64 0, .int .i64 0, .slice none 0 0] tRl)).heap.size := Nat.le_trans hB HVB.out.size
    have HX0 := Lib.hid ((cellsAt_new w #[.int .i64 a, .int .i64 b, .slice A R.length cp] tRl).alloc (.cells #[.int .i64 0, .int .i64 0, .slice none 0 0] tRl))
    have HY0 := Lib.hid (cellsAt_new' (w.alloc (.cells #[.int .i64 a, .int .i64 b, .slice A R.length cp] tRl)) #[.int .i64 0, .int .i64 0, .slice none 0 0] tRl _ (w.heap.size + 1) (by simp) rfl)
    have hsz0 : ((w.alloc (.cells #[.int .i64 a, .int .i64 b, .slice A R.length cp] tRl)).alloc (.cells #[.int .i64 0, .int .i64 0, .slice none 0 0] tRl)).heap.size = w.heap.size + 2 := by simp
    clear hv hB hbl
    go_enter Tryd.func9, Tryd.ntmps9
    go_upto_region 1 with fail
    generalize ((w.alloc (.cells #[.int .i64 a, .int .i64 b, .slice A R.length cp] tRl)).alloc (.cells #[.int .i64 0, .int .i64 0, .slice none 0 0] tRl)) = W0 at HVB HV hB0 HX0 HY0 hsz0 ⊢
    have hz0 : w.heap.size + 2 ≤ W0.heap.size := by omega
    clear hsz0
    obtain ⟨hx0, hx1, hx2, hxf0, hxf1, hxf2, hxs⟩ := HX0.out.three
    go_wp2_with fail
    refine (rlGood_any W0 B _ p a b R HV.out hB0).mono ?_
    rintro e w1 ⟨rfl, b1⟩
    rw [HOK.out]
    have HX1 := Lib.hid (HX0.out.below b1 hxs)
    have HY1 := Lib.hid (HY0.out.below b1 (by omega))
    have HV1 := Lib.hid (HV.out.below b1 hB0)
    have HB1 := Lib.hid (HVB.out.trans (b1.mono HVB.out.size))
    have hs1 : W0.heap.size ≤ w1.heap.size := b1.size
    have hB1 : B ≤ w1.heap.size := Nat.le_trans hB0 hs1
    clear b1 hx0 hx1 hx2 hxf0 hxf1 hxf2 hxs
    obtain ⟨hx0, hx1, hx2, hxf0, hxf1, hxf2, hxs⟩ := HX1.out.three
    have hp1 := (fld_bd HF.out).1
    have hp2 := (fld_bd HF.out).2
    go_wp2
    clear hx0 hx1 hx2 hxf0 hxf1 hxf2 hxs
    go_loopw [19, 6, 8, 9, 10] (fun i o _ _ _ wr => ∃ (k : Nat) (vs : List Value), k ≤ R.length ∧ i = .int .i64 k ∧ Hid (Below w1.heap.size w1 wr) ∧ Hid (GridB wr w1.heap.size o vs (negs p a (R.take k)))) (fun i _ _ _ _ _ => R.length - (intOf i).toNat)
    case atStart => exact ⟨0, [], Nat.zero_le _, rfl, Lib.hid (Below.refl _ _), Lib.hid (GridB.nil _ _)⟩
    case round =>
      obtain ⟨k, vs, hk, rfl, HB2, HG⟩ := hrel
      by_cases hlt : k < R.length
      · obtain ⟨b1, o1, A3, c3, rfl, hb1, hc1, hrd⟩ := (HV1.out.1.below HB2.out hB1).at hlt
        have HRD := Lib.hid hrd
        have HVX := Lib.hid (show Vec p (a + b) (R.getD k []) from HRM.out.row hlt)
        have HNX := Lib.hid (negs_take (p := p) (l := a) hlt)
        have hpn : (negs p a (R.take k)).length + 1 ≤ 1000000 := by rw [negs_len, List.length_take]; omega
        have hkI : (k : Int) < (R.length : Int) := by omega
        have hBr : B ≤ wr.heap.size := Nat.le_trans hB1 HB2.out.size
        have hBW : w1.heap.size ≤ wr.heap.size := HB2.out.size
        clear hrd hb1
        generalize R.getD k [] = xr at hc1 HRD HNX HVX
        have hxl : xr.length = a + b := HVX.out.1
        have hx24 : xr.length ≤ 24 := by omega
        have hax : a ≤ xr.length := by omega
        clear hxl
        generalize negs p a (R.take k) = ps at HG HNX hpn
        go_wp2_with fail
        refine (l1Own_app wr B _ xr HRD.out hBr (by omega)).mono ?_
        rintro e w2 ⟨v2, rfl, b2, o2⟩
        have hrd2 := o2.read
        obtain ⟨A9, c9, hv9, -, -⟩ := hrd2
        subst hv9
        have hn9 : (xr.length : Int) = (xr.length : Int) := rfl
        clear hn9
        have HB3 := Lib.hid (HB2.out.trans (b2.mono hBW))
        have HB23 := Lib.hid b2
        have HO2 := Lib.hid (show RowA w2 wr.heap.size (.slice A9 xr.length c9) (negS p a a xr) from by rw [negS_start]; exact o2)
        have hx0 := (HX1.out.below HB3.out (by have := HX1.out.lt; omega)).three.1
        clear b2 o2
        generalize hN9 : xr.length = n9 at HO2 hx24 hax hc1
        have HN9 := Lib.hid hN9
        clear hN9
        go_wp2
        clear hx0
        obtain ⟨wo, rfl⟩ : ∃ wo, wo = wr := ⟨wr, rfl⟩
        go_loopw [10] (fun j wr => ∃ q : Nat, a ≤ q ∧ q ≤ n9 ∧ j = .int .i64 q ∧ Hid (Below wo.heap.size wo wr) ∧ Hid (RowA wr wo.heap.size (.slice A9 n9 c9) (negS p a q xr))) (fun j _ => n9 - (intOf j).toNat)
        case atStart => exact ⟨a, Nat.le_refl _, hax, rfl, HB23, HO2⟩
        case round =>
          obtain ⟨q, hq1, hq2, rfl, HB4, HO4⟩ := hrel
          by_cases hqn : q < n9
          · have hql : q < xr.length := by have := HN9.out; omega
            have HSN := Lib.hid (negS_next (p := p) hq1 hql)
            have HLN := Lib.hid (show n9 = (negS p a q xr).length by rw [negS_len]; exact HN9.out.symm)
            have hel := HVX.out.el (show q < a + b by have := HVX.out.1; omega)
            have hel0 := hel.1
            have hel1 := hel.2
            clear hel
            obtain ⟨g, rfl, hgb, hgl⟩ : ∃ g, A9 = some ⟨g, 0, none⟩ ∧ wo.heap.size ≤ g ∧ g < wr.heap.size := by
              rcases OwI.cases HO4.out with ⟨-, h0⟩ | ⟨g, cap, e, h1, h2⟩
              · have := HLN.out
                rw [h0] at this
                simp at this
                omega
              · obtain ⟨e1, -, -⟩ := sliceEq e
                exact ⟨g, e1, h1, h2⟩
            have hcc := OwI.cell HO4.out HLN.out q hqn
            have HST := Lib.hid (OwI.store HO4.out HLN.out q ((p - xr.getD q 0) % p))
            rw [negS_at hql, if_neg (by omega)] at hcc
            rw [HSN.out] at HST
            obtain ⟨hcc0, hcc1⟩ := hcc
            have HB5 := Lib.hid (HB4.out.setCell (p := ⟨g, q, none⟩) hgb (.int .i64 ((p - xr.getD q 0) % p)))
            rw [neg_mod] at HST HB5
            clear HSN HO4 hql
            generalize xr.getD q 0 = y at hel0 hel1 hcc0 HST HB5
            have hqI : (q : Int) < (n9 : Int) := by omega
            go_wp2_with fail
            refine (fdNeg_any p y _ hp1 hp2 hel0 hel1).mono ?_
            rintro e w' ⟨rfl, rfl⟩
            go_wp2
            go_roundw
            case rel => exact ⟨q + 1, by omega, by omega, by go_num, HB5, HST⟩
            case measure => simp [intOf]; omega
          · have HE := Lib.hid (negS_end (p := p) (l := a) (x := xr) (j := q) (by have := HN9.out; omega))
            rw [HE.out] at HO4
            have HA : Hid (Below wr.heap.size wr (wr.alloc (.cells #[.slice A9 n9 c9] 42))) := Lib.hid ((Below.refl _ _).alloc (Nat.le_refl _) _)
            have hs4 : wo.heap.size ≤ wr.heap.size := HB4.out.size
            have HB5 := Lib.hid (HB4.out.trans (HA.out.mono hs4))
            have HG5 := Lib.hid (HG.out.below HB5.out)
            have HU5 := Lib.hid ((RowA.below HO4.out HA.out).own.mono (T := fun q => wo.heap.size ≤ q ∧ q < (wr.alloc (.cells #[.slice A9 n9 c9] 42)).heap.size) (fun q h1 h2 => ⟨h1, h2⟩))
            have HC5 := Lib.hid (show (wr.alloc (.cells #[.slice A9 n9 c9] 42)).cell? ⟨wr.heap.size, 0, none⟩ = some (.slice A9 n9 c9) from by have hc := (cellsAt_new wr #[.slice A9 n9 c9] 42).cell (i := 0) (by simp); rw [hc]; rfl)
            have hs5 : wo.heap.size ≤ (wr.alloc (.cells #[.slice A9 n9 c9] 42)).heap.size := HB5.out.size
            have hqI : (q : Int) = (n9 : Int) := by omega
            have hqI2 : ¬ (q : Int) < (n9 : Int) := by omega
            clear hqI
            go_wp2_with (at_builtin; refine wpList_pushG (by rfl) (.tmp 42) (.tmp 44) (by rfl) _ w1.heap.size wo.heap.size _ vs ps wr.heap.size 1 A9 n9 c9 (neg1 p a xr) (by rfl) HG5.out (by rfl) HC5.out HU5.out hBW hs5 hpn ?_; intro v6 vs6 w6 hg6 hb6; have HB6 := Lib.hid (HB2.out.trans ((HB5.out.mono hBW).trans hb6)); have HG6 := Lib.hid hg6; clear hg6 hb6)
            go_wp2
            go_roundw
            case rel => exact ⟨k + 1, vs6, by omega, by go_num, HB6, Lib.hid (by rw [HNX.out]; exact HG6.out)⟩
            case measure => simp [intOf]; omega
      · have HK := Lib.hid (show R.take k = R from List.take_of_length_le (by omega))
        rw [HK.out] at HG
        have HRG := Lib.hid (OwG.readB HG.out.own)
        have hB2 : w1.heap.size ≤ wr.heap.size := HB2.out.size
        have hxq := HX1.out.lt
        have hx := (HX1.out.below HB2.out hxq).three
        have HELD : Hid (∀ w' : World, w'.heap[w.heap.size]? = wr.heap[w.heap.size]? → w'.cell? ⟨w.heap.size, 0, none⟩ = some (.int .i64 a) ∧ w'.cell? ⟨w.heap.size, 1, none⟩ = some (.int .i64 b)) := Lib.hid (fun w' H => ⟨(World.cell?_of_block (w := wr) H).trans hx.1, (World.cell?_of_block (w := wr) H).trans hx.2.1⟩)
        have HQ0 : Hid (wr.drew.heap[w.heap.size]? = wr.heap[w.heap.size]?) := Lib.hid rfl
        have HRG2 := Lib.hid (show RdG wr.drew wr.drew.heap.size _ (negs p a R) from HRG.out)
        have hxl : w.heap.size < wr.heap.size := by omega
        have hab0 : (0 : Int) ≤ (a : Int) + b := by omega
        have hab1 : (a : Int) + b ≤ 24 := by omega
        have HC := Lib.hid (show ((a : Int) + b) = ((a + b : Nat) : Int) by omega)
        have hw1 : IntKind.i64.wrap ((a : Int) + (b : Int)) = (a : Int) + (b : Int) := Go.IntWalk.i64_in _ ⟨by omega, by omega⟩
        clear hx
        go_wp2
        go_region_held3 (fun w' => w'.cell? ⟨w.heap.size, 0, none⟩ = some (.int .i64 a) ∧ w'.cell? ⟨w.heap.size, 1, none⟩ = some (.int .i64 b))
          (first | with_reducible exact HELD.out _ HQ0.out | with_reducible exact HELD.out _ HQ4.out | exact HELD.out _ (((blk_setCell_other _ _ _ _ (by dsimp only; omega)).trans ((blk_setCell_other _ _ _ _ (by dsimp only; omega)).trans (blk_setCell_other _ _ _ _ (by dsimp only; omega)))).trans HQ4.out))
          (first
            | (go_at_call 36; go_split_ands; rw [HC.out]; refine (spNull_any wr.drew wr.drew.heap.size _ p R.length (a + b) (negs p a R) HRG2.out (Nat.le_refl _) HF.out (negs_mat hp1 HRM.out) (by omega) (by omega)).mono ?_; rintro e w4 ⟨v4, rfl, b4, o4⟩; obtain ⟨A4, c4, rfl⟩ := OwG.len o4; have HB4' : Hid (Below wr.heap.size wr w4) := Lib.hid ((Below.refl _ _).drew.trans b4); have HB4 : Hid (Below w1.heap.size w1 w4) := Lib.hid (HB2.out.trans (HB4'.out.mono hB2)); have HQ4 : Hid (w4.heap[w.heap.size]? = wr.heap[w.heap.size]?) := Lib.hid (HB4'.out.block _ hxl); have HO4 := Lib.hid (OwG.mono (T := fun q => w1.heap.size ≤ q) o4 (fun q hq _ => Nat.le_trans hB2 hq)); have HY4 := Lib.hid (HY1.out.below HB4.out (by omega)); obtain ⟨hy0, hy1, hy2, hyf0, hyf1, hyf2, hys⟩ := HY4.out.three; clear b4 o4))
        have HBE := Lib.hid (HB1.out.trans (HB4.out.mono HB1.out.size))
        go_wp2
        refine bodyPost_ret (v := .tuple #[.agg #[.int .i64 a, .int .i64 b, .slice A4 (nullB p (negs p a R) (a + b)).length c4], .bool true]) (by simp [results, Tryd.results9, go_sem, hy0, hy1, hy2]) rfl ?_
        rw [(ort_yes' HOK.out).1, (ort_yes' HOK.out).2.1, (ort_yes' HOK.out).2.2]
        refine ⟨_, rfl, (by refine Below.trans HBE.out ?_; repeat' (first | exact Below.refl _ _ | apply Below.drew | apply Below.setCell | apply Below.alloc | (simp; done) | omega | (simp; omega))), (HO4.out.blocks (fun q hq _ => ?_)).mono (fun q hq _ => by omega), HSZ.out⟩
        repeat rw [blk_setCell_other _ _ _ _ (by dsimp only; omega)]
set_option maxRecDepth 100000 in
set_option maxHeartbeats 3200000 in
theorem impl_OrthogonalRelation (w : World) (B : Nat) (v : Value) (p l r : Int) (R : List (List Int)) (hbl : Bi l) (_hbr : Bi r) (ht : Tab w) (hv : LfG w B v R) (hB : B ≤ w.heap.size) (_hs : szG R ≤ 1048576) :
    Calls Tryd.prog 11 #[.int .i64 p, .agg #[.int .i64 l, .int .i64 r, v]] w (IRetRelationB w (ortL p l r R) (ortG p l r R) (ortRR p l r R) (isRl p l r R)) := by
  obtain ⟨A, cp, rfl⟩ := hv.len
  cases hs : isRl p l r R with
  | false =>
    have HOK := Lib.hid hs
    clear hs
    have HVB := Lib.hid (show Below w.heap.size w ((w.alloc (.cells #[.int .i64 l, .int .i64 r, .slice A R.length cp] tRl)).alloc (.cells #[.int .i64 0, .int .i64 0, .slice none 0 0] tRl)) by repeat' (first | exact Below.refl _ _ | apply Below.alloc | (simp; done) | (simp; omega)))
    have HV := Lib.hid (hv.below HVB.out hB)
    have hB0 : B ≤ ((w.alloc (.cells #[.int .i64 l, .int .i64 r, .slice A R.length cp] tRl)).alloc (.cells #[.int .i64 0, .int .i64 0, .slice none 0 0] tRl)).heap.size := Nat.le_trans hB HVB.out.size
    have HX0 := Lib.hid ((cellsAt_new w #[.int .i64 l, .int .i64 r, .slice A R.length cp] tRl).alloc (.cells #[.int .i64 0, .int .i64 0, .slice none 0 0] tRl))
    have HY0 := Lib.hid (cellsAt_new' (w.alloc (.cells #[.int .i64 l, .int .i64 r, .slice A R.length cp] tRl)) #[.int .i64 0, .int .i64 0, .slice none 0 0] tRl _ (w.heap.size + 1) (by simp) rfl)
    have hsz0 : ((w.alloc (.cells #[.int .i64 l, .int .i64 r, .slice A R.length cp] tRl)).alloc (.cells #[.int .i64 0, .int .i64 0, .slice none 0 0] tRl)).heap.size = w.heap.size + 2 := by simp
    have HT := Lib.hid (ht.below HVB.out)
    have HBL := Lib.hid hbl.2
    clear hv hB hbl ht
    go_enter Tryd.func11, Tryd.ntmps11
    go_upto_region 1 with fail
    generalize ((w.alloc (.cells #[.int .i64 l, .int .i64 r, .slice A R.length cp] tRl)).alloc (.cells #[.int .i64 0, .int .i64 0, .slice none 0 0] tRl)) = W0 at HVB HV hB0 HX0 HY0 HT hsz0 ⊢
    have hz0 : w.heap.size + 2 ≤ W0.heap.size := by omega
    clear hsz0
    obtain ⟨hx0, hx1, hx2, hxf0, hxf1, hxf2, hxs⟩ := HX0.out.three
    go_wp2_with fail
    refine (implIsRelation_any W0 B _ p l r R HT.out HV.out hB0 HBL.out).mono ?_
    rintro e w1 ⟨rfl, b1⟩
    rw [HOK.out]
    have HX1 := Lib.hid (HX0.out.below b1 hxs)
    have HY1 := Lib.hid (HY0.out.below b1 (by omega))
    have HV1 := Lib.hid (HV.out.below b1 hB0)
    have HB1 := Lib.hid (HVB.out.trans (b1.mono HVB.out.size))
    have hs1 : W0.heap.size ≤ w1.heap.size := b1.size
    have hB1 : B ≤ w1.heap.size := Nat.le_trans hB0 hs1
    clear b1 hx0 hx1 hx2 hxf0 hxf1 hxf2 hxs
    obtain ⟨hy0, hy1, hy2, hyf0, hyf1, hyf2, hys⟩ := HY1.out.three
    go_wp2
    refine bodyPost_ret (v := .tuple #[.agg #[.int .i64 0, .int .i64 0, .slice none 0 0], .bool false]) (by simp [results, Tryd.results11, go_sem, hy0, hy1, hy2]) rfl ?_
    rw [(ort_no' HOK.out).1, (ort_no' HOK.out).2.1, (ort_no' HOK.out).2.2]
    exact ⟨_, rfl, (by refine Below.trans HB1.out ?_; repeat' (first | exact Below.refl _ _ | apply Below.drew | apply Below.setCell | apply Below.alloc | (simp; done) | omega | (simp; omega))), ⟨none, 0, rfl, Nat.le_refl 0, Or.inl rfl⟩, by simp [szG, tot]⟩
  | true =>
    obtain ⟨hf, a, b, rfl, rfl, hab, hln, hred⟩ := isRl_parts hs
    have HOK := Lib.hid hs
    have HF := Lib.hid hf
    have HRM := Lib.hid hred.mat
    have HSZ := Lib.hid (nullB_sz hf (negs p a R) hab)
    have HRR := Lib.hid hred
    clear hs hf hred
    have HVB := Lib.hid (show Below w.heap.size w ((w.alloc (.cells #[.int .i64 a, .int .i64 b, .slice A R.length cp] tRl)).alloc (.cells #[.int .i64 0, .int .i64 0, .slice none 0 0] tRl)) by repeat' (first | exact Below.refl _ _ | apply Below.alloc | (simp; done) | (simp; omega)))
    have HV := Lib.hid (hv.below HVB.out hB)
    have hB0 : B ≤ ((w.alloc (.cells #[.int .i64 a, .int .i64 b, .slice A R.length cp] tRl)).alloc (.cells #[.int .i64 0, .int .i64 0, .slice none 0 0] tRl)).heap.size := Nat.le_trans hB HVB.out.size
    have HX0 := Lib.hid ((cellsAt_new w #[.int .i64 a, .int .i64 b, .slice A R.length cp] tRl).alloc (.cells #[.int .i64 0, .int .i64 0, .slice none 0 0] tRl))
    have HY0 := Lib.hid (cellsAt_new' (w.alloc (.cells #[.int .i64 a, .int .i64 b, .slice A R.length cp] tRl)) #[.int .i64 0, .int .i64 0, .slice none 0 0] tRl _ (w.heap.size + 1) (by simp) rfl)
    have hsz0 : ((w.alloc (.cells #[.int .i64 a, .int .i64 b, .slice A R.length cp] tRl)).alloc (.cells #[.int .i64 0, .int .i64 0, .slice none 0 0] tRl)).heap.size = w.heap.size + 2 := by simp
    have HT := Lib.hid (ht.below HVB.out)
    have HBL := Lib.hid hbl.2
    clear hv hB hbl ht
    go_enter Tryd.func11, Tryd.ntmps11
    go_upto_region 1 with fail
    generalize ((w.alloc (.cells #[.int .i64 a, .int .i64 b, .slice A R.length cp] tRl)).alloc (.cells #[.int .i64 0, .int .i64 0, .slice none 0 0] tRl)) = W0 at HVB HV hB0 HX0 HY0 HT hsz0 ⊢
    have hz0 : w.heap.size + 2 ≤ W0.heap.size := by omega
    clear hsz0
    obtain ⟨hx0, hx1, hx2, hxf0, hxf1, hxf2, hxs⟩ := HX0.out.three
    go_wp2_with fail
    refine (implIsRelation_any W0 B _ p a b R HT.out HV.out hB0 HBL.out).mono ?_
    rintro e w1 ⟨rfl, b1⟩
    rw [HOK.out]
    have HX1 := Lib.hid (HX0.out.below b1 hxs)
    have HY1 := Lib.hid (HY0.out.below b1 (by omega))
    have HV1 := Lib.hid (HV.out.below b1 hB0)
    have HB1 := Lib.hid (HVB.out.trans (b1.mono HVB.out.size))
    have hs1 : W0.heap.size ≤ w1.heap.size := b1.size
    have hB1 : B ≤ w1.heap.size := Nat.le_trans hB0 hs1
    clear b1 hx0 hx1 hx2 hxf0 hxf1 hxf2 hxs
    obtain ⟨hx0, hx1, hx2, hxf0, hxf1, hxf2, hxs⟩ := HX1.out.three
    go_wp2_with fail
    refine (orthRel_any w1 B _ p a b R HV1.out.1 hB1 HF.out HRR.out hab).mono ?_
    rintro e w4 ⟨v4, rfl, b4, o4⟩
    obtain ⟨A4, c4, rfl⟩ := OwG.len o4
    have HB4 := Lib.hid b4
    have HO4 := Lib.hid (OwG.mono (T := fun q => w1.heap.size ≤ q) o4 (fun q hq _ => hq))
    have HY4 := Lib.hid (HY1.out.below HB4.out (by omega))
    clear b4 o4 hx0 hx1 hx2 hxf0 hxf1 hxf2 hxs
    obtain ⟨hy0, hy1, hy2, hyf0, hyf1, hyf2, hys⟩ := HY4.out.three
    have HBE := Lib.hid (HB1.out.trans (HB4.out.mono HB1.out.size))
    go_wp2
    refine bodyPost_ret (v := .tuple #[.agg #[.int .i64 a, .int .i64 b, .slice A4 (nullB p (negs p a R) (a + b)).length c4], .bool true]) (by simp [results, Tryd.results11, go_sem, hy0, hy1, hy2]) rfl ?_
    rw [(ort_yes' HOK.out).1, (ort_yes' HOK.out).2.1, (ort_yes' HOK.out).2.2]
    refine ⟨_, rfl, (by refine Below.trans HBE.out ?_; repeat' (first | exact Below.refl _ _ | apply Below.drew | apply Below.setCell | apply Below.alloc | (simp; done) | omega | (simp; omega))), (HO4.out.blocks (fun q hq _ => ?_)).mono (fun q hq _ => by omega), HSZ.out⟩
    repeat rw [blk_setCell_other _ _ _ _ (by dsimp only; omega)]
end Go.Proofs.YtiiloioobmkicaaDoor
