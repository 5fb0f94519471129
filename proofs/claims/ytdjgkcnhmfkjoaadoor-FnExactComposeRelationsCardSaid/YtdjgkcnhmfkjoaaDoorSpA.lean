/- SpRow SpHelp SpSpan in one text. -/
import Derived.Test.YtdjgkcnhmfkjoaaDoorMem
import Derived.Test.YtdjgkcnhmfkjoaaDoorMath
import Derived.Test.YtdjgkcnhmfkjoaaDoorMxB
import Derived.StillTailTactics
import Derived.Test.YtdjgkcnhmfkjoaaDoorRdA
import Derived.Deep.RegionLaw
import Derived.Deep.CutRange
/-! The model's operations on rows, and its copy of a matrix. -/
namespace Go.Proofs.YtdjgkcnhmfkjoaaDoor
set_option maxRecDepth 100000
open Go Go.RowKit Go.Deep

theorem fdSub_any (p a b : Int) (w : World) (h1 : 2 ≤ p) (h2 : p ≤ 97) (a1 : 0 ≤ a) (a2 : a < p) (b1 : 0 ≤ b) (b2 : b < p) : Calls Tryd.prog 64 #[.int .i64 p, .int .i64 a, .int .i64 b] w fun e w' => e = .returned (.int .i64 ((a + p - b) % p)) ∧ w = w' := by
  have HE := Lib.hid (show (a - b) % p = (a + p - b) % p by rw [show a + p - b = a - b + p by omega, Int.add_emod_right])
  go_enter Tryd.func64, Tryd.ntmps64
  go_wp2
  go_ret
  exact ⟨by first | rfl | rw [HE.out], rfl⟩
theorem fdNeg_any (p a : Int) (w : World) (h1 : 2 ≤ p) (h2 : p ≤ 97) (a1 : 0 ≤ a) (a2 : a < p) : Calls Tryd.prog 24 #[.int .i64 p, .int .i64 a] w fun e w' => e = .returned (.int .i64 ((p - a) % p)) ∧ w = w' := by
  have HE := Lib.hid (show -a % p = (p - a) % p by rw [show p - a = -a + p by omega, Int.add_emod_right])
  go_enter Tryd.func24, Tryd.ntmps24
  go_wp2
  go_ret
  exact ⟨by first | rfl | rw [HE.out], rfl⟩
theorem less_eq {p k x y : Int} (hk0 : 0 < k) (hk1 : k < p) : (x + p - k * y % p) % p = (x + (p - k) % p * y) % p := by
  obtain ⟨q, hq⟩ := div_mod p (k * y)
  rw [Int.emod_eq_of_lt (a := p - k) (by omega) (by omega), hq]
  rw [show x + p - (k * y + p * q) = (x + (p - k) * y) + p * (1 - q - y) by grind, Int.add_mul_emod_self_left]
theorem less_eq2 {p k x y : Int} (hk0 : 0 < k) (hk1 : k < p) : (x + p - k * y) % p = (x + (p - k) % p * y) % p := by
  rw [Int.emod_eq_of_lt (a := p - k) (by omega) (by omega)]
  rw [show x + p - k * y = (x + (p - k) * y) + p * (1 - y) by grind, Int.add_mul_emod_self_left]
end Go.Proofs.YtdjgkcnhmfkjoaaDoor

/-! One row of a grid changed element by element; the first rows of a grid; the room of a grid that grew. -/
namespace Go.Proofs.YtdjgkcnhmfkjoaaDoor
open Go Go.RowKit Go.Deep

/-- Row r with its first k elements changed. -/
def rowS (rows : List (List Int)) (r : Nat) (g : Nat → Int → Int) (k : Nat) : List (List Int) := rows.set r (upd g k (rows.getD r []))
section
variable {rows : List (List Int)} {r k : Nat} {g : Nat → Int → Int}
theorem rowS_len : (rowS rows r g k).length = rows.length := by simp [rowS]
theorem rowS_at (h : r < rows.length) : (rowS rows r g k).getD r [] = upd g k (rows.getD r []) := by
  unfold rowS
  rw [set_getD _ _ _ _ _ h, if_pos rfl]
theorem rowS_ne {m : Nat} (h : r < rows.length) (hm : m ≠ r) : (rowS rows r g k).getD m [] = rows.getD m [] := by
  unfold rowS
  rw [set_getD _ _ _ _ _ h, if_neg (fun e => hm e.symm)]
theorem rowS_zero (h : r < rows.length) : rowS rows r g 0 = rows := by
  unfold rowS
  rw [upd_zero]
  refine ext_getD [] (by simp) fun j _ => ?_
  rw [set_getD _ _ _ _ _ h]
  split
  · rename_i e; rw [e]
  · rfl
theorem rowS_end (hk : (rows.getD r []).length ≤ k) : rowS rows r g k = rows.set r ((rows.getD r []).mapIdx g) := by
  unfold rowS
  rw [upd_all _ hk]
theorem rowS_next (h : r < rows.length) (hk : k < (rows.getD r []).length) : (rowS rows r g k).set r (((rowS rows r g k).getD r []).set k (g k ((rows.getD r []).getD k 0))) = rowS rows r g (k + 1) := by
  rw [rowS_at h, upd_step _ hk 0]
  unfold rowS
  rw [List.set_set]
theorem rowS_el (h : r < rows.length) : ((rowS rows r g k).getD r []).getD k 0 = (rows.getD r []).getD k 0 := by
  rw [rowS_at h, upd_getD _ (Nat.le_refl k)]
theorem rowS_rowlen (h : r < rows.length) : ((rowS rows r g k).getD r []).length = (rows.getD r []).length := by rw [rowS_at h, upd_len]
end
/-- The first rows of a grid. -/
theorem OwG.take {w : World} {ti ts : TypeId} {S : Nat → Prop} {A : Option Addr} {n c : Nat} {rows : List (List Int)} (h : OwG w ti ts S (.slice A n c) rows) {r : Nat} (hr : r ≤ rows.length) : OwG w ti ts S (.slice A r c) (rows.take r) := by
  obtain ⟨A', c', e, kc_cp, h⟩ := h
  obtain ⟨rfl, rfl, rfl⟩ := sliceEq e
  have hl : (rows.take r).length = r := by rw [List.length_take]; omega
  refine ⟨A, c, by rw [hl], by rw [hl]; omega, ?_⟩
  rcases h with h | ⟨g, vs, e2, h⟩
  · left
    rw [h, List.take_nil]
  · refine Or.inr ⟨g, vs.take r, e2, h.outer.take r, h.inS, by rw [List.length_take, hl, h.len]; omega, fun i hi => ?_, fun i hi hx => ?_, fun i j hi hj hij hxi hxj => ?_⟩
    · rw [hl] at hi
      rw [take_getD _ hi, take_getD _ hi]
      exact h.row i (by omega)
    · rw [hl] at hi
      rw [take_getD _ hi] at hx ⊢
      exact h.off i (by omega) hx
    · rw [hl] at hi hj
      rw [take_getD _ hi] at hxi ⊢
      rw [take_getD _ hj] at hxj ⊢
      exact h.apart i j (by omega) (by omega) hij hxi hxj
theorem OwG.cap {w : World} {ti ts : TypeId} {S : Nat → Prop} {A : Option Addr} {n c : Nat} {rows : List (List Int)} (h : OwG w ti ts S (.slice A n c) rows) (c2 : Nat) (kc_c2 : rows.length ≤ c2) : OwG w ti ts S (.slice A n c2) rows := by
  obtain ⟨A', c', e, kc_cp, h⟩ := h
  obtain ⟨rfl, rfl, rfl⟩ := sliceEq e
  exact ⟨A, c2, rfl, kc_c2, h⟩
/-- A grid that grew by append: its slice, with room. -/
theorem GridA.room {w : World} {ti ts : TypeId} {S : Nat → Prop} {v : Value} {vs : List Value} {rows : List (List Int)} (h : GridA w ti ts S v vs rows) : ∃ A c, v = .slice A rows.length c ∧ rows.length ≤ c ∧ c ≤ maxLen := by
  rcases h.outer.2 with ⟨rfl, h0⟩ | ⟨g, cap, cur, hv, _, _, hc, hm, _⟩
  · exact ⟨none, 0, by rw [← h.len, h0], by rw [← h.len, h0]; exact Nat.le_refl _, Nat.zero_le _⟩
  · exact ⟨_, cap, by rw [hv, h.len], by rw [← h.len]; exact hc, hm⟩
theorem scale_mapIdx (p k : Int) (r : List Int) : r.mapIdx (fun _ x => k * x % p) = scale p k r := rfl
theorem axpy_mapIdx (p k : Int) (r s : List Int) : r.mapIdx (fun j x => (x + k * s.getD j 0) % p) = axpy p r k s := rfl
end Go.Proofs.YtdjgkcnhmfkjoaaDoor

/-! The model's reduced basis of a span. -/
namespace Go.Proofs.YtdjgkcnhmfkjoaaDoor
open Go Go.RowKit Go.Deep

set_option maxHeartbeats 6400000 in
set_option maxRecDepth 100000 in
theorem spReduce_any (w : World) (B : Nat) (va : Value) (p : Int) (n c : Nat) (a : List (List Int)) (hva : RdG w B va a) (hB : B ≤ w.heap.size) (hf : fld p = true) (hM : Mat p n c a) (hn : n ≤ 1000000) (hc : c ≤ 1000000) :
    Calls Tryd.prog 48 #[.int .i64 p, .int .i64 c, va] w (MadeG w (rref p a c)) := by
  obtain ⟨i0, hi0, hz0, hz1, hz2⟩ := info_parts infoR
  obtain ⟨h1, h2⟩ := fld_bd hf
  obtain ⟨Aa, cca, rfl⟩ := hva.len
  have hlen := hM.1
  rw [hlen] at hva ⊢
  have HVA := Lib.hid hva
  have HB := Lib.hid hB
  have HM := Lib.hid hM
  have HF := Lib.hid hf
  have HLN := Lib.hid hlen
  have HROW : Hid (∀ r, r < n → (a.getD r []).length ≤ 1000000) := Lib.hid (fun r hr => by rw [(hM.row hr).1]; exact hc)
  clear hva hB hM hf hlen
  go_enter Tryd.func48, Tryd.ntmps48
  go_wp2
  go_loopw [21, 7, 9] (fun i m _ wr => ∃ (k : Nat) (vs : List Value), k ≤ n ∧ i = .int .i64 k ∧ Hid (Below w.heap.size w wr) ∧ Hid (GridA wr tI tR (fun q => w.heap.size ≤ q) m vs (a.take k))) (fun i _ _ _ => n - (intOf i).toNat)
  case atStart => exact ⟨0, [], Nat.zero_le _, rfl, Lib.hid (Below.refl _ _), Lib.hid (by rw [List.take_zero]; exact GridA.nil _ _ _ _)⟩
  case round =>
    obtain ⟨k, vs, hk, rfl, HB2, HG⟩ := hrel
    by_cases hlt : k < n
    · obtain ⟨b1, o1, A3, c3, rfl, hb1, hc1, hrd⟩ := (HVA.out.below HB2.out HB.out).at (r := k) (by rw [HLN.out]; exact hlt)
      have HRD := Lib.hid hrd
      have HMK := Lib.hid (HROW.out _ hlt)
      have HNX := Lib.hid (show a.take (k + 1) = a.take k ++ [a.getD k []] by rw [List.take_add_one, List.getElem?_eq_getElem (by rw [HLN.out]; exact hlt), List.getD_eq_getElem?_getD, List.getElem?_eq_getElem (by rw [HLN.out]; exact hlt)]; rfl)
      have HLV := Lib.hid (show vs.length = k by have := HG.out.len; rw [List.length_take, HLN.out] at this; omega)
      clear hrd hb1
      generalize hx : a.getD k [] = xr at hc1 HRD HMK HNX
      clear hx
      have hBr : B ≤ wr.heap.size := by have := HB.out; have := HB2.out.size; omega
      go_wp2_with fail
      refine (l1Own_any wr B _ xr HRD.out hBr HMK.out).mono ?_
      rintro e w2 ⟨v2, rfl, b2, o2⟩
      obtain ⟨A2, c2, rfl⟩ := o2.len
      have HG2 := Lib.hid ((HG.out.mono (T := fun q => w.heap.size ≤ q ∧ q < wr.heap.size) (fun q h1 h2 => ⟨h1, h2⟩)).blocks (w' := w2) (fun q hq _ => b2.block q hq.2))
      have HB3 := Lib.hid b2
      have HO2 := Lib.hid o2
      have hs2 : wr.heap.size ≤ w2.heap.size := b2.size
      have hs1 : w.heap.size ≤ wr.heap.size := HB2.out.size
      clear b2 o2
      go_wp2_with (at_builtin; refine wpList_append_lies _ (by rfl) (.tmp 25) (.tmp 28) 22 (by rfl) 0 40 i0 _ 1 24 Tryd.underlying22 hi0 hz0 hz1 hz2 rfl (by omega) u7 vs.length vs (by rfl) ((HG2.out.blocks (w' := w2.alloc _) (fun k hk hl => blk_alloc_lt _ _ _ hl)).outer) ⟨w2.heap.size, 0, none⟩ 1 1 [.slice A2 xr.length c2] (by rfl) (by rfl) (World.news_of_block (cs := #[.slice A2 xr.length c2]) (t := 40) (fr := (0, 0)) (heap_alloc_new w2 _)) (by simp [Value.oneCell']) (by omega) (by rw [HLV.out]; unfold maxLen; omega) (by rw [HLV.out]; omega) (Nat.zero_le _) (w2.heap.size + 1) (by simp) ?_; intro gg cap w3 hown1 hgrow hat hlt3)
      have HBL := Lib.hid ((((HB2.out).trans (HB3.out.mono hs1)).alloc (Nat.le_trans hs1 hs2) (.cells #[.slice A2 xr.length c2] 40)).grown hgrow (by simp; omega) (fun q hq => HG.out.inS q hq))
      have HP := Lib.hid (((HG2.out.blocks (w' := w2.alloc (.cells #[.slice A2 xr.length c2] 40)) (fun q hq hl => blk_alloc_lt _ _ _ hl))).push ((HO2.out.blocks (w' := w2.alloc (.cells #[.slice A2 xr.length c2] 40)) (fun q hq hl _ _ => blk_alloc_lt _ _ _ hl)).mono (T := fun q => wr.heap.size ≤ q ∧ q < w2.heap.size + 1) (fun q hq hl => ⟨hq, by simpa using hl⟩)) (fun q h1 h2 => by omega) hown1 hgrow (by simpa using hat))
      clear hown1 hgrow hat hlt3
      go_wp2
      go_roundw
      case rel => exact ⟨k + 1, _, by omega, by go_num, HBL, Lib.hid (by
        rw [HNX.out]
        refine HP.out.mono (T := fun q => w.heap.size ≤ q) (fun q hq _ => ?_)
        simp at hq
        omega)⟩
      case measure => simp [intOf]; omega
    · obtain rfl : k = n := by omega
      obtain ⟨Av, cpv, rfl, hroom, hmx⟩ := HG.out.room
      have HOG := Lib.hid HG.out.toOwG
      have e : a.take k = a := List.take_of_length_le (by rw [HLN.out]; omega)
      rw [e] at HOG hroom ⊢
      rw [HLN.out] at HOG hroom ⊢
      clear e HG
      unfold maxLen at hmx
      have HB0 := HB2
      have hsz1 := HB0.out.size
      clear HB2
      have HZ0 := Lib.hid (show rr p a 0 = { a := a, t := nils a.length, lead := [], det := 1, fac := 1 } from rfl)
      go_wp2
      go_loopw [11, 10, 12, 13, 14, 15, 16, 17, 18, 87, 88, 89, 90, 91, 92, 112, 113, 114, 137, 138, 139, 140, 141, 142] (fun i r _ _ _ _ _ _ _ _ _ _ _ _ _ _ _ _ _ _ _ _ _ _ wr => ∃ kc : Nat, kc ≤ c ∧ i = .int .i64 kc ∧ r = .int .i64 (rr p a kc).lead.length ∧ Hid (Below w.heap.size w wr) ∧ Hid (OwG wr tI tR (fun q => w.heap.size ≤ q) (.slice Av k cpv) (rr p a kc).a)) (fun i _ _ _ _ _ _ _ _ _ _ _ _ _ _ _ _ _ _ _ _ _ _ _ _ => c - (intOf i).toNat)
      case atStart => exact ⟨0, Nat.zero_le _, rfl, rfl, HB0, HOG⟩
      case round =>
        obtain ⟨kc, hkc, rfl, rfl, HB2, HG⟩ := hrel
        have HI := Lib.hid (rr_inv HF.out HM.out hkc)
        have HN := Lib.hid (show rr p a (kc + 1) = stepCol p kc (rr p a kc) from rfl)
        have HRR := Lib.hid (show rref p a kc = (rr p a kc).a.take (rr p a kc).lead.length from rfl)
        have hrk := HI.out.rank
        by_cases hgo : kc < c ∧ (rr p a kc).lead.length < k
        · obtain ⟨hlt, hrn⟩ := hgo
          generalize rr p a kc = s at HG HI HN hrk hrn ⊢
          have hltI : (kc : Int) < (c : Int) := by omega
          have hrI : (s.lead.length : Int) < (k : Int) := by omega
          have HLA := Lib.hid HI.out.a.1
          clear HRR
          go_wp2
          go_loop [12] (fun i => ∃ j : Nat, s.lead.length ≤ j ∧ j ≤ k ∧ i = .int .i64 j ∧ Hid (∀ m, s.lead.length ≤ m → m < j → at2 s.a m kc = 0)) (fun i => k - (intOf i).toNat)
          case atStart => exact ⟨s.lead.length, Nat.le_refl _, hrk, rfl, Lib.hid (fun j a b => absurd b (by omega))⟩
          case round =>
            obtain ⟨j, hj1, hj2, rfl, HZ⟩ := hrel
            by_cases hltj : j < k
            · have hltjI : (j : Int) < (k : Int) := by omega
              obtain ⟨g, c1, b, c2, e, hg, hgl, hcg, hbS, hbl, -, hcb, hfb, -⟩ := HG.out.at (r := j) (j := kc) (by rw [HLA.out]; exact hltj) (by rw [(HI.out.a.row hltj).1]; exact hlt)
              rw [HLA.out] at e
              obtain ⟨rfl, -, rfl⟩ := sliceEq e
              rw [(HI.out.a.row hltj).1] at hcg
              have HAT := Lib.hid (show (s.a.getD j []).getD kc 0 = at2 s.a j kc from rfl)
              rw [HAT.out] at hcb
              clear e hgl hbS hbl hfb
              by_cases hz : at2 s.a j kc = 0
              · have HZ2 := Lib.hid hz
                rw [hz] at hcb
                clear hz
                go_wp2
                go_round
                case rel => exact ⟨j + 1, by omega, by omega, by go_num, Lib.hid (fun m a b => by
                  by_cases cj : m = j
                  · rw [cj]; exact HZ2.out
                  · exact HZ.out m a (by omega))⟩
                case measure => simp [intOf]; omega
              · have hnz : (at2 s.a j kc == 0) = false := by simp [hz]
                have hne : ¬ (j : Int) = (k : Int) := by omega
                have hneb : ((j : Int) == (k : Int)) = false := by simp; omega
                have HPV := Lib.hid (show piv s.a kc s.lead.length = j from piv_eq hj1 (by rw [HLA.out]; exact hj2) HZ.out (fun _ => hz))
                have HSC := Lib.hid (show stepCol p kc s = clean p kc (mult p kc (exch p j s)) by unfold stepCol; rw [HPV.out, if_pos (by rw [HLA.out]; exact hltj)])
                have HNZ := Lib.hid hz
                clear hz
                obtain ⟨g0, cg, B1, l1, d1, B2, l2, d2, e, -, hgl, hx1, hx2, hxf, hfin⟩ := HG.out.swap (r := s.lead.length) (s := j) (by rw [HLA.out]; exact hrn) (by rw [HLA.out]; exact hltj)
                rw [HLA.out] at e
                obtain ⟨e3, -, rfl⟩ := sliceEq e
                obtain rfl : g = g0 := by injection e3 with e3; injection e3
                obtain ⟨rfl, rfl, rfl⟩ := sliceEq (Option.some.inj (hcg.symm.trans hx2))
                have HFIN := Lib.hid hfin
                have HGS := Lib.hid hg
                clear hfin e e3 hx2 hg
                obtain ⟨vq, hvq⟩ := cell?_setCell_some (w := wr) (p := ⟨g, s.lead.length, none⟩) (x := .slice (some ⟨b, 0, none⟩) c c2) (q := ⟨g, j, none⟩) (v := .slice (some ⟨b, 0, none⟩) c c2) hcg
                go_upto_region 18 with fail
                have HB1 := Lib.hid ((HB2.out.setCell (p := ⟨g, s.lead.length, none⟩) HGS.out (.slice (some ⟨b, 0, none⟩) c c2)).setCell (p := ⟨g, j, none⟩) HGS.out (.slice B1 l1 d1))
                have HG1 := Lib.hid (show OwG _ tI tR (fun q => w.heap.size ≤ q) (.slice (some ⟨g, 0, none⟩) k cpv) (exch p j s).a from HFIN.out)
                clear hcg hcb hx1 hxf HFIN HG hgl hvq
                generalize ((wr.setCell ⟨g, s.lead.length, none⟩ (.slice (some ⟨b, 0, none⟩) c c2)).setCell ⟨g, j, none⟩ (.slice B1 l1 d1)) = wx at HB1 HG1 ⊢
                have HI1 := Lib.hid (HI.out.exch h1 hj1 hltj)
                have HX1 := Lib.hid (HI.out.exch_at hj1 hltj)
                have HL1 := Lib.hid (show (exch p j s).lead = s.lead from rfl)
                generalize exch p j s = s1 at HI1 HX1 HG1 HL1 HSC
                have HLA1 := Lib.hid HI1.out.a.1
                obtain ⟨g', c1', b', c2', e, -, -, hcg1, -, -, -, hcb1, -, -⟩ := HG1.out.at (r := s.lead.length) (j := kc) (by rw [HLA1.out]; exact hrn) (by rw [(HI1.out.a.row hrn).1]; exact hlt)
                rw [HLA1.out] at e
                obtain ⟨e1, -, -⟩ := sliceEq e
                obtain rfl : g = g' := by injection e1 with e1; injection e1
                have HRL := Lib.hid (HI1.out.a.row hrn).1
                rw [HRL.out] at hcg1
                have hat : (s1.a.getD s.lead.length []).getD kc 0 = at2 s1.a s.lead.length kc := rfl
                rw [hat] at hcb1
                have hxb := HI1.out.a.el hrn hlt
                rw [hat] at hxb
                have hnz1 : at2 s1.a s.lead.length kc ≠ 0 := by rw [HX1.out]; exact HNZ.out
                obtain ⟨HI2, HI2u⟩ := HI1.out.mult HF.out (show s1.lead.length < k by rw [HL1.out]; exact hrn) hlt (by rw [HL1.out]; exact hnz1)
                replace HI2 := Lib.hid HI2
                have HM2 := Lib.hid (show mult p kc s1 = { a := scaleAt p s.lead.length (inv p (at2 s1.a s.lead.length kc)) s1.a, t := scaleAt p s.lead.length (inv p (at2 s1.a s.lead.length kc)) s1.t, lead := s.lead, det := s1.det * at2 s1.a s.lead.length kc % p, fac := s1.fac * inv p (at2 s1.a s.lead.length kc) % p } by unfold mult; rw [HL1.out])
                have hIb := inv_bd h1 (at2 s1.a s.lead.length kc)
                clear e e1 hat HI2u hnz hne hneb HX1 HNZ
                generalize hxe : at2 s1.a s.lead.length kc = x at hcb1 hxb HM2 hIb hnz1
                clear hxe
                obtain ⟨hx0, hx1⟩ := hxb
                have hxp : 0 < x := by omega
                go_wp2_with fail
                refine (fdInv_any p x _ HF.out hxp hx1).mono ?_
                rintro e w2 ⟨rfl, rfl⟩
                generalize hiv : inv p x = iv at hIb HM2 ⊢
                clear hiv
                obtain ⟨hiv0, hiv1⟩ := hIb
                have HLS := Lib.hid (show s.lead.length < s1.a.length by rw [HLA1.out]; exact hrn)
                go_wp2
                go_loopw [92, 15] (fun i _ wr => ∃ j' : Nat, j' ≤ c ∧ i = .int .i64 j' ∧ Hid (Below w.heap.size w wr) ∧ Hid (OwG wr tI tR (fun q => w.heap.size ≤ q) (.slice (some ⟨g, 0, none⟩) k cpv) (rowS s1.a s.lead.length (fun _ x => iv * x % p) j'))) (fun i _ _ => c - (intOf i).toNat)
                case atStart => exact ⟨0, Nat.zero_le _, rfl, HB1, Lib.hid (by rw [rowS_zero HLS.out]; exact HG1.out)⟩
                case round =>
                  obtain ⟨j', hj', rfl, HB3, HG3⟩ := hrel
                  by_cases hlt' : j' < c
                  · have hlt'I : (j' : Int) < (c : Int) := by omega
                    obtain ⟨g', c1', b', c2', e, -, hgl', hcg2, hbS', hbl', hbg', hcb2, hfb2, hst⟩ := HG3.out.at (r := s.lead.length) (j := j') (by rw [rowS_len]; exact HLS.out) (by rw [rowS_rowlen HLS.out, HRL.out]; exact hlt')
                    rw [rowS_len, HLA1.out] at e
                    obtain ⟨e1, -, -⟩ := sliceEq e
                    obtain rfl : g = g' := by injection e1 with e1; injection e1
                    rw [rowS_rowlen HLS.out, HRL.out] at hcg2
                    rw [rowS_el HLS.out] at hcb2
                    have hy := HI1.out.a.el hrn hlt'
                    have HST := Lib.hid hst
                    have HNX := Lib.hid (rowS_next (g := fun _ x => iv * x % p) HLS.out (show j' < (s1.a.getD s.lead.length []).length by rw [HRL.out]; exact hlt'))
                    clear e e1 hst hcg1 hcb1
                    generalize (s1.a.getD s.lead.length []).getD j' 0 = y at hcb2 hy HNX
                    obtain ⟨hy0, hy1⟩ := hy
                    go_wp2
                    go_still_tail 16, (by kernel_rfl)
                    still_call ((fdMul_any p y iv _ h1 h2 hy0 hy1 hiv0 hiv1).mono fun _ _ h => ⟨h.1, h.2.symm⟩)
                    repeat still_step
                    refine wpStill_nil ?_
                    change wpList _ _ _ _ _ wr.drew
                    go_wp2
                    go_roundw
                    case rel => exact ⟨j' + 1, by omega, by go_num, Lib.hid ((HB3.out.setCell hbS' _).drew), Lib.hid (by
                      rw [← HNX.out, Int.mul_comm iv y]
                      exact OwG.drew (HST.out (y * iv % p)))⟩
                    case measure => simp [intOf]; omega
                  · have HG4 : Hid (OwG wr tI tR (fun q => w.heap.size ≤ q) (.slice (some ⟨g, 0, none⟩) k cpv) (mult p kc s1).a) := Lib.hid (by
                      have h := HG3.out
                      rw [rowS_end (by rw [HRL.out]; omega)] at h
                      rw [HM2.out]
                      exact h)
                    clear hcg1 hcb1
                    have HL2 := Lib.hid (show (mult p kc s1).lead = s.lead by rw [HM2.out])
                    clear HM2 HG3 HG1 HB1 HI1 HL1 HLA1 HRL HLS HI hrk HPV HZ HGS
                    generalize mult p kc s1 = s2 at HI2 HL2 HG4 HSC ⊢
                    clear hnz1 hx0 hx1 hxp hiv0 hiv1
                    have HLA2 := Lib.hid HI2.out.a.1
                    have HRN := Lib.hid (show s.lead.length < s2.a.length by rw [HLA2.out]; exact hrn)
                    go_wp2
                    go_loopw [114, 16, 17, 18, 137, 138, 139, 140, 141, 142] (fun i _ _ _ _ _ _ _ _ _ wr => ∃ k' : Nat, k' ≤ k ∧ i = .int .i64 k' ∧ Hid (Below w.heap.size w wr) ∧ Hid (OwG wr tI tR (fun q => w.heap.size ≤ q) (.slice (some ⟨g, 0, none⟩) k cpv) (elimS p s.lead.length kc s2.a s2.a k'))) (fun i _ _ _ _ _ _ _ _ _ _ => k - (intOf i).toNat)
                    case atStart => exact ⟨0, Nat.zero_le _, rfl, HB3, Lib.hid (by unfold elimS; rw [upd_zero]; exact HG4.out)⟩
                    case round =>
                      obtain ⟨k', hk', rfl, HB5, HG5⟩ := hrel
                      by_cases hlk : k' < k
                      · have hlkI : (k' : Int) < (k : Int) := by omega
                        have HMA := Lib.hid (elimS_mat h1 HI2.out.a s.lead.length kc s2.a k')
                        obtain ⟨g', c1', b', c2', e, -, hgl', hcg3, -, -, -, hcb3, -, -⟩ := HG5.out.at (r := k') (j := kc) (by rw [HMA.out.1]; exact hlk) (by rw [(HMA.out.row hlk).1]; exact hlt)
                        rw [HMA.out.1] at e
                        obtain ⟨e1, -, -⟩ := sliceEq e
                        obtain rfl : g = g' := by injection e1 with e1; injection e1
                        rw [(HMA.out.row hlk).1] at hcg3
                        have hat : ((elimS p s.lead.length kc s2.a s2.a k').getD k' []).getD kc 0 = at2 s2.a k' kc := by rw [elimS_get (Nat.le_refl k')]; rfl
                        rw [hat] at hcb3
                        have hxb := HI2.out.a.el hlk hlt
                        have hat2 : (s2.a.getD k' []).getD kc 0 = at2 s2.a k' kc := rfl
                        rw [hat2] at hxb
                        clear e e1 hat hat2
                        by_cases hkr : k' = s.lead.length
                        · have hq : ((k' : Int) == (s.lead.length : Int)) = true := by simp [hkr]
                          have hqI : (k' : Int) = (s.lead.length : Int) := by omega
                          have HKR := Lib.hid hkr
                          clear hkr
                          generalize at2 s2.a k' kc = x at hcb3 hxb
                          go_wp2
                          go_roundw
                          case rel => exact ⟨k' + 1, by omega, by go_num, HB5, Lib.hid (by
                            have h := HG5.out
                            rw [HKR.out] at h ⊢
                            rw [elimS_skip HRN.out]
                            exact h)⟩
                          case measure => simp [intOf]; omega
                        · have hq : ((k' : Int) == (s.lead.length : Int)) = false := by simp; omega
                          have hqI : ¬ (k' : Int) = (s.lead.length : Int) := by omega
                          have HKR := Lib.hid hkr
                          have HNA := Lib.hid (elimS_next (p := p) (col := kc) (b := s2.a) (rows := s2.a) (by rw [HLA2.out]; exact hlk) HRN.out hkr)
                          clear hkr
                          generalize hxe : at2 s2.a k' kc = x at hcb3 hxb HNA
                          obtain ⟨hx0, hx1⟩ := hxb
                          clear hxe
                          by_cases hxz : x = 0
                          · subst hxz
                            have hpz : (p - 0) % p = 0 := by rw [Int.sub_zero, Int.emod_self]
                            rw [hpz, set_axpy_zero (HMA.out.row hlk).2] at HNA
                            clear hpz
                            go_wp2
                            go_roundw
                            case rel => exact ⟨k' + 1, by omega, by go_num, HB5, Lib.hid (by rw [← HNA.out]; exact HG5.out)⟩
                            case measure => simp [intOf]; omega
                          · have hxn : (x == 0) = false := by simp [hxz]
                            have hxp : 0 < x := by omega
                            generalize elimS p s.lead.length kc s2.a s2.a k' = E at HG5 HMA HNA
                            have HEL := Lib.hid (show k' < E.length by rw [HMA.out.1]; exact hlk)
                            have HER := Lib.hid (show s.lead.length < E.length by rw [HMA.out.1]; exact hrn)
                            have HRW := Lib.hid (HMA.out.row hlk).1
                            have HRP := Lib.hid (HMA.out.row hrn).1
                            go_wp2
                            go_loopw [142, 18] (fun i _ wr => ∃ j' : Nat, j' ≤ c ∧ i = .int .i64 j' ∧ Hid (Below w.heap.size w wr) ∧ Hid (OwG wr tI tR (fun q => w.heap.size ≤ q) (.slice (some ⟨g, 0, none⟩) k cpv) (rowS E k' (fun j y => (y + (p - x) % p * (E.getD s.lead.length []).getD j 0) % p) j'))) (fun i _ _ => c - (intOf i).toNat)
                            case atStart => exact ⟨0, Nat.zero_le _, rfl, HB5, Lib.hid (by rw [rowS_zero HEL.out]; exact HG5.out)⟩
                            case round =>
                              obtain ⟨j', hj', rfl, HB6, HG6⟩ := hrel
                              by_cases hlt' : j' < c
                              · have hlt'I : (j' : Int) < (c : Int) := by omega
                                obtain ⟨g', c1', b', c2', e, -, hgl', hcg4, hbS', hbl', hbg', hcb4, hfb4, hst⟩ := HG6.out.at (r := k') (j := j') (by rw [rowS_len]; exact HEL.out) (by rw [rowS_rowlen HEL.out, HRW.out]; exact hlt')
                                rw [rowS_len, HMA.out.1] at e
                                obtain ⟨e1, -, -⟩ := sliceEq e
                                obtain rfl : g = g' := by injection e1 with e1; injection e1
                                rw [rowS_rowlen HEL.out, HRW.out] at hcg4
                                rw [rowS_el HEL.out] at hcb4
                                obtain ⟨g', c1'', b'', c2'', e', -, -, hcg5, -, -, -, hcb5, -, -⟩ := HG6.out.at (r := s.lead.length) (j := j') (by rw [rowS_len]; exact HER.out) (by rw [rowS_ne HEL.out (fun e => HKR.out e.symm), HRP.out]; exact hlt')
                                rw [rowS_len, HMA.out.1] at e'
                                obtain ⟨e1', -, -⟩ := sliceEq e'
                                obtain rfl : g = g' := by injection e1' with e1'; injection e1'
                                rw [rowS_ne HEL.out (fun e => HKR.out e.symm)] at hcg5 hcb5
                                rw [HRP.out] at hcg5
                                have hy := HMA.out.el hlk hlt'
                                have hz := HMA.out.el hrn hlt'
                                have HST := Lib.hid hst
                                have HNX := Lib.hid (rowS_next (g := fun j y => (y + (p - x) % p * (E.getD s.lead.length []).getD j 0) % p) HEL.out (show j' < (E.getD k' []).length by rw [HRW.out]; exact hlt'))
                                clear e e1 e' e1' hst hcg3 hcb3
                                generalize (E.getD k' []).getD j' 0 = y at hcb4 hy HNX
                                generalize (E.getD s.lead.length []).getD j' 0 = z at hcb5 hz HNX
                                obtain ⟨hy0, hy1⟩ := hy
                                obtain ⟨hz0, hz1⟩ := hz
                                have hmb := emod_bd h1 (x * z)
                                go_wp2
                                go_still_tail 25, (by kernel_rfl)
                                still_call ((fdMul_any p x z _ h1 h2 (by omega) hx1 hz0 hz1).mono fun _ _ h => ⟨h.1, h.2.symm⟩)
                                still_call ((fdSub_any p y (x * z % p) _ h1 h2 hy0 hy1 hmb.1 hmb.2).mono fun _ _ h => ⟨h.1, h.2.symm⟩)
                                repeat still_step
                                refine wpStill_nil ?_
                                change wpList _ _ _ _ _ wr.drew
                                go_wp2
                                go_roundw
                                case rel => exact ⟨j' + 1, by omega, by go_num, Lib.hid ((HB6.out.setCell hbS' _).drew), Lib.hid (by
                                  rw [← HNX.out]
                                  have h := HST.out ((y + p - x * z % p) % p)
                                  rw [less_eq hxp hx1] at h
                                  rw [less_eq2 hxp hx1]
                                  exact OwG.drew h)⟩
                                case measure => simp [intOf]; omega
                              · have HG7 : Hid (OwG wr tI tR (fun q => w.heap.size ≤ q) (.slice (some ⟨g, 0, none⟩) k cpv) (elimS p s.lead.length kc s2.a s2.a (k' + 1))) := Lib.hid (by
                                  have h := HG6.out
                                  rw [rowS_end (by rw [HRW.out]; omega)] at h
                                  rw [← HNA.out]
                                  exact h)
                                clear hcg3 hcb3
                                go_wp2
                                go_roundw
                                case rel => exact ⟨k' + 1, by omega, by go_num, HB6, HG7⟩
                                case measure => simp [intOf]; omega
                      · have HEA := Lib.hid (elimS_end (p := p) (r := s.lead.length) (col := kc) (b := s2.a) (rows := s2.a) (k := k') (by rw [HLA2.out]; omega))
                        have HSP := Lib.hid (show (stepCol p kc s).a = elim p s.lead.length kc s2.a s2.a ∧ (stepCol p kc s).lead = s.lead ++ [kc] by rw [HSC.out]; unfold clean; rw [HL2.out]; exact ⟨rfl, rfl⟩)
                        go_wp2
                        go_roundw
                        case rel => exact ⟨kc + 1, by omega, by go_num, by rw [HN.out, HSP.out.2]; simp, HB5, Lib.hid (by rw [HN.out, HSP.out.1, ← HEA.out]; exact HG5.out)⟩
                        case measure => simp [intOf]; omega
            · have HEQ := Lib.hid (show stepCol p kc s = s by
                have h3 : piv s.a kc s.lead.length = k := piv_eq (by omega) (by rw [HLA.out]; exact Nat.le_refl _) (fun m h4 h5 => HZ.out m h4 (by omega)) (fun h4 => absurd h4 (by rw [HLA.out]; omega))
                unfold stepCol
                rw [h3, if_neg (by rw [HLA.out]; omega)])
              have hjn : j = k := by omega
              have hjb : ((j : Int) == (k : Int)) = true := by simp [hjn]
              have hjnI : (j : Int) = (k : Int) := by omega
              clear hjn
              go_wp2
              go_roundw
              case rel => exact ⟨kc + 1, by omega, by go_num, by rw [HN.out, HEQ.out], HB2, by rw [HN.out, HEQ.out]; exact HG⟩
              case measure => simp [intOf]; omega
        · have HEND := Lib.hid (show rref p a c = (rr p a kc).a.take (rr p a kc).lead.length by
            by_cases c1 : kc = c
            · rw [← c1]
              rfl
            · have hfull : (rr p a kc).lead.length = k := by omega
              obtain ⟨d, rfl⟩ : ∃ d, c = kc + d := ⟨c - kc, by omega⟩
              unfold rref rr
              rw [red_full HF.out HM.out (by rw [HLN.out]; exact nils_mat p k) hkc hfull d (Nat.le_refl _)])
          have HLA := Lib.hid HI.out.a.1
          generalize rr p a kc = s at HG HI HN hrk hgo HEND HLA ⊢
          have HTK := Lib.hid (HG.out.take (r := s.lead.length) (by rw [HLA.out]; exact hrk))
          by_cases hlt : kc < c
          · have hltI : (kc : Int) < (c : Int) := by omega
            have hnr : ¬ (s.lead.length : Int) < (k : Int) := by omega
            have hcp : s.lead.length ≤ cpv := by omega
            clear hgo HOG HB0
            go_wp2
            go_ret
            exact ⟨_, rfl, HB2.out, by rw [HEND.out]; exact HTK.out⟩
          · have hltI : ¬ (kc : Int) < (c : Int) := by omega
            have hcp : s.lead.length ≤ cpv := by omega
            clear hgo HOG HB0
            go_wp2
            go_ret
            exact ⟨_, rfl, HB2.out, by rw [HEND.out]; exact HTK.out⟩
end Go.Proofs.YtdjgkcnhmfkjoaaDoor
