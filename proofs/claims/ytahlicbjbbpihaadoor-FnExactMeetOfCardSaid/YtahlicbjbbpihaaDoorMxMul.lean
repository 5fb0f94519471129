/- Products: both sides. -/
import Derived.Test.YtahlicbjbbpihaaDoorMxFuncs
import Derived.Test.YtahlicbjbbpihaaDoorMxGood
import Derived.Test.YtahlicbjbbpihaaDoorMxFuncs
import Derived.StillTailTactics
import Derived.Deep.RegionLaw
namespace Go.Proofs.YtahlicbjbbpihaaDoor
set_option maxRecDepth 100000
open Go Go.RowKit Go.Deep

theorem upd_end {α : Type} (g : Nat → α → α) {k : Nat} {xs : List α} (h : xs.length ≤ k) : upd g k xs = xs.mapIdx g := upd_all g h
theorem OwR.drew {w : World} {ti : TypeId} {S : Nat → Prop} {v : Value} {xs : List Int} (h : OwR w ti S v xs) : OwR w.drew ti S v xs := h.blocks fun _ _ _ _ _ => rfl
theorem made_grid' (w : World) (n : Nat) (b : Nat) (hb : b = w.heap.size) {S : Nat → Prop} (hs : S b) : GridAt (w.alloc (.cells (madeCells #[.slice none 0 0] n) 33)) tI tR S b (List.replicate n (.slice none 0 0)) (List.replicate n []) := by
  subst hb
  exact made_grid w n S hs
set_option maxHeartbeats 800000 in
theorem combineRows_any (w : World) (B : Nat) (v u : Value) (p : Int) (c : Nat) (fs : List Int) (rows : List (List Int)) (hv : RdS w (fun b => b < B) v fs) (hu : RdG w B u rows) (hB : B ≤ w.heap.size) (h1 : 2 ≤ p) (h2 : p ≤ 97) (hc : c ≤ 1000000) (hn : fs.length ≤ 1000000)
    (hl : fs.length ≤ rows.length) (hf : ∀ x, x ∈ fs → 0 ≤ x ∧ x < p) (hm : ∀ r, r ∈ rows → r.length = c ∧ ∀ x, x ∈ r → 0 ≤ x ∧ x < p) :
    Calls Tryd.prog 135 #[.int .i64 p, .int .i64 c, v, u] w (MadeR w (vmul p c fs rows)) := by
  have hmk := make_ints c (by omega)
  obtain ⟨A, cv, rfl, hv'⟩ := hv
  obtain ⟨Au, cu, rfl⟩ := hu.len
  have HV := Lib.hid (show RdS w (fun b => b < B) (.slice A fs.length cv) fs from ⟨A, cv, rfl, hv'⟩)
  have HU := Lib.hid hu
  have HB := Lib.hid hB
  have HL := Lib.hid hl
  have HF := Lib.hid hf
  have HM := Lib.hid hm
  clear hv' hu hB hl hf hm
  go_enter Tryd.func135, Tryd.ntmps135
  go_wp2
  go_loopw [16, 10, 11] (fun i _ _ wr => ∃ (k : Nat) (acc : List Int), k ≤ fs.length ∧ i = .int .i64 k ∧ Hid (Below w.heap.size w wr) ∧ Hid (acc.length = c) ∧ Hid (∀ x, x ∈ acc → 0 ≤ x ∧ x < p) ∧ Hid (comb p acc (fs.drop k) (rows.drop k) = vmul p c fs rows) ∧ Hid (OwR wr tI (fun b => w.heap.size ≤ b) (.slice (some ⟨w.heap.size, 0, none⟩) c c) acc)) (fun i _ _ _ => fs.length - (intOf i).toNat)
  case atStart => exact ⟨0, List.replicate c 0, Nat.zero_le _, rfl, Lib.hid ((Below.refl _ _).alloc (Nat.le_refl _) _), Lib.hid (by simp), Lib.hid (zeros_bd h1 c), Lib.hid (by rw [List.drop_zero, List.drop_zero]; rfl), Lib.hid (owR_at (Nat.le_refl _) (made_ints w c) (by simp))⟩
  case round =>
    obtain ⟨k, acc, hk, rfl, HB2, HA, HE, HC, HO⟩ := hrel
    by_cases hlt : k < fs.length
    · obtain ⟨b, o, rfl, hb, hc1⟩ := (HV.out.below HB2.out HB.out).at hlt
      have HK := Lib.hid (show k < rows.length by have := HL.out; omega)
      obtain ⟨b2, o2, A3, c3, rfl, hb2, hc2, hrd⟩ := (HU.out.below HB2.out HB.out).at HK.out
      have hku : (k : Int) < (rows.length : Int) := by have := HK.out; omega
      have HRD := Lib.hid hrd
      have hz := HF.out _ (getD_mem' hlt 0)
      have HZ := Lib.hid (show comb p (axpy p acc (fs.getD k 0) (rows.getD k [])) (fs.drop (k + 1)) (rows.drop (k + 1)) = vmul p c fs rows by rw [← comb_step hlt HK.out]; exact HC.out)
      have HMK := Lib.hid (HM.out _ (getD_mem' HK.out []))
      clear hrd hb hb2
      generalize fs.getD k 0 = z at hc1 hz HZ
      generalize rows.getD k [] = xr at hc2 HRD HZ HMK
      obtain ⟨hz0, hz1⟩ := hz
      go_wp2_with fail
      have e1 := HA.out
      refine (addToRow_any _ (fun b => w.heap.size ≤ b) _ _ p z acc xr h1 h2 ?_ ?_ (by rw [HMK.out.1, HA.out]) (by rw [HA.out]; omega) HE.out HMK.out.2 hz0 hz1).mono ?_
      · exact HO.out
      · exact HRD.out.mono (fun q hq => by have := HB.out; omega)
      rintro e w3 ⟨rfl, t3, o3⟩
      have HT := Lib.hid t3
      have HO3 := Lib.hid o3
      clear t3 o3 e1
      go_wp2
      go_roundw
      case rel => exact ⟨k + 1, _, by omega, by go_num, Lib.hid (HB2.out.trans (HT.out.below HB2.out.size (fun q hq => hq))), Lib.hid (by rw [axpy_len]; exact HA.out), Lib.hid (axpy_bd h1), HZ, HO3⟩
      case measure => simp [intOf]; omega
    · have HZ := Lib.hid (show acc = vmul p c fs rows by rw [← HC.out, comb_end (by omega)])
      go_wp2
      go_ret
      refine ⟨_, rfl, HB2.out, ?_⟩
      rw [← HZ.out]
      exact HO.out
def prodS (p : Int) (c : Nat) (a b : List (List Int)) (k : Nat) : List (List Int) := upd (fun j _ => vmul p c (a.getD j []) b) k (List.replicate a.length [])
theorem prodS_len (p : Int) (c : Nat) (a b : List (List Int)) (k : Nat) : (prodS p c a b k).length = a.length := by unfold prodS; rw [upd_len, List.length_replicate]
theorem prodS_end {p : Int} {c : Nat} {a b : List (List Int)} {k : Nat} (h : a.length ≤ k) : prodS p c a b k = mmul p c a b := by
  unfold prodS mmul
  rw [upd_all _ (by rw [List.length_replicate]; exact h)]
  refine ext_getD [] (by simp) fun i hi => ?_
  rw [List.length_mapIdx, List.length_replicate] at hi
  rw [mapIdx_getD _ _ _ (by simpa using hi) [], mapIdx_getD _ _ _ hi []]
set_option maxHeartbeats 800000 in
set_option maxRecDepth 100000 in
theorem productOf_any (w : World) (B : Nat) (va vb : Value) (p ca : Int) (c : Nat) (a b : List (List Int)) (hva : RdG w B va a) (hvb : RdG w B vb b) (hB : B ≤ w.heap.size) (h1 : 2 ≤ p) (h2 : p ≤ 97) (hc : c ≤ 1000000) (hn : a.length ≤ 1000000) (hbn : b.length ≤ 1000000)
    (hma : ∀ r, r ∈ a → r.length = b.length ∧ ∀ x, x ∈ r → 0 ≤ x ∧ x < p) (hmb : ∀ r, r ∈ b → r.length = c ∧ ∀ x, x ∈ r → 0 ≤ x ∧ x < p) :
    Calls Tryd.prog 123 #[.int .i64 p, .agg #[.int .i64 ca, va], .agg #[.int .i64 c, vb]] w (MadeM w c (mmul p c a b)) := by
  have hmk := make_rows a.length (by omega)
  obtain ⟨Aa, cca, rfl⟩ := hva.len
  obtain ⟨Ab, ccb, rfl⟩ := hvb.len
  have HVA := Lib.hid hva
  have HVB := Lib.hid hvb
  have HB := Lib.hid hB
  have HMA := Lib.hid hma
  have HMB := Lib.hid hmb
  clear hva hvb hB hma hmb
  go_enter Tryd.func123, Tryd.ntmps123
  go_wp2
  go_loopw [17, 8, 9] (fun i _ _ wr => ∃ (k : Nat) (vs : List Value), k ≤ a.length ∧ i = .int .i64 k ∧ Hid (Below w.heap.size w wr) ∧ Hid (CellsAt wr (w.heap.size + 1) tM [.int .i64 c, .slice Ab b.length ccb]) ∧ Hid (CellsAt wr (w.heap.size + 1 + 1) tM [.int .i64 0, .slice none 0 0]) ∧ Hid (GridAt wr tI tR (fun q => w.heap.size + 3 ≤ q) (w.heap.size + 1 + 1 + 1) vs (prodS p c a b k))) (fun i _ _ _ => a.length - (intOf i).toNat)
  case atStart =>
    refine ⟨0, List.replicate a.length (.slice none 0 0), Nat.zero_le _, rfl, Lib.hid (by repeat' (first | exact Below.refl _ _ | apply Below.drew | apply Below.setCell | apply Below.alloc | (simp; done) | (simp; omega))), Lib.hid (((cellsAt_new' _ _ _ _ _ (by simp) rfl).alloc _).alloc _), Lib.hid ((cellsAt_new' _ _ _ _ _ (by simp) rfl).alloc _), Lib.hid ?_⟩
    unfold prodS
    rw [upd_zero]
    exact made_grid' _ _ _ (by simp) (Nat.le_refl _)
  case round =>
    obtain ⟨k, vs, hk, rfl, HB2, HX, HR, HG⟩ := hrel
    obtain ⟨hx0, hx1, hxf0, hxf1, hxs⟩ := HX.out.two
    by_cases hlt : k < a.length
    · obtain ⟨b1, o1, A3, c3, rfl, hb1, hc1, hrd⟩ := (HVA.out.below HB2.out HB.out).at hlt
      have HRD := Lib.hid hrd
      have HMK := Lib.hid (HMA.out _ (getD_mem' hlt []))
      clear hrd hb1
      generalize hx : a.getD k [] = xr at hc1 HRD HMK
      have HXE := Lib.hid hx
      clear hx
      go_wp2_with fail
      refine (combineRows_any _ B _ _ p c xr b HRD.out (HVB.out.below HB2.out HB.out) (by have := HB.out; have := HB2.out.size; omega) h1 h2 hc (by rw [HMK.out.1]; exact hbn) (by rw [HMK.out.1]; exact Nat.le_refl _) HMK.out.2 HMB.out).mono ?_
      rintro e w2 ⟨v2, rfl, b2, o2⟩
      obtain ⟨A2, c2, rfl⟩ := o2.len
      have HO2 := Lib.hid o2
      have HB3 := Lib.hid b2
      have HLN := Lib.hid (show k < (prodS p c a b k).length by rw [prodS_len]; exact hlt)
      have HG3 := Lib.hid ((HG.out.mono (T := fun q => w.heap.size + 3 ≤ q ∧ q < wr.heap.size) (fun q h1 h2 => ⟨h1, h2⟩)).blocks (w' := w2) (fun q hq _ => b2.block q hq.2))
      have hcell := HG3.out.cell HLN.out
      have hf := HG3.out.outer.frozen k
      have HP := Lib.hid (HG3.out.put HLN.out HO2.out (fun q h1 h2 => by omega))
      have HX3 := Lib.hid (HX.out.below b2 hxs)
      have HR3 := Lib.hid (HR.out.below b2 HR.out.lt)
      generalize vs.getD k Value.nilFunc = u2 at hcell
      clear b2 o2 hx0 hx1 hxf0 hxf1 hxs
      obtain ⟨hx0, hx1, hxf0, hxf1, hxs⟩ := HX3.out.two
      go_wp2
      go_roundw
      case rel => exact ⟨k + 1, _, by omega, by go_num, Lib.hid ((HB2.out.trans (HB3.out.mono HB2.out.size)).setCell (show w.heap.size ≤ w.heap.size + 1 + 1 + 1 by omega) _), Lib.hid (HX3.out.setOther (by simp) _), Lib.hid (HR3.out.setOther (by simp) _), Lib.hid (by
        have h := HP.out
        unfold prodS at h ⊢
        rw [← upd_put _ (by rw [List.length_replicate]; exact hlt) [], HXE.out]
        exact h.mono (fun q hq _ => by have := HB2.out.size; have := HG.out.outer.lt; omega))⟩
      case measure => simp [intOf]; omega
    · obtain ⟨hr0, hr1, hrf0, hrf1, hrs⟩ := HR.out.two
      go_wp2
      refine bodyPost_ret (v := .agg #[.int .i64 c, .slice (some ⟨w.heap.size + 1 + 1 + 1, 0, none⟩) a.length a.length]) (by simp [results, Tryd.results123, go_sem, hr0, hr1]) rfl ?_
      have h := HG.out
      rw [prodS_end (by omega)] at h
      refine ⟨_, rfl, (by refine Below.trans HB2.out ?_; repeat' (first | exact Below.refl _ _ | apply Below.drew | apply Below.setCell | apply Below.alloc | (simp; done) | (simp; omega))), _, a.length, by rw [mmul_len], Or.inr ⟨_, vs, rfl, ?_⟩⟩
      refine (h.blocks (fun q h _ => ?_)).mono (fun q h _ => by omega)
      rw [blk_setCell_other _ _ _ _ (by simp; omega), blk_setCell_other _ _ _ _ (by simp; omega)]
end Go.Proofs.YtahlicbjbbpihaaDoor
