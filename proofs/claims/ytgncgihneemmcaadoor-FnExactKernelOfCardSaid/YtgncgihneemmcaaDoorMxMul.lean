/- Products: both sides. -/
import Derived.Test.YtgncgihneemmcaaDoorMxFuncs
import Derived.Test.YtgncgihneemmcaaDoorMxGood
import Derived.Test.YtgncgihneemmcaaDoorMxFuncs
import Derived.StillTailTactics
import Derived.Deep.RegionLaw
namespace Go.Proofs.YtgncgihneemmcaaDoor
set_option maxRecDepth 100000
open Go Go.RowKit Go.Deep

theorem upd_end {α : Type} (g : Nat → α → α) {k : Nat} {xs : List α} (h : xs.length ≤ k) : upd g k xs = xs.mapIdx g := upd_all g h
theorem OwR.drew {w : World} {ti : TypeId} {S : Nat → Prop} {v : Value} {xs : List Int} (h : OwR w ti S v xs) : OwR w.drew ti S v xs := h.blocks fun _ _ _ _ _ => rfl
theorem made_grid' (w : World) (n : Nat) (b : Nat) (hb : b = w.heap.size) {S : Nat → Prop} (hs : S b) : GridAt (w.alloc (.cells (madeCells #[.slice none 0 0] n) 37)) tI tR S b (List.replicate n (.slice none 0 0)) (List.replicate n []) := by
  subst hb
  exact made_grid w n S hs
set_option maxHeartbeats 800000 in
theorem combineRows_any (w : World) (B : Nat) (v u : Value) (p : Int) (c : Nat) (fs : List Int) (rows : List (List Int)) (hv : RdS w (fun b => b < B) v fs) (hu : RdG w B u rows) (hB : B ≤ w.heap.size) (h1 : 2 ≤ p) (h2 : p ≤ 97) (hc : c ≤ 1000000) (hn : fs.length ≤ 1000000)
    (hl : fs.length ≤ rows.length) (hf : ∀ x, x ∈ fs → 0 ≤ x ∧ x < p) (hm : ∀ r, r ∈ rows → r.length = c ∧ ∀ x, x ∈ r → 0 ≤ x ∧ x < p) :
    Calls Tryd.prog 72 #[.int .i64 p, .int .i64 c, v, u] w (MadeR w (vmul p c fs rows)) := by
  have hmk := make_ints c (by omega)
  obtain ⟨A, cv, rfl, hv'⟩ := hv
  obtain ⟨Au, cu, rfl⟩ := hu.len
  have HV := Lib.hid (show RdS w (fun b => b < B) (.slice A fs.length cv) fs from ⟨A, cv, rfl, hv'⟩)
  have HU := Lib.hid hu
  have HB := Lib.hid hB
  have HL := Lib.hid hl
  have HF := Lib.hid hf
  have HM := Lib.hid hm
  clear hv' hu hB hl hf hm
  go_enter Tryd.func72, Tryd.ntmps72
  go_wp2
  go_loopw [16, 10, 11] (fun i _ _ wr => ∃ (k : Nat) (acc : List Int), k ≤ fs.length ∧ i = .int .i64 k ∧ Hid (Below w.heap.size w wr) ∧ Hid (acc.length = c) ∧ Hid (∀ x, x ∈ acc → 0 ≤ x ∧ x < p) ∧ Hid (comb p acc (fs.drop k) (rows.drop k) = vmul p c fs rows) ∧ Hid (OwR wr tI (fun b => w.heap.size ≤ b) (.slice (some ⟨w.heap.size, 0, none⟩) c c) acc)) (fun i _ _ _ => fs.length - (intOf i).toNat)
  case atStart => exact ⟨0, List.replicate c 0, Nat.zero_le _, rfl, Lib.hid ((Below.refl _ _).alloc (Nat.le_refl _) _), Lib.hid (by simp), Lib.hid (zeros_bd h1 c), Lib.hid (by rw [List.drop_zero, List.drop_zero]; rfl), Lib.hid (owR_at (Nat.le_refl _) (made_ints w c) (by simp))⟩
  case round =>
    obtain ⟨k, acc, hk, rfl, HB2, HA, HE, HC, HO⟩ := hrel
    by_cases hlt : k < fs.length
    · obtain ⟨b, o, rfl, hb, hc1⟩ := (HV.out.below HB2.out HB.out).at hlt
      have HK := Lib.hid (show k < rows.length by have := HL.out; omega)
      obtain ⟨b2, o2, A3, c3, rfl, hb2, hc2, hrd⟩ := (HU.out.below HB2.out HB.out).at HK.out
      have hku : (k : Int) < (rows.length : Int) := by have := HK.out; omega
      have HRD := Lib.hid hrd
      have hz := HF.out _ (getD_mem' hlt 0)
      have HZ := Lib.hid (show comb p (axpy p acc (fs.getD k 0) (rows.getD k [])) (fs.drop (k + 1)) (rows.drop (k + 1)) = vmul p c fs rows by rw [← comb_step hlt HK.out]; exact HC.out)
      have HMK := Lib.hid (HM.out _ (getD_mem' HK.out []))
      clear hrd hb hb2
      generalize fs.getD k 0 = z at hc1 hz HZ
      generalize rows.getD k [] = xr at hc2 HRD HZ HMK
      obtain ⟨hz0, hz1⟩ := hz
      go_wp2_with fail
      have e1 := HA.out
      refine (addToRow_any _ (fun b => w.heap.size ≤ b) _ _ p z acc xr h1 h2 ?_ ?_ (by rw [HMK.out.1, HA.out]) (by rw [HA.out]; omega) HE.out HMK.out.2 hz0 hz1).mono ?_
      · exact HO.out
      · exact HRD.out.mono (fun q hq => by have := HB.out; omega)
      rintro e w3 ⟨rfl, t3, o3⟩
      have HT := Lib.hid t3
      have HO3 := Lib.hid o3
      clear t3 o3 e1
      go_wp2
      go_roundw
      case rel => exact ⟨k + 1, _, by omega, by go_num, Lib.hid (HB2.out.trans (HT.out.below HB2.out.size (fun q hq => hq))), Lib.hid (by rw [axpy_len]; exact HA.out), Lib.hid (axpy_bd h1), HZ, HO3⟩
      case measure => simp [intOf]; omega
    · have HZ := Lib.hid (show acc = vmul p c fs rows by rw [← HC.out, comb_end (by omega)])
      go_wp2
      go_ret
      refine ⟨_, rfl, HB2.out, ?_⟩
      rw [← HZ.out]
      exact HO.out
def prodS (p : Int) (c : Nat) (a b : List (List Int)) (k : Nat) : List (List Int) := upd (fun j _ => vmul p c (a.getD j []) b) k (List.replicate a.length [])
theorem prodS_len (p : Int) (c : Nat) (a b : List (List Int)) (k : Nat) : (prodS p c a b k).length = a.length := by unfold prodS; rw [upd_len, List.length_replicate]
theorem prodS_end {p : Int} {c : Nat} {a b : List (List Int)} {k : Nat} (h : a.length ≤ k) : prodS p c a b k = mmul p c a b := by
  unfold prodS mmul
  rw [upd_all _ (by rw [List.length_replicate]; exact h)]
  refine ext_getD [] (by simp) fun i hi => ?_
  rw [List.length_mapIdx, List.length_replicate] at hi
  rw [mapIdx_getD _ _ _ (by simpa using hi) [], mapIdx_getD _ _ _ hi []]
end Go.Proofs.YtgncgihneemmcaaDoor
