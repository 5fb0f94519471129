/- Elements of a list at indices: the program's side. -/
import Derived.Test.YtiiloioobmkicaaDoorSpOrth
namespace Go.Proofs.YtiiloioobmkicaaDoor
set_option maxRecDepth 100000
open Go Go.RowKit Go.Deep

def pick (xs idx : List Int) : List Int := idx.map fun i => xs.getD i.toNat 0
theorem pick_len (xs idx : List Int) : (pick xs idx).length = idx.length := by simp [pick]
theorem pick_get {xs idx : List Int} {k : Nat} (h : k < idx.length) : (pick xs idx).getD k 0 = xs.getD (idx.getD k 0).toNat 0 := by unfold pick; rw [map_getD _ _ _ h 0]
theorem pick_el {p : Int} {c : Nat} {xs idx : List Int} (hx : Vec p c xs) (hi : ∀ i, i ∈ idx → 0 ≤ i ∧ i < c) : Vec p idx.length (pick xs idx) := by
  refine ⟨pick_len _ _, fun y hy => ?_⟩
  obtain ⟨k, hk, rfl⟩ := mem_getD 0 hy
  rw [pick_len] at hk
  rw [pick_get hk]
  have := hi _ (getD_mem' hk 0)
  exact hx.el (by omega)
theorem pick_end {xs idx : List Int} {k : Nat} (h : idx.length ≤ k) : upd (fun j _ => xs.getD (idx.getD j 0).toNat 0) k (List.replicate idx.length 0) = pick xs idx := by
  rw [upd_all _ (by rw [List.length_replicate]; exact h)]
  refine ext_getD 0 (by simp [pick]) fun i hi => ?_
  rw [List.length_mapIdx, List.length_replicate] at hi
  rw [mapIdx_getD _ _ _ (by simpa using hi) 0, pick_get hi]
set_option maxHeartbeats 800000 in
theorem elementsAt_any (w : World) (B : Nat) (vx vi : Value) (xs idx : List Int) (hx : RdS w (fun b => b < B) vx xs) (hi : RdS w (fun b => b < B) vi idx) (hB : B ≤ w.heap.size) (hn : idx.length ≤ 1000000) (hb : ∀ i, i ∈ idx → 0 ≤ i ∧ i < (xs.length : Int)) :
    Calls Tryd.prog 61 #[vx, vi] w (MadeR w (pick xs idx)) := by
  have hmk := make_ints idx.length (by omega)
  obtain ⟨Ax, cx, rfl, kc_cx, hx'⟩ := hx
  obtain ⟨Ai, ci, rfl, kc_ci, hi'⟩ := hi
  have HX := Lib.hid (show RdS w (fun b => b < B) (.slice Ax xs.length cx) xs from ⟨Ax, cx, rfl, kc_cx, hx'⟩)
  have HI := Lib.hid (show RdS w (fun b => b < B) (.slice Ai idx.length ci) idx from ⟨Ai, ci, rfl, kc_ci, hi'⟩)
  have HB := Lib.hid hB
  have HBD := Lib.hid hb
  clear hx' hi' hB hb
  go_enter Tryd.func61, Tryd.ntmps61
  go_wp2
  go_loopw [13, 6, 7] (fun i _ _ wr => ∃ k : Nat, k ≤ idx.length ∧ i = .int .i64 k ∧ Hid (Below w.heap.size w wr) ∧ Hid (OwR wr tI (fun b => b = w.heap.size) (.slice (some ⟨w.heap.size, 0, none⟩) idx.length idx.length) (upd (fun j _ => xs.getD (idx.getD j 0).toNat 0) k (List.replicate idx.length 0)))) (fun i _ _ _ => idx.length - (intOf i).toNat)
  case atStart => exact ⟨0, Nat.zero_le _, rfl, Lib.hid ((Below.refl _ _).alloc (Nat.le_refl _) _), Lib.hid (by rw [upd_zero]; exact owR_at (S := fun b => b = w.heap.size) rfl (made_ints w idx.length) (by rw [List.length_replicate]))⟩
  case round =>
    obtain ⟨k, hk, rfl, HB2, HO⟩ := hrel
    by_cases hlt : k < idx.length
    · obtain ⟨b1, o1, rfl, hb1, hc1⟩ := (HI.out.below HB2.out HB.out).at hlt
      have hbd := HBD.out _ (getD_mem' hlt 0)
      obtain ⟨b6, c6, e6, hb6, hs6, hc6, hf6, hset⟩ := HO.out.at (j := k) (by rw [upd_len, List.length_replicate]; exact hlt)
      rw [upd_len, List.length_replicate] at e6
      obtain ⟨e7, -, -⟩ := sliceEq e6
      obtain rfl : w.heap.size = b6 := by injection e7 with e7; injection e7
      have HST := Lib.hid (upd_step (fun j _ => xs.getD (idx.getD j 0).toNat 0) (xs := List.replicate idx.length 0) (k := k) (by rw [List.length_replicate]; exact hlt) 0)
      have HSET := Lib.hid (hset (xs.getD (idx.getD k 0).toNat 0))
      have hkI : (k : Int) < (idx.length : Int) := by omega
      clear hb1 e6 e7 hb6 hset
      generalize (upd (fun j _ => xs.getD (idx.getD j 0).toNat 0) k (List.replicate idx.length 0)).getD k 0 = z6 at hc6
      obtain ⟨q, hq⟩ : ∃ q : Nat, idx.getD k 0 = (q : Int) := ⟨(idx.getD k 0).toNat, by omega⟩
      rw [hq] at hc1 hbd HST HSET
      rw [Int.toNat_natCast] at HST HSET
      clear hq
      have hqI : (q : Int) < (xs.length : Int) := hbd.2
      obtain ⟨b5, o5, rfl, hb5, hc5⟩ := (HX.out.below HB2.out HB.out).at (k := q) (by omega)
      clear hb5 hbd
      generalize xs.getD q 0 = y at hc5 HST HSET
      go_wp2
      go_roundw
      case rel => exact ⟨k + 1, by omega, by go_num, Lib.hid (HB2.out.setCell (Nat.le_refl _) _), Lib.hid (by rw [← HST.out]; exact HSET.out)⟩
      case measure => simp [intOf]; omega
    · have HE := Lib.hid (pick_end (xs := xs) (idx := idx) (k := k) (by omega))
      go_wp2
      go_ret
      refine ⟨_, rfl, HB2.out, ?_⟩
      have := HO.out
      rw [HE.out] at this
      exact this.mono (fun q hq _ => by omega)
/-- The elements at the leading indices are the coordinates. -/
theorem pick_leads {p : Int} {n c : Nat} {R : List (List Int)} (h : IsRed p n c R) (v : List Int) : pick v (leadsL R) = R.map fun b => v.getD (lead0 b) 0 := by
  refine ext_getD 0 (by simp [pick, leadsL]) fun i hi => ?_
  rw [pick_len, leadsL_len] at hi
  rw [pick_get (by rw [leadsL_len]; exact hi), leadsL_get hi, map_getD _ _ _ hi [], leadI_pos (by rw [(h.mat.row (by rw [← h.mat.1]; exact hi)).1]; exact h.lt i (by rw [← h.mat.1]; exact hi)), Int.toNat_natCast]
end Go.Proofs.YtiiloioobmkicaaDoor
