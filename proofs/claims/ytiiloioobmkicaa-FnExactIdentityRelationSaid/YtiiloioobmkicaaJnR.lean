/- Rows joined one by one; the relation of a matrix: the program's helpers. -/
import Derived.Test.YtiiloioobmkicaaPartR
import Derived.Deep.RegionHeld3
namespace Go.Proofs.Ytiiloioobmkicaa
set_option maxRecDepth 100000
open Go Go.RowKit Go.Deep

def jn (a b : List (List Int)) : List (List Int) := a.mapIdx fun i x => x ++ b.getD i []
theorem jn_len (a b : List (List Int)) : (jn a b).length = a.length := by simp [jn]
theorem jn_row {a b : List (List Int)} {i : Nat} (h : i < a.length) : (jn a b).getD i [] = a.getD i [] ++ b.getD i [] := by unfold jn; rw [mapIdx_getD _ _ _ h []]
theorem jn_upd (a b : List (List Int)) : (List.replicate a.length ([] : List Int)).mapIdx (fun j _ => a.getD j [] ++ b.getD j []) = jn a b := ext_getD [] (by simp [jn]) fun i hi => by
  rw [List.length_mapIdx, List.length_replicate] at hi
  rw [mapIdx_getD _ _ _ (by simpa using hi) [], jn_row hi]
set_option maxHeartbeats 1600000 in
theorem joinRows_any (w : World) (B : Nat) (va vb : Value) (a b : List (List Int)) (ha : RdG w B va a) (hb : RdG w B vb b) (hB : B ≤ w.heap.size) (hl : a.length = b.length) (hn : a.length ≤ 1000) (hra : ∀ r, r < a.length → (a.getD r []).length ≤ 1000) (hrb : ∀ r, r < b.length → (b.getD r []).length ≤ 1000) :
    Calls Try.prog 17 #[va, vb] w (MadeG w (jn a b)) := by
  obtain ⟨A, c, rfl⟩ := ha.len
  obtain ⟨A', c', rfl⟩ := hb.len
  have hmk := make_rows a.length (by omega)
  have HV := Lib.hid ha
  have HW := Lib.hid hb
  have HB := Lib.hid hB
  have HRA := Lib.hid hra
  have HRB := Lib.hid hrb
  have HL := Lib.hid hl
  clear ha hb hB hra hrb hl
  go_enter Try.func17, Try.ntmps17
  go_wp2
  go_loopw [13, 6, 7] (fun i _ _ wr => ∃ (k : Nat) (vs : List Value), k ≤ a.length ∧ i = .int .i64 k ∧ Below w.heap.size w wr ∧ Hid (w.heap.size < wr.heap.size) ∧ Hid (GridAt wr tI tR (fun b => w.heap.size ≤ b) w.heap.size vs (upd (fun j _ => a.getD j [] ++ b.getD j []) k (List.replicate a.length [])))) (fun i _ _ _ => a.length - (intOf i).toNat)
  case atStart => exact ⟨0, _, Nat.zero_le _, rfl, (Below.refl _ _).alloc (Nat.le_refl _) _, Lib.hid (by rw [nblk_alloc]; omega), Lib.hid (by rw [upd_zero]; exact made_grid w _ _ (Nat.le_refl _))⟩
  case round =>
    obtain ⟨k, vs, hk, rfl, hb, HS, HC⟩ := hrel
    by_cases hlt : k < a.length
    · obtain ⟨b1, o1, A3, c3, rfl, hb1, hc1, hrd⟩ := (HV.out.below hb HB.out).at hlt
      have hltb : k < b.length := by have := HL.out; omega
      obtain ⟨b2, o2, A4, c4, rfl, hb2, hc2, hrd2⟩ := (HW.out.below hb HB.out).at hltb
      have HR1 := Lib.hid hrd
      have HR2 := Lib.hid hrd2
      have HLN := Lib.hid (show k < (upd (fun j _ => a.getD j [] ++ b.getD j []) k (List.replicate a.length [])).length by rw [upd_len, List.length_replicate]; exact hlt)
      have hla := HRA.out k hlt
      have hlb := HRB.out k hltb
      have HSZ := Lib.hid (Nat.le_trans HB.out hb.size)
      have hkI : (k : Int) < (a.length : Int) := by omega
      have hkI2 : (k : Int) < (b.length : Int) := by omega
      have HUS := Lib.hid (upd_step (fun j _ => a.getD j [] ++ b.getD j []) (k := k) (xs := List.replicate a.length ([] : List Int)) (by rw [List.length_replicate]; exact hlt) [])
      clear hrd hrd2 hb1 hb2
      generalize a.getD k [] = xa at hc1 HR1 hla HUS
      generalize b.getD k [] = xb at hc2 HR2 hlb HUS
      generalize hna : xa.length = na at hc1 HR1 hla
      generalize hnb : xb.length = nb at hc2 HR2 hlb
      have HNA := Lib.hid hna
      have HNB := Lib.hid hnb
      clear hna hnb
      have HA : Hid (Below wr.heap.size wr (wr.alloc (.cells #[.slice A3 na c3, .slice A4 nb c4] 39))) := Lib.hid ((Below.refl _ _).alloc (Nat.le_refl _) _)
      have HRG := Lib.hid (RdG.pair (B := wr.heap.size + 1) (cellsAt_new wr #[.slice A3 na c3, .slice A4 nb c4] 39) ((HR1.out.below HA.out HSZ.out).mono (fun q hq => by have := HSZ.out; omega)) ((HR2.out.below HA.out HSZ.out).mono (fun q hq => by have := HSZ.out; omega)) (by omega))
      have hAS : wr.heap.size + 1 ≤ (wr.alloc (.cells #[.slice A3 na c3, .slice A4 nb c4] 39)).heap.size := by simp
      go_wp2_with fail
      refine (concatR_any _ (wr.heap.size + 1) _ [xa, xb] HRG.out hAS (by simp) (by have := HNA.out; have := HNB.out; simp [tot]; omega)).mono ?_
      rintro e w2 ⟨v2, rfl, b2, o2⟩
      have HO2 := Lib.hid o2
      have HB2 := Lib.hid (HA.out.trans (b2.mono HA.out.size))
      have hb3 := hb.trans (HB2.out.mono hb.size)
      have HG3 := Lib.hid ((HC.out.mono (T := fun b => w.heap.size ≤ b ∧ b < wr.heap.size) (fun q h1 h2 => ⟨h1, h2⟩)).blocks (w' := w2) (fun k hk _ => HB2.out.block k hk.2))
      obtain ⟨A2, n2, c2, rfl⟩ := rdS_sl o2.readB
      clear o2 b2
      have hc := HG3.out.cell HLN.out
      have hf := HG3.out.outer.frozen k
      have HP := Lib.hid (HG3.out.put HLN.out HO2.out (fun q h1 h2 => by simp at h1; omega))
      have HS3 := Lib.hid (Nat.lt_of_lt_of_le HS.out HB2.out.size)
      generalize vs.getD k Value.nilFunc = u2 at hc
      go_wp2
      go_roundw
      case rel => exact ⟨k + 1, _, by omega, by go_num, hb3.setCell (Nat.le_refl _) _, Lib.hid (by rw [nblk_setCell]; exact HS3.out), Lib.hid (by
        have := HP.out
        rw [show [xa, xb].flatten = xa ++ xb by simp, HUS.out] at this
        exact this.mono (T := fun b => w.heap.size ≤ b) (fun q h _ => by have := HB2.out.size; have := hb.size; simp at h; omega))⟩
      case measure => simp [intOf]; omega
    · go_wp2
      go_ret
      refine ⟨.slice (some ⟨w.heap.size, 0, none⟩) a.length a.length, rfl, hb, some ⟨w.heap.size, 0, none⟩, a.length, by rw [jn_len], by rw [jn_len]; exact Nat.le_refl _, Or.inr ⟨_, vs, rfl, ?_⟩⟩
      have := HC.out
      rw [upd_all _ (by rw [List.length_replicate]; omega), jn_upd] at this
      exact this
end Go.Proofs.Ytiiloioobmkicaa
