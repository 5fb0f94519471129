/- Parts of all pairs: the model's helpers. -/
import Derived.Test.YtiiloioobmkicaaDoorJoin1
import Derived.Test.YtiiloioobmkicaaDoorPartR
import Derived.Deep.RegionHeld3
namespace Go.Proofs.YtiiloioobmkicaaDoor
set_option maxRecDepth 100000
open Go Go.RowKit Go.Deep

def parts (f m : Nat) (R : List (List Int)) : List (List Int) := R.map fun x => (x.drop f).take m
theorem parts_len (f m : Nat) (R : List (List Int)) : (parts f m R).length = R.length := by simp [parts]
theorem parts_take {f m k : Nat} {R : List (List Int)} (h : k < R.length) : parts f m (R.take (k + 1)) = parts f m (R.take k) ++ [((R.getD k []).drop f).take m] := by
  rw [take_one h []]
  unfold parts
  rw [List.map_append]
  rfl
theorem parts_first (l : Nat) (R : List (List Int)) : parts 0 l R = firsts l R := rfl
theorem parts_second {p : Int} {n l r : Nat} {R : List (List Int)} (h : Mat p n (l + r) R) : parts l r R = seconds l R := by
  unfold parts seconds
  exact List.map_congr_left fun x hx => List.take_of_length_le (by rw [List.length_drop, (h.2 x hx).1]; omega)
theorem parts_mat {p : Int} {n c f m : Nat} {R : List (List Int)} (h : Mat p n c R) (hc : f + m ≤ c) : Mat p n m (parts f m R) := by
  refine ⟨by rw [parts_len, h.1], fun x hx => ?_⟩
  obtain ⟨y, hy, rfl⟩ := List.mem_map.1 hx
  exact ⟨by rw [List.length_take, List.length_drop, (h.2 y hy).1]; omega, fun z hz => (h.2 y hy).2 z (List.mem_of_mem_drop (List.mem_of_mem_take hz))⟩
theorem rdS_part {w : World} {S : Nat → Prop} {A : Option Addr} {n c f m : Nat} {xs : List Int} (h : RdS w S (.slice A n c) xs) (hl : f + m ≤ xs.length) : RdS w S (.slice (A.map (·.add f)) m (c - f)) ((xs.drop f).take m) :=
  rdS_take (rdS_drop h (by omega)) (by rw [List.length_drop]; omega)
set_option maxHeartbeats 1600000 in
theorem rlPart_any (w : World) (B : Nat) (v : Value) (p : Int) (l r f m : Nat) (tI : Int) (R : List (List Int)) (hv : RdG w B v R) (hB : B ≤ w.heap.size) (hf : fld p = true) (hR : Mat p R.length (l + r) R) (hn : R.length ≤ 1000) (ht : tI = f + m) (hc : f + m ≤ l + r) (hlr : l + r ≤ 1000) :
    Calls Tryd.prog 86 #[.int .i64 p, .agg #[.int .i64 l, .int .i64 r, v], .int .i64 f, .int .i64 tI] w (MadeSp w m (rref p (parts f m R) m)) := by
  obtain ⟨A, cp, rfl⟩ := hv.len
  have HVB := Lib.hid (show Below w.heap.size w ((w.alloc (.cells #[.int .i64 l, .int .i64 r, .slice A R.length cp] tRl)).alloc (.cells #[.int .i64 0, .slice none 0 0] tSp)) by repeat' (first | exact Below.refl _ _ | apply Below.alloc | (simp; done) | (simp; omega)))
  have HV := Lib.hid (hv.below HVB.out hB)
  have hB0 : B ≤ ((w.alloc (.cells #[.int .i64 l, .int .i64 r, .slice A R.length cp] tRl)).alloc (.cells #[.int .i64 0, .slice none 0 0] tSp)).heap.size := Nat.le_trans hB HVB.out.size
  have HY0 := Lib.hid (cellsAt_new' (w.alloc (.cells #[.int .i64 l, .int .i64 r, .slice A R.length cp] tRl)) #[.int .i64 0, .slice none 0 0] tSp _ (w.heap.size + 1) (by simp) rfl)
  have hsz0 : ((w.alloc (.cells #[.int .i64 l, .int .i64 r, .slice A R.length cp] tRl)).alloc (.cells #[.int .i64 0, .slice none 0 0] tSp)).heap.size = w.heap.size + 2 := by simp
  have HX0 := Lib.hid ((cellsAt_new w #[.int .i64 l, .int .i64 r, .slice A R.length cp] tRl).alloc (.cells #[.int .i64 0, .slice none 0 0] tSp))
  have HF := Lib.hid hf
  have HRL := Lib.hid (rows_len' hR (Nat.le_refl (l + r)))
  have HM := Lib.hid (parts_mat hR hc)
  have hf0 : 0 ≤ (f : Int) := by omega
  have ht0 : (f : Int) ≤ tI := by omega
  have ht1 : tI ≤ 1000 := by omega
  have hd0 : 0 ≤ tI - (f : Int) := by omega
  have hd1 : tI - (f : Int) ≤ 1000 := by omega
  have HD := Lib.hid (show tI - (f : Int) = m by omega)
  have HTI := Lib.hid ht
  clear hv hB hf hR ht
  go_enter Tryd.func86, Tryd.ntmps86
  go_upto_region 1 with fail
  generalize ((w.alloc (.cells #[.int .i64 l, .int .i64 r, .slice A R.length cp] tRl)).alloc (.cells #[.int .i64 0, .slice none 0 0] tSp)) = W at HVB HV hB0 HX0 HY0 hsz0 ⊢
  have hW1 : w.heap.size + 2 ≤ W.heap.size := by omega
  clear hsz0
  obtain ⟨hx0, hx1, hx2, hxf0, hxf1, hxf2, hxs⟩ := HX0.out.three
  go_wp2
  go_loopw [15, 9, 11] (fun i o _ wr => ∃ (k : Nat) (vs : List Value), k ≤ R.length ∧ i = .int .i64 k ∧ Hid (Below W.heap.size W wr) ∧ Hid (JoinA wr W.heap.size o vs (parts f m (R.take k)))) (fun i _ _ _ => R.length - (intOf i).toNat)
  case atStart => exact ⟨0, [], Nat.zero_le _, rfl, Lib.hid (Below.refl _ _), Lib.hid ⟨World.ownsRow_nil _ _ _ _, rfl, fun _ h => absurd h (Nat.not_lt_zero _)⟩⟩
  case round =>
    obtain ⟨k, vs, hk, rfl, HB2, HJ⟩ := hrel
    by_cases hlt : k < R.length
    · obtain ⟨b1, o1, A3, c3, rfl, hb1, hc1, hrd⟩ := (HV.out.below HB2.out hB0).at hlt
      have hrl := HRL.out k hlt
      have HRD := Lib.hid (rdS_part (f := f) (m := m) hrd (by omega))
      have HXE := Lib.hid (fun (h : c3 = f) => show m = 0 by
        obtain ⟨A', c', e, kc, _⟩ := hrd
        obtain ⟨-, -, rfl⟩ := sliceEq e
        omega)
      have hcap : (R.getD k []).length ≤ c3 := by
        obtain ⟨A', c', e, kc, _⟩ := hrd
        obtain ⟨-, -, rfl⟩ := sliceEq e
        exact kc
      have htc : tI ≤ (c3 : Int) := by have := HTI.out; omega
      have HNX := Lib.hid (parts_take (f := f) (m := m) hlt)
      have hpl : (parts f m (R.take k)).length ≤ 1000 := by rw [parts_len, List.length_take]; omega
      have hkI : (k : Int) < (R.length : Int) := by omega
      clear hrd hb1 hrl
      generalize ((R.getD k []).drop f).take m = part at HRD HNX
      generalize R.getD k [] = xr at hc1 hcap
      generalize parts f m (R.take k) = ps at HJ HNX hpl
      have HMT := Lib.hid (show tI.toNat - f = m by have := HTI.out; omega)
      have hpln := HJ.out.len
      have HPL := Lib.hid hpln
      clear hpln
      have key : ∀ (u : Value), RdS wr (fun q => q < B) u part → Hid (JoinA (wr.alloc (.cells #[u] 42)) W.heap.size u9 vs ps) ∧ Hid ((wr.alloc (.cells #[u] 42)).cell? ⟨wr.heap.size, 0, none⟩ = some u) ∧ Hid (RdS (wr.alloc (.cells #[u] 42)) (fun q => q < W.heap.size) u part) ∧ Hid (Below W.heap.size W (wr.alloc (.cells #[u] 42))) := fun u hu => by
        have hb : Below wr.heap.size wr (wr.alloc (.cells #[u] 42)) := (Below.refl _ _).alloc (Nat.le_refl _) _
        refine ⟨Lib.hid (HJ.out.below hb HB2.out.size), Lib.hid ?_, Lib.hid ((hu.below hb (Nat.le_trans hB0 HB2.out.size)).mono fun q hq => Nat.lt_of_lt_of_le hq hB0), Lib.hid (HB2.out.trans (hb.mono HB2.out.size))⟩
        have hc := (cellsAt_new wr #[u] 42).cell (i := 0) (by simp)
        rw [hc]; rfl
      have HKEY := Lib.hid key
      clear key
      by_cases hcf : c3 = f
      · have HU := Lib.hid (show RdS wr (fun q => q < B) (.slice A3 (tI.toNat - f) 0) part from by
          have h0 := HXE.out hcf
          rw [HMT.out, h0]
          refine rdS_none (List.length_eq_zero_iff.1 ?_)
          obtain ⟨A', c', e, -, -⟩ := HRD.out
          obtain ⟨-, e2, -⟩ := sliceEq e
          omega)
        obtain ⟨HJ2, HC2, HR2, HB3⟩ := HKEY.out _ HU.out
        go_wp2_with (at_builtin; refine wpList_joinOne (by rfl) (.tmp 19) (.tmp 24) (by rfl) _ W.heap.size _ vs ps wr.heap.size 1 _ part (by rfl) HJ2.out (by rfl) HC2.out HR2.out HB3.out.size (by omega) ?_; intro v2 vs2 w2 hj2 hb2; have HJ3 := Lib.hid hj2; have HB4 := Lib.hid (HB3.out.trans hb2); clear hj2 hb2)
        go_wp2
        go_roundw
        case rel => exact ⟨k + 1, vs2, by omega, by go_num, HB4, Lib.hid (by rw [HNX.out]; exact HJ3.out)⟩
        case measure => simp [intOf]; omega
      · have HU := Lib.hid (show RdS wr (fun q => q < B) (.slice (A3.map (·.add f)) (tI.toNat - f) (c3 - f)) part from by
          rw [HMT.out]
          exact HRD.out)
        obtain ⟨HJ2, HC2, HR2, HB3⟩ := HKEY.out _ HU.out
        go_wp2_with (at_builtin; refine wpList_joinOne (by rfl) (.tmp 19) (.tmp 24) (by rfl) _ W.heap.size _ vs ps wr.heap.size 1 _ part (by rfl) HJ2.out (by rfl) HC2.out HR2.out HB3.out.size (by omega) ?_; intro v2 vs2 w2 hj2 hb2; have HJ3 := Lib.hid hj2; have HB4 := Lib.hid (HB3.out.trans hb2); clear hj2 hb2)
        go_wp2
        go_roundw
        case rel => exact ⟨k + 1, vs2, by omega, by go_num, HB4, Lib.hid (by rw [HNX.out]; exact HJ3.out)⟩
        case measure => simp [intOf]; omega
    · have HK := Lib.hid (show R.take k = R from List.take_of_length_le (by omega))
      rw [HK.out] at HJ
      have HRG := Lib.hid (HJ.out.read HB2.out.size)
      have HY2 := Lib.hid (HY0.out.below HB2.out (by omega))
      have hB2 : W.heap.size ≤ wr.heap.size := HB2.out.size
      clear hx0 hx1 hx2 hxf0 hxf1 hxf2 hxs
      go_wp2_with fail
      rw [HD.out]
      refine (spReduce_any wr wr.heap.size _ p R.length m (parts f m R) HRG.out (Nat.le_refl _) HF.out HM.out (by omega) (by omega)).mono ?_
      rintro e w4 ⟨v4, rfl, b4, o4⟩
      obtain ⟨A4, c4, rfl⟩ := OwG.len o4
      have HB4 := Lib.hid (HB2.out.trans (b4.mono hB2))
      have HO4 := Lib.hid (OwG.mono (T := fun q => W.heap.size ≤ q) o4 (fun q hq _ => Nat.le_trans hB2 hq))
      have HY4 := Lib.hid (HY0.out.below HB4.out (by omega))
      clear b4 o4
      obtain ⟨hy0, hy1, hyf0, hyf1, hys⟩ := HY4.out.two
      have HBE := Lib.hid (HVB.out.trans (HB4.out.mono HVB.out.size))
      go_wp2
      refine bodyPost_ret (v := .agg #[.int .i64 m, .slice A4 (rref p (parts f m R) m).length c4]) (by simp [results, Tryd.results86, go_sem, hy0, hy1]) rfl ?_
      refine ⟨_, rfl, (by refine Below.trans HBE.out ?_; repeat' (first | exact Below.refl _ _ | apply Below.drew | apply Below.setCell | apply Below.alloc | (simp; done) | omega | (simp; omega))), (HO4.out.blocks (fun q hq _ => ?_)).mono (fun q hq _ => by omega)⟩
      repeat rw [blk_setCell_other _ _ _ _ (by dsimp only; omega)]
end Go.Proofs.YtiiloioobmkicaaDoor
