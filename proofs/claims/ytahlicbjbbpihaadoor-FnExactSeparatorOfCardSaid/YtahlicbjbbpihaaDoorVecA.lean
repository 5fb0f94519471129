/- A space and a vector beside it: the program's side. -/
import Derived.Test.YtahlicbjbbpihaaDoorVecS
import Derived.Test.YtahlicbjbbpihaaDoorSpI
namespace Go.Proofs.YtahlicbjbbpihaaDoor
set_option maxRecDepth 100000
open Go Go.RowKit Go.Deep

/-- A new block with one slice reads as one row. -/
theorem RdG.one {w : World} {B b : Nat} {A : Option Addr} {c : Nat} {v : List Int} {t : TypeId} (hc : CellsAt w b t [.slice A v.length c]) (hv : RdS w (fun q => q < B) (.slice A v.length c) v) (hb : b < B) (d : Nat) : RdG w B (.slice (some ⟨b, 0, none⟩) 1 d) [v] := by
  refine ⟨_, d, rfl, fun r hr => ?_⟩
  obtain rfl : r = 0 := by simp at hr; omega
  exact ⟨b, 0, _, rfl, hb, by simpa using hc.cell (i := 0) (by simp), hv⟩
set_option maxHeartbeats 1600000 in
theorem areSpVec_any (w : World) (B : Nat) (vb vv : Value) (p c : Int) (rows : List (List Int)) (v : List Int) (ht : Tab w) (hb : LfG w B vb rows) (hv : LfR w B vv v) (hB : B ≤ w.heap.size) :
    Calls Tryd.prog 70 #[.int .i64 p, .agg #[.int .i64 c, vb], vv] w (SaysB w (vecOk p c rows v)) := by
  obtain ⟨A, cp, rfl⟩ := hb.len
  obtain ⟨Av, cv, rfl⟩ := hv.len
  have HVB := Lib.hid (show Below w.heap.size w (w.alloc (.cells #[.int .i64 c, .slice A rows.length cp] tSp)) from (Below.refl _ _).alloc (Nat.le_refl _) _)
  have HV := Lib.hid (hb.below HVB.out hB)
  have HW := Lib.hid (hv.below HVB.out hB)
  have hB0 : B ≤ (w.alloc (.cells #[.int .i64 c, .slice A rows.length cp] tSp)).heap.size := Nat.le_trans hB HVB.out.size
  have HX0 := Lib.hid (cellsAt_new w #[.int .i64 c, .slice A rows.length cp] tSp)
  have HT := Lib.hid (ht.below HVB.out)
  clear hb hv hB ht
  cases hs : isSp p c rows with
  | false =>
    have HS := Lib.hid hs
    have HOK := Lib.hid (vecOk_sp (v := v) hs)
    clear hs
    go_enter Tryd.func70, Tryd.ntmps70
    go_wp2_with fail
    refine (implIsSpace_any _ B _ p c rows HT.out HV.out hB0).mono ?_
    rintro e w1 ⟨rfl, b1⟩
    rw [HS.out]
    have HB1 := Lib.hid (HVB.out.trans (b1.mono HVB.out.size))
    clear b1
    go_wp2
    go_ret
    rw [HOK.out]
    exact ⟨rfl, HB1.out⟩
  | true =>
    obtain ⟨hf, n, rfl, hn24, -, -, -⟩ := isSp_parts hs
    have HS := Lib.hid hs
    have HOK := Lib.hid ((vecOk_yes (v := v) hs).trans (show rowB p n v = areL p n [v] by rw [areL_rows _ _ _ hf]; simp))
    clear hs hf
    go_enter Tryd.func70, Tryd.ntmps70
    go_wp2_with fail
    refine (implIsSpace_any _ B _ p n rows HT.out HV.out hB0).mono ?_
    rintro e w1 ⟨rfl, b1⟩
    rw [HS.out]
    have HB1 := Lib.hid (HVB.out.trans (b1.mono HVB.out.size))
    have HX1 := Lib.hid (HX0.out.below b1 (by rw [nblk_alloc]; omega))
    have HW1 := Lib.hid (HW.out.below b1 hB0)
    have HT1 := Lib.hid (HT.out.below b1)
    have hs1 : B ≤ w1.heap.size := Nat.le_trans hB0 b1.size
    clear b1
    obtain ⟨hx0, hx1, hxf0, hxf1, hxs⟩ := HX1.out.two
    have HA := Lib.hid (show Below w1.heap.size w1 (w1.alloc (.cells #[.slice Av v.length cv] 33)) from (Below.refl _ _).alloc (Nat.le_refl _) _)
    have HRG := Lib.hid (RdG.one (cellsAt_new w1 #[.slice Av v.length cv] 33) ((HW1.out.1.below HA.out hs1).mono (T := fun q => q < w1.heap.size + 1) (fun q hq => by omega)) (by omega) 1)
    have HTA := Lib.hid (HT1.out.below HA.out)
    go_wp2_with fail
    refine (areLists_any _ (w1.heap.size + 1) _ p n [v] HTA.out HRG.out (by simp) (fun r hr => match r, hr with | 0, _ => HW1.out.2 | _ + 1, h => absurd h (by simp))).mono ?_
    rintro e w' ⟨rfl, rfl⟩
    go_wp2
    go_ret
    rw [HOK.out]
    exact ⟨rfl, HB1.out.trans (HA.out.mono HB1.out.size)⟩
end Go.Proofs.YtahlicbjbbpihaaDoor
