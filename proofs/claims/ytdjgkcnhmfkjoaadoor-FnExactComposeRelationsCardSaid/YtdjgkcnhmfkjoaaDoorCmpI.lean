/- The composition of relations: the closures of the program's helper. -/
import Derived.Test.YtdjgkcnhmfkjoaaDoorPartR
import Derived.Test.YtdjgkcnhmfkjoaaDoorStp
import Derived.Test.YtdjgkcnhmfkjoaaDoorCmpM
import Derived.Test.YtdjgkcnhmfkjoaaDoorOrtI
import Derived.Deep.RegionHeld3
namespace Go.Proofs.YtdjgkcnhmfkjoaaDoor
set_option maxRecDepth 100000
open Go Go.RowKit Go.Deep

set_option maxRecDepth 100000 in
set_option maxHeartbeats 12800000 in
theorem cmpA_any (w : World) (B : Nat) (ba : Nat) (Aa : Option Addr) (na ca : Nat) (la ra : Nat) (bb : Nat) (Ab : Option Addr) (nb cb : Nat) (lb rb : Nat) (u : Value) (xs : List Int) (ha : CellsAt w ba tRl [.int .i64 la, .int .i64 ra, .slice Aa na ca]) (hb : CellsAt w bb tRl [.int .i64 lb, .int .i64 rb, .slice Ab nb cb]) (hu : RdS w (fun q => q < B) u xs) (hB : B ≤ w.heap.size) (hl : la ≤ xs.length) (hn : xs.length ≤ 1000) (_hla : la ≤ 1000) (_hra : ra ≤ 1000) (_hlb : lb ≤ 1000) (hrb : rb ≤ 1000) :
    Calls Tryd.prog 33 #[u, .pointer (some ⟨ba, 0, none⟩), .pointer (some ⟨bb, 0, none⟩)] w (MadeR w (cmpA la rb xs)) := by
  obtain ⟨Au, cu, rfl⟩ := rdS_len hu
  have hqa := ha.three
  have hlba := ha.lt
  have hqb := hb.three
  have hlbb := hb.lt
  have HELD : Hid (∀ w' : World, Hid (Stp w w') → w'.cell? ⟨ba, 0, none⟩ = some (.int .i64 la) ∧ w'.cell? ⟨ba, 1, none⟩ = some (.int .i64 ra) ∧ w'.cell? ⟨ba, 2, none⟩ = some (.slice Aa na ca) ∧ w'.cell? ⟨bb, 0, none⟩ = some (.int .i64 lb) ∧ w'.cell? ⟨bb, 1, none⟩ = some (.int .i64 rb) ∧ w'.cell? ⟨bb, 2, none⟩ = some (.slice Ab nb cb) ∧ Hid (Stp w w')) := Lib.hid (fun w' H => ⟨(H.out.cell (p := ⟨ba, 0, none⟩) hlba).trans hqa.1, (H.out.cell (p := ⟨ba, 1, none⟩) hlba).trans hqa.2.1, (H.out.cell (p := ⟨ba, 2, none⟩) hlba).trans hqa.2.2.1, (H.out.cell (p := ⟨bb, 0, none⟩) hlbb).trans hqb.1, (H.out.cell (p := ⟨bb, 1, none⟩) hlbb).trans hqb.2.1, (H.out.cell (p := ⟨bb, 2, none⟩) hlbb).trans hqb.2.2.1, H⟩)
  have HU := Lib.hid hu
  have hmk2 := make_ints rb (by omega)
  clear hu hqa ha hqb hb
  go_enter Tryd.func33, Tryd.ntmps33
  go_wp2
  go_region_held3 (fun w' => w'.cell? ⟨ba, 0, none⟩ = some (.int .i64 la) ∧ w'.cell? ⟨ba, 1, none⟩ = some (.int .i64 ra) ∧ w'.cell? ⟨ba, 2, none⟩ = some (.slice Aa na ca) ∧ w'.cell? ⟨bb, 0, none⟩ = some (.int .i64 lb) ∧ w'.cell? ⟨bb, 1, none⟩ = some (.int .i64 rb) ∧ w'.cell? ⟨bb, 2, none⟩ = some (.slice Ab nb cb) ∧ Hid (Stp w w'))
    (exact HELD.out _ (by first | assumption | (refine Lib.hid ?_; repeat' (first | exact Stp.refl _ | exact Hid.out (by assumption) | apply Stp.drew | apply Stp.alloc))))
    (first
      | (go_at_call 35; go_split_ands; refine (second_any _ B _ _ la ra xs (HU.out.below (Hid.out (by assumption : Hid (Stp w _))) hB) (Nat.le_trans hB (Hid.out (by assumption : Hid (Stp w _))).size) hl).mono ?_; rintro e w0 ⟨v0, rfl, b0', o0⟩; obtain ⟨A0, n0, c0, rfl⟩ := rdS_sl o0; have HK0 := stk b0'; have HS0 : Hid (Stp w w0) := Lib.hid (Stp.trans (Hid.out (by assumption : Hid (Stp w _))) b0'); have HF0 : Hid (RdS w0 (fun q => q < w0.heap.size) (.slice A0 n0 c0) (xs.drop la)) := Lib.hid (RdS.stpB o0 (Nat.le_trans hB HS0.out.size) (Stp.refl _)); clear b0' o0)
      | (go_at_call 36; go_split_ands; refine (first_any _ B _ _ la ra xs (HU.out.below (Hid.out (by assumption : Hid (Stp w _))) hB) (Nat.le_trans hB (Hid.out (by assumption : Hid (Stp w _))).size) hl).mono ?_; rintro e w1 ⟨v1, rfl, b1', o1⟩; obtain ⟨A1, n1, c1, rfl⟩ := rdS_sl o1; have HK1 := stk b1'; have HS1 : Hid (Stp w w1) := Lib.hid (Stp.trans (Hid.out (by assumption : Hid (Stp w _))) b1'); have HF1 : Hid (RdS w1 (fun q => q < w1.heap.size) (.slice A1 n1 c1) (xs.take la)) := Lib.hid (RdS.stpB o1 (Nat.le_trans hB HS1.out.size) (Stp.refl _)); clear b1' o1)
      | (go_at_call 34; go_split_ands; refine (concat_three (xs.drop la) (xs.take la) (List.replicate rb 0) ?_ ?_ ?_ (by simp; omega) (by first | rfl | simp)).mono ?_; exact (HF0.out.stp (by repeat' (first | exact Stp.refl _ | exact Hid.out (by assumption) | exact Stk.out (by assumption) | apply Stp.alloc | apply Stp.drew | (refine Stp.trans ?_ (Stk.out (by assumption)))))); exact (HF1.out.stp (by repeat' (first | exact Stp.refl _ | exact Hid.out (by assumption) | exact Stk.out (by assumption) | apply Stp.alloc | apply Stp.drew | (refine Stp.trans ?_ (Stk.out (by assumption)))))); exact (made_stp (by repeat' (first | exact Stp.refl _ | exact Hid.out (by assumption) | exact Stk.out (by assumption) | apply Stp.alloc | apply Stp.drew | (refine Stp.trans ?_ (Stk.out (by assumption))))) (by first | rfl | simp)); rintro e wz ⟨vz, rfl, bz, oz⟩; have HSz : Hid (Stp w wz) := Lib.hid (Stp.trans (Hid.out (by assumption : Hid (Stp w _))) bz); have HOz := Lib.hid (OwR.mono (T := fun q => w.heap.size ≤ q) oz (fun q hq _ => Nat.le_trans (Stp.size (by first | exact Stp.refl _ | exact Stp.drew (Stp.refl _) | exact Hid.out (by assumption) | (repeat' (first | exact Stp.refl _ | exact Hid.out (by assumption) | apply Stp.drew | apply Stp.alloc)))) hq)); clear bz oz)
      | fail)
  all_goals go_wp2
  all_goals go_ret
  all_goals (have HOy := HOz.out; rw [show [xs.drop la, xs.take la, List.replicate rb 0].flatten = cmpA la rb xs by simp [cmpA]] at HOy; exact ⟨_, rfl, HSz.out, HOy⟩)
set_option maxRecDepth 100000 in
set_option maxHeartbeats 12800000 in
theorem cmpB_any (w : World) (B : Nat) (bp : Nat) (p : Int) (bb : Nat) (Ab : Option Addr) (nb cb : Nat) (lb rb : Nat) (ba : Nat) (Aa : Option Addr) (na ca : Nat) (la ra : Nat) (u : Value) (xs : List Int) (hp : CellsAt w bp 3 [.int .i64 p]) (hb : CellsAt w bb tRl [.int .i64 lb, .int .i64 rb, .slice Ab nb cb]) (ha : CellsAt w ba tRl [.int .i64 la, .int .i64 ra, .slice Aa na ca]) (hu : RdS w (fun q => q < B) u xs) (hB : B ≤ w.heap.size) (hl : lb ≤ xs.length) (hn : xs.length ≤ 1000) (hla : la ≤ 1000) (_hra : ra ≤ 1000) (_hlb : lb ≤ 1000) (_hrb : rb ≤ 1000) (hp1 : 2 ≤ p) (hp2 : p ≤ 97) (hvt : Vec p lb (xs.take lb)) :
    Calls Tryd.prog 37 #[u, .pointer (some ⟨bp, 0, none⟩), .pointer (some ⟨bb, 0, none⟩), .pointer (some ⟨ba, 0, none⟩)] w (MadeR w (cmpB p la lb xs)) := by
  obtain ⟨Au, cu, rfl⟩ := rdS_len hu
  have hqp : w.cell? ⟨bp, 0, none⟩ = some (.int .i64 p) := hp.cell (i := 0) (by simp)
  have hlbp := hp.lt
  have hqb := hb.three
  have hlbb := hb.lt
  have hqa := ha.three
  have hlba := ha.lt
  have HELD : Hid (∀ w' : World, Hid (Stp w w') → w'.cell? ⟨bp, 0, none⟩ = some (.int .i64 p) ∧ w'.cell? ⟨bb, 0, none⟩ = some (.int .i64 lb) ∧ w'.cell? ⟨bb, 1, none⟩ = some (.int .i64 rb) ∧ w'.cell? ⟨bb, 2, none⟩ = some (.slice Ab nb cb) ∧ w'.cell? ⟨ba, 0, none⟩ = some (.int .i64 la) ∧ w'.cell? ⟨ba, 1, none⟩ = some (.int .i64 ra) ∧ w'.cell? ⟨ba, 2, none⟩ = some (.slice Aa na ca) ∧ Hid (Stp w w')) := Lib.hid (fun w' H => ⟨(H.out.cell (p := ⟨bp, 0, none⟩) hlbp).trans hqp, (H.out.cell (p := ⟨bb, 0, none⟩) hlbb).trans hqb.1, (H.out.cell (p := ⟨bb, 1, none⟩) hlbb).trans hqb.2.1, (H.out.cell (p := ⟨bb, 2, none⟩) hlbb).trans hqb.2.2.1, (H.out.cell (p := ⟨ba, 0, none⟩) hlba).trans hqa.1, (H.out.cell (p := ⟨ba, 1, none⟩) hlba).trans hqa.2.1, (H.out.cell (p := ⟨ba, 2, none⟩) hlba).trans hqa.2.2.1, H⟩)
  have HU := Lib.hid hu
  have hmk1 := make_ints la (by omega)
  have HVT := Lib.hid hvt
  clear hu hqp hp hqb hb hqa ha
  go_enter Tryd.func37, Tryd.ntmps37
  go_wp2
  go_region_held3 (fun w' => w'.cell? ⟨bp, 0, none⟩ = some (.int .i64 p) ∧ w'.cell? ⟨bb, 0, none⟩ = some (.int .i64 lb) ∧ w'.cell? ⟨bb, 1, none⟩ = some (.int .i64 rb) ∧ w'.cell? ⟨bb, 2, none⟩ = some (.slice Ab nb cb) ∧ w'.cell? ⟨ba, 0, none⟩ = some (.int .i64 la) ∧ w'.cell? ⟨ba, 1, none⟩ = some (.int .i64 ra) ∧ w'.cell? ⟨ba, 2, none⟩ = some (.slice Aa na ca) ∧ Hid (Stp w w'))
    (exact HELD.out _ (by first | assumption | (refine Lib.hid ?_; repeat' (first | exact Stp.refl _ | exact Hid.out (by assumption) | apply Stp.drew | apply Stp.alloc))))
    (first
      | (go_at_call 36; go_split_ands; refine (first_any _ B _ _ lb rb xs (HU.out.below (Hid.out (by assumption : Hid (Stp w _))) hB) (Nat.le_trans hB (Hid.out (by assumption : Hid (Stp w _))).size) hl).mono ?_; rintro e w0 ⟨v0, rfl, b0', o0⟩; obtain ⟨A0, n0, c0, rfl⟩ := rdS_sl o0; have HK0 := stk b0'; have HS0 : Hid (Stp w w0) := Lib.hid (Stp.trans (Hid.out (by assumption : Hid (Stp w _))) b0'); have HF0 : Hid (RdS w0 (fun q => q < w0.heap.size) (.slice A0 n0 c0) (xs.take lb)) := Lib.hid (RdS.stpB o0 (Nat.le_trans hB HS0.out.size) (Stp.refl _)); clear b0' o0)
      | (go_at_call 38; go_split_ands; refine (negativeOf_any _ _ _ p lb (xs.take lb) (HF0.out.stp (by repeat' (first | exact Stp.refl _ | exact Hid.out (by assumption) | exact Stk.out (by assumption) | apply Stp.alloc | apply Stp.drew | (refine Stp.trans ?_ (Stk.out (by assumption)))))) (Nat.le_refl _) hp1 hp2 HVT.out (by omega)).mono ?_; rintro e wn ⟨vn, rfl, bn', on⟩; obtain ⟨An, nn, cn, rfl⟩ := rdS_sl on.readB; have HKn := stk bn'; have HSn : Hid (Stp w wn) := Lib.hid (Stp.trans (Hid.out (by assumption : Hid (Stp w _))) bn'); have HFn : Hid (RdS wn (fun q => q < wn.heap.size) (.slice An nn cn) (negl p (xs.take lb))) := Lib.hid on.readB; clear bn' on)
      | (go_at_call 35; go_split_ands; refine (second_any _ B _ _ lb rb xs (HU.out.below (Hid.out (by assumption : Hid (Stp w _))) hB) (Nat.le_trans hB (Hid.out (by assumption : Hid (Stp w _))).size) hl).mono ?_; rintro e w2 ⟨v2, rfl, b2', o2⟩; obtain ⟨A2, n2, c2, rfl⟩ := rdS_sl o2; have HK2 := stk b2'; have HS2 : Hid (Stp w w2) := Lib.hid (Stp.trans (Hid.out (by assumption : Hid (Stp w _))) b2'); have HF2 : Hid (RdS w2 (fun q => q < w2.heap.size) (.slice A2 n2 c2) (xs.drop lb)) := Lib.hid (RdS.stpB o2 (Nat.le_trans hB HS2.out.size) (Stp.refl _)); clear b2' o2)
      | (go_at_call 34; go_split_ands; refine (concat_three (negl p (xs.take lb)) (List.replicate la 0) (xs.drop lb) ?_ ?_ ?_ (by simp [negl_len]; omega) (by first | rfl | simp)).mono ?_; exact (HFn.out.stp (by repeat' (first | exact Stp.refl _ | exact Hid.out (by assumption) | exact Stk.out (by assumption) | apply Stp.alloc | apply Stp.drew | (refine Stp.trans ?_ (Stk.out (by assumption)))))); exact (made_stp (by repeat' (first | exact Stp.refl _ | exact Hid.out (by assumption) | exact Stk.out (by assumption) | apply Stp.alloc | apply Stp.drew | (refine Stp.trans ?_ (Stk.out (by assumption))))) (by first | rfl | simp)); exact (HF2.out.stp (by repeat' (first | exact Stp.refl _ | exact Hid.out (by assumption) | exact Stk.out (by assumption) | apply Stp.alloc | apply Stp.drew | (refine Stp.trans ?_ (Stk.out (by assumption)))))); rintro e wz ⟨vz, rfl, bz, oz⟩; have HSz : Hid (Stp w wz) := Lib.hid (Stp.trans (Hid.out (by assumption : Hid (Stp w _))) bz); have HOz := Lib.hid (OwR.mono (T := fun q => w.heap.size ≤ q) oz (fun q hq _ => Nat.le_trans (Stp.size (by first | exact Stp.refl _ | exact Stp.drew (Stp.refl _) | exact Hid.out (by assumption) | (repeat' (first | exact Stp.refl _ | exact Hid.out (by assumption) | apply Stp.drew | apply Stp.alloc)))) hq)); clear bz oz)
      | fail)
  all_goals go_wp2
  all_goals go_ret
  all_goals (have HOy := HOz.out; rw [show [negl p (xs.take lb), List.replicate la 0, xs.drop lb].flatten = cmpB p la lb xs by simp [cmpB, negl]] at HOy; exact ⟨_, rfl, HSz.out, HOy⟩)
end Go.Proofs.YtdjgkcnhmfkjoaaDoor
