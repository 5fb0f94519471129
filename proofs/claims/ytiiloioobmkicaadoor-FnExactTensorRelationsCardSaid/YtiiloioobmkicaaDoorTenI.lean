/- The juxtaposition of relations: the closures of the program's helper. -/
import Derived.Test.YtiiloioobmkicaaDoorPartR
import Derived.Test.YtiiloioobmkicaaDoorStp
import Derived.Test.YtiiloioobmkicaaDoorTenM
import Derived.Deep.RegionHeld3
namespace Go.Proofs.YtiiloioobmkicaaDoor
set_option maxRecDepth 100000
open Go Go.RowKit Go.Deep

set_option maxRecDepth 100000 in
set_option maxHeartbeats 12800000 in
theorem tenA_any (w : World) (B : Nat) (ba : Nat) (Aa : Option Addr) (na ca : Nat) (la ra : Nat) (bb : Nat) (Ab : Option Addr) (nb cb : Nat) (lb rb : Nat) (u : Value) (xs : List Int) (ha : CellsAt w ba tRl [.int .i64 la, .int .i64 ra, .slice Aa na ca]) (hb : CellsAt w bb tRl [.int .i64 lb, .int .i64 rb, .slice Ab nb cb]) (hu : RdS w (fun q => q < B) u xs) (hB : B ≤ w.heap.size) (hl : la ≤ xs.length) (hn : xs.length ≤ 1000) (_hla : la ≤ 1000) (_hra : ra ≤ 1000) (hlb : lb ≤ 1000) (hrb : rb ≤ 1000) :
    Calls Tryd.prog 78 #[u, .pointer (some ⟨ba, 0, none⟩), .pointer (some ⟨bb, 0, none⟩)] w (MadeR w (ten1 la lb rb xs)) := by
  obtain ⟨Au, cu, rfl⟩ := rdS_len hu
  have hqa := ha.three
  have hlba := ha.lt
  have hqb := hb.three
  have hlbb := hb.lt
  have HELD : Hid (∀ w' : World, Hid (Stp w w') → w'.cell? ⟨ba, 0, none⟩ = some (.int .i64 la) ∧ w'.cell? ⟨ba, 1, none⟩ = some (.int .i64 ra) ∧ w'.cell? ⟨ba, 2, none⟩ = some (.slice Aa na ca) ∧ w'.cell? ⟨bb, 0, none⟩ = some (.int .i64 lb) ∧ w'.cell? ⟨bb, 1, none⟩ = some (.int .i64 rb) ∧ w'.cell? ⟨bb, 2, none⟩ = some (.slice Ab nb cb) ∧ Hid (Stp w w')) := Lib.hid (fun w' H => ⟨(H.out.cell (p := ⟨ba, 0, none⟩) hlba).trans hqa.1, (H.out.cell (p := ⟨ba, 1, none⟩) hlba).trans hqa.2.1, (H.out.cell (p := ⟨ba, 2, none⟩) hlba).trans hqa.2.2.1, (H.out.cell (p := ⟨bb, 0, none⟩) hlbb).trans hqb.1, (H.out.cell (p := ⟨bb, 1, none⟩) hlbb).trans hqb.2.1, (H.out.cell (p := ⟨bb, 2, none⟩) hlbb).trans hqb.2.2.1, H⟩)
  have HU := Lib.hid hu
  have hmk1 := make_ints lb (by omega)
  have hmk3 := make_ints rb (by omega)
  clear hu hqa ha hqb hb
  go_enter Tryd.func78, Tryd.ntmps78
  go_wp2
  go_region_held3 (fun w' => w'.cell? ⟨ba, 0, none⟩ = some (.int .i64 la) ∧ w'.cell? ⟨ba, 1, none⟩ = some (.int .i64 ra) ∧ w'.cell? ⟨ba, 2, none⟩ = some (.slice Aa na ca) ∧ w'.cell? ⟨bb, 0, none⟩ = some (.int .i64 lb) ∧ w'.cell? ⟨bb, 1, none⟩ = some (.int .i64 rb) ∧ w'.cell? ⟨bb, 2, none⟩ = some (.slice Ab nb cb) ∧ Hid (Stp w w'))
    (exact HELD.out _ (by first | assumption | (refine Lib.hid ?_; repeat' (first | exact Stp.refl _ | exact Hid.out (by assumption) | apply Stp.drew | apply Stp.alloc))))
    (first
      | (go_at_call 74; go_split_ands; refine (first_any _ B _ _ la ra xs (HU.out.below (Hid.out (by assumption : Hid (Stp w _))) hB) (Nat.le_trans hB (Hid.out (by assumption : Hid (Stp w _))).size) hl).mono ?_; rintro e w0 ⟨v0, rfl, b0', o0⟩; obtain ⟨A0, n0, c0, rfl⟩ := rdS_sl o0; have HK0 := stk b0'; have HS0 : Hid (Stp w w0) := Lib.hid (Stp.trans (Hid.out (by assumption : Hid (Stp w _))) b0'); have HF0 : Hid (RdS w0 (fun q => q < w0.heap.size) (.slice A0 n0 c0) (xs.take la)) := Lib.hid (RdS.stpB o0 (Nat.le_trans hB HS0.out.size) (Stp.refl _)); clear b0' o0)
      | (go_at_call 54; go_split_ands; refine (second_any _ B _ _ la ra xs (HU.out.below (Hid.out (by assumption : Hid (Stp w _))) hB) (Nat.le_trans hB (Hid.out (by assumption : Hid (Stp w _))).size) hl).mono ?_; rintro e w2 ⟨v2, rfl, b2', o2⟩; obtain ⟨A2, n2, c2, rfl⟩ := rdS_sl o2; have HK2 := stk b2'; have HS2 : Hid (Stp w w2) := Lib.hid (Stp.trans (Hid.out (by assumption : Hid (Stp w _))) b2'); have HF2 : Hid (RdS w2 (fun q => q < w2.heap.size) (.slice A2 n2 c2) (xs.drop la)) := Lib.hid (RdS.stpB o2 (Nat.le_trans hB HS2.out.size) (Stp.refl _)); clear b2' o2)
      | (go_at_call 73; go_split_ands; refine (concat_four (xs.take la) (List.replicate lb 0) (xs.drop la) (List.replicate rb 0) ?_ ?_ ?_ ?_ (by simp; omega) (by first | rfl | simp)).mono ?_; exact (HF0.out.stp (by repeat' (first | exact Stp.refl _ | exact Hid.out (by assumption) | exact Stk.out (by assumption) | apply Stp.alloc | apply Stp.drew | (refine Stp.trans ?_ (Stk.out (by assumption)))))); exact (made_stp (by repeat' (first | exact Stp.refl _ | exact Hid.out (by assumption) | exact Stk.out (by assumption) | apply Stp.alloc | apply Stp.drew | (refine Stp.trans ?_ (Stk.out (by assumption))))) (by first | rfl | simp)); exact (HF2.out.stp (by repeat' (first | exact Stp.refl _ | exact Hid.out (by assumption) | exact Stk.out (by assumption) | apply Stp.alloc | apply Stp.drew | (refine Stp.trans ?_ (Stk.out (by assumption)))))); exact (made_stp (by repeat' (first | exact Stp.refl _ | exact Hid.out (by assumption) | exact Stk.out (by assumption) | apply Stp.alloc | apply Stp.drew | (refine Stp.trans ?_ (Stk.out (by assumption))))) (by first | rfl | simp)); rintro e wz ⟨vz, rfl, bz, oz⟩; have HSz : Hid (Stp w wz) := Lib.hid (Stp.trans (Hid.out (by assumption : Hid (Stp w _))) bz); have HOz := Lib.hid (OwR.mono (T := fun q => w.heap.size ≤ q) oz (fun q hq _ => Nat.le_trans (Stp.size (by first | exact Stp.refl _ | exact Stp.drew (Stp.refl _) | exact Hid.out (by assumption) | (repeat' (first | exact Stp.refl _ | exact Hid.out (by assumption) | apply Stp.drew | apply Stp.alloc)))) hq)); clear bz oz)
      | fail)
  all_goals go_wp2
  all_goals go_ret
  all_goals exact ⟨_, rfl, HSz.out, HOz.out⟩
set_option maxRecDepth 100000 in
set_option maxHeartbeats 12800000 in
theorem tenB_any (w : World) (B : Nat) (ba : Nat) (Aa : Option Addr) (na ca : Nat) (la ra : Nat) (bb : Nat) (Ab : Option Addr) (nb cb : Nat) (lb rb : Nat) (u : Value) (xs : List Int) (ha : CellsAt w ba tRl [.int .i64 la, .int .i64 ra, .slice Aa na ca]) (hb : CellsAt w bb tRl [.int .i64 lb, .int .i64 rb, .slice Ab nb cb]) (hu : RdS w (fun q => q < B) u xs) (hB : B ≤ w.heap.size) (hl : lb ≤ xs.length) (hn : xs.length ≤ 1000) (hla : la ≤ 1000) (hra : ra ≤ 1000) (_hlb : lb ≤ 1000) (_hrb : rb ≤ 1000) :
    Calls Tryd.prog 79 #[u, .pointer (some ⟨ba, 0, none⟩), .pointer (some ⟨bb, 0, none⟩)] w (MadeR w (ten2 la ra lb xs)) := by
  obtain ⟨Au, cu, rfl⟩ := rdS_len hu
  have hqa := ha.three
  have hlba := ha.lt
  have hqb := hb.three
  have hlbb := hb.lt
  have HELD : Hid (∀ w' : World, Hid (Stp w w') → w'.cell? ⟨ba, 0, none⟩ = some (.int .i64 la) ∧ w'.cell? ⟨ba, 1, none⟩ = some (.int .i64 ra) ∧ w'.cell? ⟨ba, 2, none⟩ = some (.slice Aa na ca) ∧ w'.cell? ⟨bb, 0, none⟩ = some (.int .i64 lb) ∧ w'.cell? ⟨bb, 1, none⟩ = some (.int .i64 rb) ∧ w'.cell? ⟨bb, 2, none⟩ = some (.slice Ab nb cb) ∧ Hid (Stp w w')) := Lib.hid (fun w' H => ⟨(H.out.cell (p := ⟨ba, 0, none⟩) hlba).trans hqa.1, (H.out.cell (p := ⟨ba, 1, none⟩) hlba).trans hqa.2.1, (H.out.cell (p := ⟨ba, 2, none⟩) hlba).trans hqa.2.2.1, (H.out.cell (p := ⟨bb, 0, none⟩) hlbb).trans hqb.1, (H.out.cell (p := ⟨bb, 1, none⟩) hlbb).trans hqb.2.1, (H.out.cell (p := ⟨bb, 2, none⟩) hlbb).trans hqb.2.2.1, H⟩)
  have HU := Lib.hid hu
  have hmk0 := make_ints la (by omega)
  have hmk2 := make_ints ra (by omega)
  clear hu hqa ha hqb hb
  go_enter Tryd.func79, Tryd.ntmps79
  go_wp2
  go_region_held3 (fun w' => w'.cell? ⟨ba, 0, none⟩ = some (.int .i64 la) ∧ w'.cell? ⟨ba, 1, none⟩ = some (.int .i64 ra) ∧ w'.cell? ⟨ba, 2, none⟩ = some (.slice Aa na ca) ∧ w'.cell? ⟨bb, 0, none⟩ = some (.int .i64 lb) ∧ w'.cell? ⟨bb, 1, none⟩ = some (.int .i64 rb) ∧ w'.cell? ⟨bb, 2, none⟩ = some (.slice Ab nb cb) ∧ Hid (Stp w w'))
    (exact HELD.out _ (by first | assumption | (refine Lib.hid ?_; repeat' (first | exact Stp.refl _ | exact Hid.out (by assumption) | apply Stp.drew | apply Stp.alloc))))
    (first
      | (go_at_call 74; go_split_ands; refine (first_any _ B _ _ lb rb xs (HU.out.below (Hid.out (by assumption : Hid (Stp w _))) hB) (Nat.le_trans hB (Hid.out (by assumption : Hid (Stp w _))).size) hl).mono ?_; rintro e w1 ⟨v1, rfl, b1', o1⟩; obtain ⟨A1, n1, c1, rfl⟩ := rdS_sl o1; have HK1 := stk b1'; have HS1 : Hid (Stp w w1) := Lib.hid (Stp.trans (Hid.out (by assumption : Hid (Stp w _))) b1'); have HF1 : Hid (RdS w1 (fun q => q < w1.heap.size) (.slice A1 n1 c1) (xs.take lb)) := Lib.hid (RdS.stpB o1 (Nat.le_trans hB HS1.out.size) (Stp.refl _)); clear b1' o1)
      | (go_at_call 54; go_split_ands; refine (second_any _ B _ _ lb rb xs (HU.out.below (Hid.out (by assumption : Hid (Stp w _))) hB) (Nat.le_trans hB (Hid.out (by assumption : Hid (Stp w _))).size) hl).mono ?_; rintro e w3 ⟨v3, rfl, b3', o3⟩; obtain ⟨A3, n3, c3, rfl⟩ := rdS_sl o3; have HK3 := stk b3'; have HS3 : Hid (Stp w w3) := Lib.hid (Stp.trans (Hid.out (by assumption : Hid (Stp w _))) b3'); have HF3 : Hid (RdS w3 (fun q => q < w3.heap.size) (.slice A3 n3 c3) (xs.drop lb)) := Lib.hid (RdS.stpB o3 (Nat.le_trans hB HS3.out.size) (Stp.refl _)); clear b3' o3)
      | (go_at_call 73; go_split_ands; refine (concat_four (List.replicate la 0) (xs.take lb) (List.replicate ra 0) (xs.drop lb) ?_ ?_ ?_ ?_ (by simp; omega) (by first | rfl | simp)).mono ?_; exact (made_stp (by repeat' (first | exact Stp.refl _ | exact Hid.out (by assumption) | exact Stk.out (by assumption) | apply Stp.alloc | apply Stp.drew | (refine Stp.trans ?_ (Stk.out (by assumption))))) (by first | rfl | simp)); exact (HF1.out.stp (by repeat' (first | exact Stp.refl _ | exact Hid.out (by assumption) | exact Stk.out (by assumption) | apply Stp.alloc | apply Stp.drew | (refine Stp.trans ?_ (Stk.out (by assumption)))))); exact (made_stp (by repeat' (first | exact Stp.refl _ | exact Hid.out (by assumption) | exact Stk.out (by assumption) | apply Stp.alloc | apply Stp.drew | (refine Stp.trans ?_ (Stk.out (by assumption))))) (by first | rfl | simp)); exact (HF3.out.stp (by repeat' (first | exact Stp.refl _ | exact Hid.out (by assumption) | exact Stk.out (by assumption) | apply Stp.alloc | apply Stp.drew | (refine Stp.trans ?_ (Stk.out (by assumption)))))); rintro e wz ⟨vz, rfl, bz, oz⟩; have HSz : Hid (Stp w wz) := Lib.hid (Stp.trans (Hid.out (by assumption : Hid (Stp w _))) bz); have HOz := Lib.hid (OwR.mono (T := fun q => w.heap.size ≤ q) oz (fun q hq _ => Nat.le_trans (Stp.size (by first | exact Stp.refl _ | exact Stp.drew (Stp.refl _) | exact Hid.out (by assumption) | (repeat' (first | exact Stp.refl _ | exact Hid.out (by assumption) | apply Stp.drew | apply Stp.alloc)))) hq)); clear bz oz)
      | fail)
  all_goals go_wp2
  all_goals go_ret
  all_goals exact ⟨_, rfl, HSz.out, HOz.out⟩
end Go.Proofs.YtiiloioobmkicaaDoor
