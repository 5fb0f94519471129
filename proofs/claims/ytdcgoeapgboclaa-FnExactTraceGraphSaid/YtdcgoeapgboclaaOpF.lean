/- The program's open graphs: whether an edge is bad, and all wires in one row. -/
import Derived.Test.YtdcgoeapgboclaaOpE
namespace Go.Proofs.Ytdcgoeapgboclaa
set_option maxRecDepth 100000
open Go Go.RowKit Go.Deep

set_option maxHeartbeats 1600000 in
theorem oeBad_any (w : World) (e : Ed) (A1 A2 : Option Addr) (c1 c2 : Nat) :
    Calls Try.prog 84 #[oeV (.slice A1 e.i.length c1) (.slice A2 e.o.length c2) e.k e.v] w (SaysB w (!edP e)) := by
  have HV := Lib.hid (fun w0 => oeValid_any w0 e A1 A2 c1 c2)
  unfold oeV at *
  go_enter Try.func84, Try.ntmps84
  go_wp2_with fail
  refine (HV.out _).mono ?_
  rintro x w2 ⟨rfl, b2⟩
  have HB2 := Lib.hid (((Below.refl w.heap.size w).alloc (Nat.le_refl _) _).trans (b2.mono (by simp)))
  clear b2
  cases hp : edP e with
  | true =>
    go_wp2
    go_ret
    exact ⟨by rw [hp]; rfl, HB2.out⟩
  | false =>
    go_wp2
    go_ret
    exact ⟨by rw [hp]; rfl, HB2.out⟩
theorem anyE_yes {x : List Ed} {f : Ed → Bool} {k : Nat} (hk : k < x.length) (h : f (x.getD k ed0) = true) : x.any f = true := by
  rw [List.any_eq_true]
  refine ⟨x.getD k ed0, ?_, h⟩
  rw [List.getD_eq_getElem?_getD, List.getElem?_eq_getElem hk]
  exact List.getElem_mem hk
theorem anyE_no {x : List Ed} {f : Ed → Bool} (h : ∀ j, j < x.length → f (x.getD j ed0) = false) : x.any f = false := by
  rw [List.any_eq_false]
  intro e he
  obtain ⟨j, hj, rfl⟩ := List.getElem_of_mem he
  have := h j hj
  rw [List.getD_eq_getElem?_getD, List.getElem?_eq_getElem hj] at this
  simpa using this
set_option maxRecDepth 100000 in
set_option maxHeartbeats 3200000 in
theorem indexE_any (w : World) (B : Nat) (v : Value) (x : List Ed) (hv : RdO w B v x) (hB : B ≤ w.heap.size) (hn : x.length ≤ 1000000) :
    Calls Try.prog 97 #[v, .func (.func 84) #[] #[]] w
      fun e w' => ∃ i : Int, e = .returned (.int .i64 i) ∧ (0 ≤ i ↔ x.any (fun e => !edP e) = true) ∧ Below w.heap.size w w' := by
  obtain ⟨A, c, rfl⟩ := hv.len
  have HV := Lib.hid hv
  clear hv
  go_enter Try.func97, Try.ntmps97
  go_wp2
  go_loopw [8] (fun i wr => ∃ k : Nat, k ≤ x.length ∧ i = .int .i64 k ∧ Hid (Below w.heap.size w wr) ∧ Hid (∀ j, j < k → (!edP (x.getD j ed0)) = false)) (fun i _ => x.length - (intOf i).toNat)
  case atStart => exact ⟨0, Nat.zero_le _, rfl, Lib.hid (Below.refl _ _), Lib.hid fun j hj => absurd hj (Nat.not_lt_zero j)⟩
  case round =>
    obtain ⟨k, hk, rfl, HB2, HS⟩ := hrel
    by_cases hlt : k < x.length
    · obtain ⟨b1, o1, A1, c1, A2, c2, rfl, hb1, hc0, hc1, hc2, hc3, hc4, -, -⟩ := (HV.out.below HB2.out hB).at hlt
      have hkI : (k : Int) < (x.length : Int) := by omega
      have HFX0 := Lib.hid (fun w0 => oeBad_any w0 (x.getD k ed0) A1 A2 c1 c2)
      clear hb1
      cases hfx : (!edP (x.getD k ed0)) with
      | false =>
        rw [hfx] at HFX0
        have HS2 := Lib.hid (show ∀ j, j < k + 1 → (!edP (x.getD j ed0)) = false from fun j hj => by
          by_cases c : j = k
          · rw [c]; exact hfx
          · exact HS.out j (by omega))
        clear hfx
        generalize x.getD k ed0 = ed at hc0 hc1 hc2 hc3 hc4 HFX0
        unfold oeV at HFX0
        go_wp2_with fail
        refine (HFX0.out _).mono ?_
        rintro e w2 ⟨rfl, b2⟩
        have HB3 := Lib.hid (HB2.out.trans (b2.mono HB2.out.size))
        clear b2
        go_wp2
        go_roundw
        case rel => exact ⟨k + 1, by omega, by go_num, HB3, HS2⟩
        case measure => simp [intOf]; omega
      | true =>
        rw [hfx] at HFX0
        have HY := Lib.hid (anyE_yes (f := fun e => !edP e) hlt hfx)
        clear hfx
        generalize x.getD k ed0 = ed at hc0 hc1 hc2 hc3 hc4 HFX0
        unfold oeV at HFX0
        go_wp2_with fail
        refine (HFX0.out _).mono ?_
        rintro e w2 ⟨rfl, b2⟩
        have HB3 := Lib.hid (HB2.out.trans (b2.mono HB2.out.size))
        clear b2
        go_wp2
        go_ret
        exact ⟨k, rfl, by rw [HY.out]; simp, HB3.out⟩
    · have HN := Lib.hid (anyE_no (f := fun e => !edP e) fun j hj => HS.out j (by omega))
      have hkI : ¬ (k : Int) < (x.length : Int) := by omega
      go_wp2
      go_ret
      exact ⟨-1, rfl, by simpa using HN.out, HB2.out⟩
set_option maxHeartbeats 1600000 in
theorem anyBad_any (w : World) (B : Nat) (v : Value) (x : List Ed) (hv : RdO w B v x) (hB : B ≤ w.heap.size) (hn : x.length ≤ 1000000) :
    Calls Try.prog 83 #[v, .func (.func 84) #[] #[]] w (SaysB w (x.any fun e => !edP e)) := by
  obtain ⟨A, c, rfl⟩ := hv.len
  have HI := Lib.hid (indexE_any w B _ x hv hB hn)
  clear hv
  go_enter Try.func83, Try.ntmps83
  go_wp2_with fail
  refine HI.out.mono ?_
  rintro e w2 ⟨i, rfl, hi, b2⟩
  have HII := Lib.hid hi
  have HB2 := Lib.hid b2
  clear hi b2
  go_wp2
  go_ret
  refine ⟨congrArg (fun b => Ending.returned (Value.bool b)) ?_, HB2.out⟩
  have := HII.out
  rw [Bool.eq_iff_iff, ← this]
  simp
/-- All wires in all lists. -/
def occL (es : List Ed) (xi xo : List Int) : List Int := xi ++ xo ++ (es.map fun e => e.i ++ e.o).flatten
theorem occ_step {es : List Ed} {k : Nat} (h : k < es.length) (xi xo : List Int) : occL (es.take (k + 1)) xi xo = occL (es.take k) xi xo ++ ((es.getD k ed0).i ++ (es.getD k ed0).o) := by
  have e : es.take (k + 1) = es.take k ++ [es.getD k ed0] := by
    rw [List.take_add_one, List.getD_eq_getElem?_getD, List.getElem?_eq_getElem h]
    rfl
  unfold occL
  rw [e, List.map_append, List.flatten_append]
  simp [List.append_assoc]
theorem occ_take_len (es : List Ed) (xi xo : List Int) (k : Nat) : (occL (es.take k) xi xo).length ≤ (occL es xi xo).length := by
  unfold occL
  conv => rhs; rw [← List.take_append_drop k es, List.map_append, List.flatten_append]
  simp only [List.length_append]
  omega
set_option maxRecDepth 100000 in
set_option maxHeartbeats 3200000 in
theorem occ_any (w : World) (B : Nat) (ui uo ue : Value) (n : Int) (es : List Ed) (xi xo : List Int) (hi : RdS w (fun q => q < B) ui xi) (ho : RdS w (fun q => q < B) uo xo) (he : RdO w B ue es) (hB : B ≤ w.heap.size) (hl : (occL es xi xo).length ≤ 1000000) (hn : es.length ≤ 1000000) :
    Calls Try.prog 52 #[ogV ui uo n ue] w (MadeR w (occL es xi xo)) := by
  obtain ⟨A1, c1, rfl⟩ : ∃ A c, ui = .slice A xi.length c := by obtain ⟨A, c, e, _⟩ := hi; exact ⟨A, c, e⟩
  obtain ⟨A2, c2, rfl⟩ : ∃ A c, uo = .slice A xo.length c := by obtain ⟨A, c, e, _⟩ := ho; exact ⟨A, c, e⟩
  obtain ⟨AE, cE, rfl⟩ := he.len
  have HI := Lib.hid hi
  have HO := Lib.hid ho
  have HE := Lib.hid he
  have HL := Lib.hid hl
  have HBB := Lib.hid hB
  have hx : xi.length + xo.length ≤ 1000000 := by have := occ_take_len es xi xo 0; simp [occL] at this; simp [occL] at hl; omega
  clear hi ho he hl
  unfold ogV
  go_enter Try.func52, Try.ntmps52
  go_wp2_with fail
  refine (bothA_any _ B _ _ xi xo (HI.out.below ((Below.refl _ _).alloc (Nat.le_refl _) _) HBB.out) (HO.out.below ((Below.refl _ _).alloc (Nat.le_refl _) _) HBB.out) (by have := HBB.out; simp; omega) hx).mono ?_
  rintro e w2 ⟨v, rfl, b, o⟩
  have HB2 := Lib.hid (((Below.refl w.heap.size w).alloc (Nat.le_refl _) _).trans (b.mono (by simp)))
  have hbx : w2.cell? ⟨w.heap.size, 3, none⟩ = some (.slice AE es.length cE) := box_cell ((b.block w.heap.size (by simp)).trans (blk_alloc_new w _)) 3
  have HRA := Lib.hid (show RowA w2 w.heap.size v (occL (es.take 0) xi xo) from by simpa [occL] using o.lower (by simp))
  clear b o
  go_wp2
  go_loopw [12, 3] (fun i z wr => ∃ k : Nat, k ≤ es.length ∧ i = .int .i64 k ∧ Hid (Below w.heap.size w wr) ∧ Hid (RowA wr w.heap.size z (occL (es.take k) xi xo))) (fun i _ _ => es.length - (intOf i).toNat)
  case atStart => exact ⟨0, Nat.zero_le _, rfl, HB2, HRA⟩
  case round =>
    obtain ⟨k, hk, rfl, HB3, HR⟩ := hrel
    by_cases hlt : k < es.length
    · obtain ⟨b1, o1, A3, c3, A4, c4, rfl, hb1, hc0, hc1, hc2, hc3, hc4, r1, r2⟩ := (HE.out.below HB3.out HBB.out).at hlt
      have HST := Lib.hid (occ_step hlt xi xo)
      have HLE := Lib.hid (show (occL (es.take k) xi xo).length + ((es.getD k ed0).i ++ (es.getD k ed0).o).length ≤ 1000000 by
        have h1 := occ_take_len es xi xo (k + 1)
        rw [occ_step hlt, List.length_append] at h1
        have := HL.out
        omega)
      have HR1 := Lib.hid r1
      have HR2 := Lib.hid r2
      have hkI : (k : Int) < (es.length : Int) := by omega
      clear r1 r2 hb1
      generalize es.getD k ed0 = ed at hc0 hc1 hc2 hc3 hc4 HR1 HR2 HST HLE
      generalize occL (es.take k) xi xo = acc at HR HST HLE
      go_wp2_with fail
      refine (both_any _ B _ _ ed.i ed.o (HR1.out.below (B' := B) ?_ (Nat.le_refl _)) (HR2.out.below (B' := B) ?_ (Nat.le_refl _)) ?_ ?_).mono ?_
      · exact (Below.refl _ _).alloc (by have := HBB.out; have := HB3.out.size; omega) _
      · exact (Below.refl _ _).alloc (by have := HBB.out; have := HB3.out.size; omega) _
      · have := HBB.out; have := HB3.out.size; simp; omega
      · have := HLE.out; rw [List.length_append] at this; omega
      rintro e w4 ⟨v4, rfl, b4, o4⟩
      have hb4 : Below wr.heap.size wr w4 := Below.trans ((Below.refl wr.heap.size wr).alloc (Nat.le_refl _) _) (b4.mono (by simp))
      have HB4 := Lib.hid (HB3.out.trans (hb4.mono HB3.out.size))
      have HRX := Lib.hid (HR.out.below hb4)
      obtain ⟨y, hy⟩ : ∃ y, ed.i ++ ed.o = y := ⟨_, rfl⟩
      rw [hy] at o4 HST HLE
      clear hy
      obtain ⟨A5, c5, rfl⟩ := o4.len
      have HO4 := Lib.hid o4.readB
      clear b4 o4 hb4 hc0 hc1 hc2 hc3 hc4
      go_wp2_with (at_builtin; refine wpList_joinR (by rfl) (.tmp 16) (.tmp 19) (by rfl) _ w.heap.size _ acc y _ A5 _ c5 (by rfl) HRX.out (by rfl) HO4.out HB4.out.size HLE.out ?_; intro v2 w5 hj2 hb2; have HJ2 := Lib.hid hj2; have HB5 := Lib.hid (HB4.out.trans hb2); clear hj2 hb2)
      go_wp2
      go_roundw
      case rel => exact ⟨k + 1, by omega, by go_num, HB5, Lib.hid (by rw [HST.out]; exact HJ2.out)⟩
      case measure => simp [intOf]; omega
    · have HOW := Lib.hid (RowA.own HR.out)
      have HF := Lib.hid (show es.take k = es from List.take_of_length_le (by omega))
      rw [HF.out] at HOW
      have hkI : ¬ (k : Int) < (es.length : Int) := by omega
      go_wp2
      go_ret
      exact ⟨_, rfl, HB3.out, HOW.out⟩
end Go.Proofs.Ytdcgoeapgboclaa
