/- IdentityGraph. -/
import Derived.Test.YthnhholeaiojjaaOpR
import Derived.Test.YthnhholeaiojjaaGrL
namespace Go.Proofs.Ythnhholeaiojjaa
set_option maxRecDepth 100000
open Go Go.RowKit Go.Deep

set_option maxHeartbeats 1600000 in
theorem wiresFrom_any (w : World) (a n : Nat) (ha : a ≤ 1000) (hn : n ≤ 1000) : Calls Try.prog 64 #[.int .i64 a, .int .i64 n] w (MadeR w (rangeI a n)) := by
  have hmk := make_ints n (by omega)
  have HF := Lib.hid (show (List.replicate n (0 : Int)).mapIdx (fun j _ => ((a + j : Nat) : Int)) = rangeI a n from by
    apply List.ext_getElem?
    intro j
    by_cases h : j < n
    · simp [rangeI, h]
    · rw [List.getElem?_eq_none (by simp; omega), List.getElem?_eq_none (by rw [rangeI_len]; omega)])
  go_enter Try.func64, Try.ntmps64
  go_wp2
  go_loopw [11] (fun i wr => ∃ k : Nat, k ≤ n ∧ i = .int .i64 k ∧ Hid (Below w.heap.size w wr) ∧ Hid (CellsAt wr w.heap.size tI (icells (upd (fun j _ => ((a + j : Nat) : Int)) k (List.replicate n 0))))) (fun i _ => n - (intOf i).toNat)
  case atStart => exact ⟨0, Nat.zero_le _, rfl, Lib.hid ((Below.refl _ _).alloc (Nat.le_refl _) _), Lib.hid (by rw [upd_zero]; exact made_ints w _)⟩
  case round =>
    obtain ⟨k, hk, rfl, HB, HC⟩ := hrel
    by_cases hlt : k < n
    · have HLN := Lib.hid (show k < (icells (upd (fun j _ => ((a + j : Nat) : Int)) k (List.replicate n 0))).length by rw [icells_len, upd_len, List.length_replicate]; exact hlt)
      have hc := (HC.out.cell HLN.out).trans (getD_some HLN.out (.int .i64 0))
      have hf := HC.out.frozen k
      have HST := Lib.hid (HC.out.set k (.int .i64 ((a + k : Nat) : Int)))
      generalize (icells (upd (fun j _ => ((a + j : Nat) : Int)) k (List.replicate n 0))).getD k (.int .i64 0) = u at hc
      have hkI : (k : Int) < (n : Int) := by omega
      have hw1 : IntKind.i64.wrap ((a : Int) + (k : Int)) = (a : Int) + (k : Int) := Go.IntWalk.i64_in _ ⟨by omega, by omega⟩
      have hsum : (a : Int) + (k : Int) = ((a + k : Nat) : Int) := by omega
      have hlw : w.heap.size < wr.heap.size := HC.out.lt
      clear hsum
      go_wp2
      go_roundw
      case rel => exact ⟨k + 1, by omega, by go_num, Lib.hid (by repeat' (first | exact HB.out | apply Below.setCell | exact Nat.le_refl _)), Lib.hid (by
        have := HST.out
        rw [icells_set, upd_step (fun j _ => ((a + j : Nat) : Int)) (by rw [List.length_replicate]; exact hlt) 0] at this
        have hsum : (a : Int) + (k : Int) = ((a + k : Nat) : Int) := by omega
        rw [hsum]
        exact this)⟩
      case measure => simp [intOf]; omega
    · have hkI : ¬ (k : Int) < (n : Int) := by omega
      go_wp2
      go_ret
      refine ⟨_, rfl, HB.out, owR_at (Nat.le_refl _) ?_ (by rw [rangeI_len])⟩
      have := HC.out
      rw [upd_all _ (by rw [List.length_replicate]; omega), HF.out] at this
      exact this
theorem rangeI_mem {a n : Nat} {x : Int} : x ∈ rangeI a n ↔ (a : Int) ≤ x ∧ x < a + n := by
  unfold rangeI
  rw [List.mem_map]
  constructor
  · rintro ⟨k, hk, rfl⟩
    have := List.mem_range.1 hk
    omega
  · rintro ⟨h1, h2⟩
    exact ⟨(x - a).toNat, List.mem_range.2 (by omega), by omega⟩
theorem id_valid (n : Nat) (hn : n ≤ 12) : validB n [] (rangeI 0 n) (rangeI 0 n) = true := by
  rw [valid_iff]
  refine ⟨⟨by omega, by omega, by simp, by rw [rangeI_len]; exact hn, by rw [rangeI_len]; exact hn⟩, rfl, fun x hx => ?_, fun k h1 h2 => ?_⟩
  · rcases mem_occ.1 hx with h | h | ⟨e, he, -⟩
    · have := rangeI_mem.1 h; omega
    · have := rangeI_mem.1 h; omega
    · cases he
  · exact mem_occ.2 (Or.inl (rangeI_mem.2 ⟨by omega, by omega⟩))
/-- The open graph of wires that pass through. -/
def OidRet (w : World) (n : Nat) (e : Ending) (w' : World) : Prop := ∃ A1 c1 A2 c2, e = .returned (.agg #[.slice A1 n c1, .slice A2 n c2, .int .i64 n, .slice none 0 0]) ∧ Below w.heap.size w w' ∧ RdS w' (fun q => q < w'.heap.size) (.slice A1 n c1) (rangeI 0 n) ∧ RdS w' (fun q => q < w'.heap.size) (.slice A2 n c2) (rangeI 0 n)
set_option maxHeartbeats 1600000 in
theorem idOpen_any (w : World) (n : Nat) (hn : n ≤ 12) : Calls Try.prog 35 #[.int .i64 n] w (OidRet w n) := by
  have HWF := Lib.hid (fun (w0 : World) => wiresFrom_any w0 0 n (by omega) (by omega))
  have HL := Lib.hid (rangeI_len 0 n)
  go_enter Try.func35, Try.ntmps35
  go_wp2_with fail
  refine (HWF.out _).mono ?_
  rintro e w2 ⟨v2, rfl, b2, o2⟩
  have HB2 := Lib.hid (((Below.refl w.heap.size w).alloc (Nat.le_refl _) _).trans (b2.mono (by simp)))
  have HX2 := Lib.hid (show w2.heap[w.heap.size]? = some (.cells #[.slice none 0 0, .slice none 0 0, .int .i64 0, .slice none 0 0] 54 (0, 0)) from (b2.block _ (by simp)).trans (blk_alloc_new w _))
  obtain ⟨A2, c2, rfl⟩ := o2.len
  have HO2 := Lib.hid o2
  rw [HL.out] at HO2 ⊢
  clear b2 o2
  go_wp2_with fail
  refine (HWF.out _).mono ?_
  rintro e w3 ⟨v3, rfl, b3, o3⟩
  have HB3 := Lib.hid (HB2.out.trans (b3.mono HB2.out.size))
  have HX3 := Lib.hid (box_kept HX2.out b3)
  obtain ⟨A3, c3, rfl⟩ := o3.len
  have HO3 := Lib.hid o3
  rw [HL.out] at HO3 ⊢
  have HO4 := Lib.hid (HO2.out.below b3 (fun _ _ hl => hl))
  have hs := (Array.getElem?_eq_some_iff.1 HX2.out).1
  have hs3 := b3.size
  clear b3 o3
  have hx0 := box_cell HX3.out 0
  have hx1 := box_cell HX3.out 1
  have hx2 := box_cell HX3.out 2
  have hx3 := box_cell HX3.out 3
  have hxf := box_free HX3.out
  simp at hx0 hx1 hx2 hx3
  go_wp2
  refine bodyPost_ret (v := .agg #[.slice A2 n c2, .slice A3 n c3, .int .i64 n, .slice none 0 0]) (by simp [results, Try.results35, go_sem, hx0, hx1, hx2, hx3]) rfl ?_
  refine ⟨A2, c2, A3, c3, rfl, by repeat' (first | exact HB3.out | apply Below.setCell | (simp; done) | omega | (simp; omega)), ?_, ?_⟩
  · exact (OwR.blocks (S := fun q => w.heap.size + 1 ≤ q) (HO4.out.mono fun q hq _ => by simp at hq; omega) (fun q hq _ _ _ => by repeat rw [blk_setCell_other _ _ _ _ (by dsimp only; omega)])).readB
  · exact (OwR.blocks (S := fun q => w.heap.size + 1 ≤ q) (HO3.out.mono fun q hq _ => by omega) (fun q hq _ _ _ => by repeat rw [blk_setCell_other _ _ _ _ (by dsimp only; omega)])).readB
def idI (n : Int) : Bool := decide (0 ≤ n) && decide (n ≤ 12)
def idL (n : Int) : List Int := if idI n then rangeI 0 n.toNat else []
def idN (n : Int) : Int := if idI n then n else 0
set_option maxHeartbeats 1600000 in
theorem spec_IdentityGraph (w : World) (n : Int) : Calls Try.prog 10 #[.int .i64 n] w (SRetGraphB w (idN n) [] (idL n) (idL n) (idI n)) := by
  by_cases h : 0 ≤ n ∧ n ≤ 12
  · obtain ⟨m, rfl⟩ : ∃ m : Nat, n = m := ⟨n.toNat, by omega⟩
    have HT := Lib.hid (show idI m = true by simp [idI]; omega)
    have HI := Lib.hid (fun (w0 : World) => hgIdO_any w0 m (by omega))
    have HL := Lib.hid (show idL m = rangeI 0 m ∧ idN m = m from ⟨by unfold idL; rw [HT.out]; simp, by unfold idN; rw [HT.out]; simp⟩)
    have h0 : (0 : Int) ≤ (m : Int) := by omega
    have h1 : (m : Int) ≤ 12 := by omega
    have HIN := Lib.hid (fun w0 => l1In_t m 0 12 w0 h0 h1)
    go_enter Try.func10, Try.ntmps10
    go_wp2_with fail
    refine (HIN.out _).mono ?_
    rintro e w2 ⟨rfl, rfl⟩
    go_wp2_with fail
    refine (HI.out _).mono ?_
    rintro e w3 ⟨A1, c1, A2, c2, rfl, b3, o1, o2⟩
    have HB3 := Lib.hid (((Below.refl w.heap.size w).alloc (Nat.le_refl _) _).trans (b3.mono (by simp)))
    have HX3 := Lib.hid (show w3.heap[w.heap.size]? = some (.cells #[.int .i64 0, .slice none 0 0, .slice none 0 0, .slice none 0 0] 25 (0, 0)) from (b3.block _ (by simp)).trans (blk_alloc_new w _))
    have HO1 := Lib.hid (o1.mono (T := fun q => w.heap.size + 1 ≤ q) (fun q hq _ => by simp at hq; omega))
    have HO2 := Lib.hid (o2.mono (T := fun q => w.heap.size + 1 ≤ q) (fun q hq _ => by simp at hq; omega))
    clear b3 o1 o2
    have hx0 := box_cell HX3.out 0
    have hx1 := box_cell HX3.out 1
    have hx2 := box_cell HX3.out 2
    have hx3 := box_cell HX3.out 3
    have hxf := box_free HX3.out
    have hs3 := (Array.getElem?_eq_some_iff.1 HX3.out).1
    simp at hx0 hx1 hx2 hx3
    go_wp2
    refine bodyPost_ret (v := .tuple #[.agg #[.int .i64 m, .slice none 0 0, .slice A1 m c1, .slice A2 m c2], .bool true]) (by simp [results, Try.results10, go_sem, hx0, hx1, hx2, hx3]) rfl ?_
    rw [HL.out.1, HL.out.2, HT.out]
    refine ⟨_, _, _, rfl, by repeat' (first | exact HB3.out | apply Below.setCell | (simp; done) | omega | (simp; omega)), ownE_nil _ _ _ _, ⟨?_, by unfold szR; rw [rangeI_len]; omega⟩, ⟨?_, by unfold szR; rw [rangeI_len]; omega⟩⟩
    · exact (OwR.blocks HO1.out (fun q hq _ _ _ => by repeat rw [blk_setCell_other _ _ _ _ (by dsimp only; omega)])).mono fun q hq _ => by omega
    · exact (OwR.blocks HO2.out (fun q hq _ _ _ => by repeat rw [blk_setCell_other _ _ _ _ (by dsimp only; omega)])).mono fun q hq _ => by omega
  · have HT := Lib.hid (show idI n = false by unfold idI; simp; omega)
    have HL := Lib.hid (show idL n = [] ∧ idN n = 0 from ⟨by unfold idL; rw [HT.out]; simp, by unfold idN; rw [HT.out]; simp⟩)
    have HIN := Lib.hid (fun w0 => l1In_f n 0 12 w0 (by omega))
    go_enter Try.func10, Try.ntmps10
    go_wp2_with fail
    refine (HIN.out _).mono ?_
    rintro e w2 ⟨rfl, rfl⟩
    go_wp2
    refine bodyPost_ret (v := .tuple #[.agg #[.int .i64 0, .slice none 0 0, .slice none 0 0, .slice none 0 0], .bool false]) (by simp [results, Try.results10, go_sem]) rfl ?_
    rw [HL.out.1, HL.out.2, HT.out]
    exact ⟨_, _, _, rfl, by repeat' (first | exact Below.refl _ _ | apply Below.drew | apply Below.setCell | apply Below.alloc | (simp; done) | omega | (simp; omega)), ownE_nil _ _ _ _, ownR_nil _ _ _ _, ownR_nil _ _ _ _⟩
set_option maxHeartbeats 1600000 in
theorem impl_IdentityGraph (w : World) (n : Int) : Calls Try.prog 11 #[.int .i64 n] w (IRetGraphB w (idN n) [] (idL n) (idL n) (idI n)) := by
  by_cases h0 : 0 ≤ n
  · by_cases h1 : n ≤ 12
    · obtain ⟨m, rfl⟩ : ∃ m : Nat, n = m := ⟨n.toNat, by omega⟩
      have HT := Lib.hid (show idI m = true by simp [idI]; omega)
      have HL := Lib.hid (show idL m = rangeI 0 m ∧ idN m = m from ⟨by unfold idL; rw [HT.out]; simp, by unfold idN; rw [HT.out]; simp⟩)
      have HID := Lib.hid (fun (w0 : World) => idOpen_any w0 m (by omega))
      have HIV := Lib.hid (id_valid m (by omega))
      have HRL := Lib.hid (rangeI_len 0 m)
      go_enter Try.func11, Try.ntmps11
      go_wp2_with fail
      refine (HID.out _).mono ?_
      rintro e w2 ⟨A1, c1, A2, c2, rfl, b2, r1, r2⟩
      have HB2 := Lib.hid (((Below.refl w.heap.size w).alloc (Nat.le_refl _) _).trans (b2.mono (by simp)))
      have HX2 := Lib.hid (show w2.heap[w.heap.size]? = some (.cells #[.int .i64 0, .slice none 0 0, .slice none 0 0, .slice none 0 0] 25 (0, 0)) from (b2.block _ (by simp)).trans (blk_alloc_new w _))
      have HRS := Lib.hid (show Calls Try.prog 36 #[.agg #[.slice A1 m c1, .slice A2 m c2, .int .i64 m, .slice none 0 0]] w2 (IRetGraphB w2 m [] (rangeI 0 m) (rangeI 0 m) true) from by
        refine (result_any w2 w2.heap.size (.slice A1 m c1) (.slice A2 m c2) (.slice none 0 0) m [] (rangeI 0 m) (rangeI 0 m) r1 r2 ⟨none, 0, rfl, Nat.le_refl _, fun k hk => absurd hk (Nat.not_lt_zero k)⟩ (Nat.le_refl _) (by simp) (by rw [HRL.out]; omega) (by rw [HRL.out]; omega)).mono ?_
        rintro e w' (h | h)
        · rw [HIV.out] at h
          exact absurd h.1 (by decide)
        · exact h.2)
      clear b2 r1 r2
      go_wp2_with fail
      refine HRS.out.mono ?_
      rintro e w3 ⟨v1, v2, v3, S1, S2, S3, rfl, b3, s1, s2, s3, d12, d13, d23, o1, o2, o3⟩
      have HB3 := Lib.hid (HB2.out.trans (b3.mono HB2.out.size))
      have HX3 := Lib.hid (box_kept HX2.out b3)
      obtain ⟨A4, c4, rfl⟩ := o1.len
      obtain ⟨A5, c5, rfl⟩ := o2.len
      obtain ⟨A6, c6, rfl⟩ := o3.len
      have hs := (Array.getElem?_eq_some_iff.1 HX2.out).1
      have HO := Lib.hid (show _ ∧ _ ∧ _ ∧ _ ∧ _ ∧ _ ∧ _ ∧ _ ∧ _ from ⟨s1, s2, s3, d12, d13, d23, o1, o2, o3⟩)
      clear b3 s1 s2 s3 d12 d13 d23 o1 o2 o3
      rw [HRL.out] at HO ⊢
      have hx0 := box_cell HX3.out 0
      have hx1 := box_cell HX3.out 1
      have hx2 := box_cell HX3.out 2
      have hx3 := box_cell HX3.out 3
      have hxf := box_free HX3.out
      simp at hx0 hx1 hx2 hx3
      go_wp2
      refine bodyPost_ret (v := .tuple #[.agg #[.int .i64 m, .slice A4 0 c4, .slice A5 m c5, .slice A6 m c6], .bool true]) (by simp [results, Try.results11, go_sem, hx0, hx1, hx2, hx3]) rfl ?_
      rw [HL.out.1, HL.out.2, HT.out]
      obtain ⟨s1, s2, s3, d12, d13, d23, o1, o2, o3⟩ := HO.out
      refine ⟨_, _, _, S1, S2, S3, rfl, by repeat' (first | exact HB3.out | apply Below.setCell | (simp; done) | omega | (simp; omega)), fun q hq => by have := s1 q hq; omega, fun q hq => by have := s2 q hq; omega, fun q hq => by have := s3 q hq; omega, d12, d13, d23, o1.blocks ?_, o2.blocks ?_, o3.blocks ?_⟩
      · exact fun q hq _ => by have := s1 q hq; repeat rw [blk_setCell_other _ _ _ _ (by dsimp only; omega)]
      · exact fun q hq _ => by have := s2 q hq; repeat rw [blk_setCell_other _ _ _ _ (by dsimp only; omega)]
      · exact fun q hq _ => by have := s3 q hq; repeat rw [blk_setCell_other _ _ _ _ (by dsimp only; omega)]
    · have HT := Lib.hid (show idI n = false by unfold idI; simp; omega)
      have HL := Lib.hid (show idL n = [] ∧ idN n = 0 from ⟨by unfold idL; rw [HT.out]; simp, by unfold idN; rw [HT.out]; simp⟩)
      go_enter Try.func11, Try.ntmps11
      go_wp2
      refine bodyPost_ret (v := .tuple #[.agg #[.int .i64 0, .slice none 0 0, .slice none 0 0, .slice none 0 0], .bool false]) (by simp [results, Try.results11, go_sem]) rfl ?_
      rw [HL.out.1, HL.out.2, HT.out]
      exact ⟨_, _, _, fun _ => False, fun _ => False, fun _ => False, rfl, by repeat' (first | exact Below.refl _ _ | apply Below.drew | apply Below.setCell | apply Below.alloc | (simp; done) | omega | (simp; omega)), fun _ h => h.elim, fun _ h => h.elim, fun _ h => h.elim, fun _ h => h.elim, fun _ h => h.elim, fun _ h => h.elim, ownE_nil _ _ _ _, ownR_nil _ _ _ _, ownR_nil _ _ _ _⟩
  · have HT := Lib.hid (show idI n = false by unfold idI; simp; omega)
    have HL := Lib.hid (show idL n = [] ∧ idN n = 0 from ⟨by unfold idL; rw [HT.out]; simp, by unfold idN; rw [HT.out]; simp⟩)
    go_enter Try.func11, Try.ntmps11
    go_wp2
    refine bodyPost_ret (v := .tuple #[.agg #[.int .i64 0, .slice none 0 0, .slice none 0 0, .slice none 0 0], .bool false]) (by simp [results, Try.results11, go_sem]) rfl ?_
    rw [HL.out.1, HL.out.2, HT.out]
    exact ⟨_, _, _, fun _ => False, fun _ => False, fun _ => False, rfl, by repeat' (first | exact Below.refl _ _ | apply Below.drew | apply Below.setCell | apply Below.alloc | (simp; done) | omega | (simp; omega)), fun _ h => h.elim, fun _ h => h.elim, fun _ h => h.elim, fun _ h => h.elim, fun _ h => h.elim, fun _ h => h.elim, ownE_nil _ _ _ _, ownR_nil _ _ _ _, ownR_nil _ _ _ _⟩
end Go.Proofs.Ythnhholeaiojjaa
