/- The model's scan of a term (no library). -/
import Derived.Test.YtdgimjmdgppboaaTmR
import Derived.Deep.RegionHeld3
namespace Go.Proofs.Ytdgimjmdgppboaa
set_option maxRecDepth 100000
open Go Go.RowKit Go.Deep

def KB (b0 b1 b2 : Nat) (w0 w : World) : Prop := w.heap[b0]? = w0.heap[b0]? ∧ w.heap[b1]? = w0.heap[b1]? ∧ w.heap[b2]? = w0.heap[b2]?
theorem KB.set {b0 b1 b2 q j : Nat} {w0 w : World} {u : Value} (h : KB b0 b1 b2 w0 w) (h0 : q ≠ b0) (h1 : q ≠ b1) (h2 : q ≠ b2) : KB b0 b1 b2 w0 (w.setCell ⟨q, j, none⟩ u) :=
  ⟨(blk_setCell_other _ _ _ _ (by dsimp only; omega)).trans h.1, (blk_setCell_other _ _ _ _ (by dsimp only; omega)).trans h.2.1, (blk_setCell_other _ _ _ _ (by dsimp only; omega)).trans h.2.2⟩
set_option maxRecDepth 1000000 in
set_option maxHeartbeats 6400000 in
theorem lbScan_any (w : World) (B : Nat) (v : Value) (x : List Nd) (hv : LfN w B v x) (hB : B ≤ w.heap.size) :
    Calls Try.prog 46 #[.slice none 0 0, .agg #[v]] w (ScanSaid w x) := by
  obtain ⟨i0, hi0, hz0, hz1, hz2⟩ := info_parts infoI
  obtain ⟨A, c, rfl⟩ := hv.len
  have HV := Lib.hid hv.1
  have HB := Lib.hid hB
  have hxl := hv.2.1
  clear hv hB
  by_cases hl : 1 ≤ x.length ∧ x.length ≤ 400
  · obtain ⟨hl1, hl2⟩ := hl
    go_enter Try.func46, Try.ntmps46
    go_wp2_with (go_at_call 32; refine (l1In_t _ _ _ _ (by omega) (by omega)).mono ?_; rintro e w' ⟨rfl, rfl⟩)
    refine scan_loop w B A c x HV HB hxl hl1 hl2 _ _ _ _ _ _ _ _ _ _ _ _ _ _ _ _ _ _ _ _ ?_ _ _ _ _ _ _ _ _ _ _ _ _ _ _ _ _ _ _ _ _ _ _ _ _ _ _ _ _ _ _ _ _ _ _ _ _ _ _ _ _ _ _ _ _ _ _ _ _ _ _ _ _ _ _ _ _ _ _ _ _ _ _ _ _ _ _ _ _ _ _ _ _ _ _ _ _ _ _ _ _ _ _ _ _ _ _ _ _ _ _ _ _ _ _ _ _ _ _ _ _ _ _ _ _ _ _ _ _ _ _ _ _ _ _ _ _ _ _ _ _ _ _ _ _ _ _ _ _ _ _ _ _ _ _ _ _ _ _ _ _ _ _ _ _ _ _ _ _ _ _ _ _ _ _ _ _ _ _ _ _ _ _ _ _ _ _ _ _ _ _ _ _ _ _ _ _ _ _ _ _ _ _ _ _ _ _ _ _ ?_
    · intro a wr hI
      unfold WX at hI
      obtain ⟨u5, hI⟩ := hI
      obtain ⟨u7, hI⟩ := hI
      obtain ⟨u8, hI⟩ := hI
      obtain ⟨u9, hI⟩ := hI
      obtain ⟨u10, hI⟩ := hI
      obtain ⟨u11, hI⟩ := hI
      obtain ⟨u12, hI⟩ := hI
      obtain ⟨u13, hI⟩ := hI
      obtain ⟨u14, hI⟩ := hI
      obtain ⟨u15, hI⟩ := hI
      obtain ⟨u25, hI⟩ := hI
      obtain ⟨u26, hI⟩ := hI
      obtain ⟨u27, hI⟩ := hI
      obtain ⟨u28, hI⟩ := hI
      obtain ⟨u29, hI⟩ := hI
      obtain ⟨u30, hI⟩ := hI
      obtain ⟨u31, hI⟩ := hI
      obtain ⟨u32, hI⟩ := hI
      obtain ⟨u33, hI⟩ := hI
      obtain ⟨u34, hI⟩ := hI
      obtain ⟨u35, hI⟩ := hI
      obtain ⟨u36, hI⟩ := hI
      obtain ⟨u37, hI⟩ := hI
      obtain ⟨u38, hI⟩ := hI
      obtain ⟨u39, hI⟩ := hI
      obtain ⟨u40, hI⟩ := hI
      obtain ⟨u41, hI⟩ := hI
      obtain ⟨u42, hI⟩ := hI
      obtain ⟨u43, hI⟩ := hI
      obtain ⟨u44, hI⟩ := hI
      obtain ⟨u45, hI⟩ := hI
      obtain ⟨u46, hI⟩ := hI
      obtain ⟨u47, hI⟩ := hI
      obtain ⟨u48, hI⟩ := hI
      obtain ⟨u49, hI⟩ := hI
      obtain ⟨u50, hI⟩ := hI
      obtain ⟨u51, hI⟩ := hI
      obtain ⟨u52, hI⟩ := hI
      obtain ⟨u53, hI⟩ := hI
      obtain ⟨u54, hI⟩ := hI
      obtain ⟨u55, hI⟩ := hI
      obtain ⟨u56, hI⟩ := hI
      obtain ⟨u57, hI⟩ := hI
      obtain ⟨u58, hI⟩ := hI
      obtain ⟨u59, hI⟩ := hI
      obtain ⟨u60, hI⟩ := hI
      obtain ⟨u61, hI⟩ := hI
      obtain ⟨u62, hI⟩ := hI
      obtain ⟨u63, hI⟩ := hI
      obtain ⟨u64, hI⟩ := hI
      obtain ⟨u65, hI⟩ := hI
      obtain ⟨u66, hI⟩ := hI
      obtain ⟨u67, hI⟩ := hI
      obtain ⟨u68, hI⟩ := hI
      obtain ⟨u69, hI⟩ := hI
      obtain ⟨u70, hI⟩ := hI
      obtain ⟨u71, hI⟩ := hI
      obtain ⟨u72, hI⟩ := hI
      obtain ⟨u73, hI⟩ := hI
      obtain ⟨u74, hI⟩ := hI
      obtain ⟨u75, hI⟩ := hI
      obtain ⟨u76, hI⟩ := hI
      obtain ⟨u77, hI⟩ := hI
      obtain ⟨u78, hI⟩ := hI
      obtain ⟨u79, hI⟩ := hI
      obtain ⟨u80, hI⟩ := hI
      obtain ⟨u81, hI⟩ := hI
      obtain ⟨u82, hI⟩ := hI
      obtain ⟨u83, hI⟩ := hI
      obtain ⟨u84, hI⟩ := hI
      obtain ⟨u85, hI⟩ := hI
      obtain ⟨u86, hI⟩ := hI
      obtain ⟨u87, hI⟩ := hI
      obtain ⟨u88, hI⟩ := hI
      obtain ⟨u89, hI⟩ := hI
      obtain ⟨u90, hI⟩ := hI
      obtain ⟨u91, hI⟩ := hI
      obtain ⟨u92, hI⟩ := hI
      obtain ⟨u93, hI⟩ := hI
      obtain ⟨u94, hI⟩ := hI
      obtain ⟨u95, hI⟩ := hI
      obtain ⟨u96, hI⟩ := hI
      obtain ⟨u97, hI⟩ := hI
      obtain ⟨u98, hI⟩ := hI
      obtain ⟨u99, hI⟩ := hI
      obtain ⟨u100, hI⟩ := hI
      obtain ⟨u101, hI⟩ := hI
      obtain ⟨u102, hI⟩ := hI
      obtain ⟨u103, hI⟩ := hI
      obtain ⟨u104, hI⟩ := hI
      obtain ⟨u105, hI⟩ := hI
      obtain ⟨u106, hI⟩ := hI
      obtain ⟨u107, hI⟩ := hI
      obtain ⟨u108, hI⟩ := hI
      obtain ⟨u109, hI⟩ := hI
      obtain ⟨u110, hI⟩ := hI
      obtain ⟨u111, hI⟩ := hI
      obtain ⟨u112, hI⟩ := hI
      obtain ⟨u113, hI⟩ := hI
      obtain ⟨u114, hI⟩ := hI
      obtain ⟨u115, hI⟩ := hI
      obtain ⟨u116, hI⟩ := hI
      obtain ⟨u117, hI⟩ := hI
      obtain ⟨u118, hI⟩ := hI
      obtain ⟨u119, hI⟩ := hI
      obtain ⟨u120, hI⟩ := hI
      obtain ⟨u121, hI⟩ := hI
      obtain ⟨u122, hI⟩ := hI
      obtain ⟨u123, hI⟩ := hI
      obtain ⟨u124, hI⟩ := hI
      obtain ⟨u125, hI⟩ := hI
      obtain ⟨u126, hI⟩ := hI
      obtain ⟨u127, hI⟩ := hI
      obtain ⟨u128, hI⟩ := hI
      obtain ⟨u129, hI⟩ := hI
      obtain ⟨u130, hI⟩ := hI
      obtain ⟨u131, hI⟩ := hI
      obtain ⟨u132, hI⟩ := hI
      obtain ⟨u133, hI⟩ := hI
      obtain ⟨u134, hI⟩ := hI
      obtain ⟨u135, hI⟩ := hI
      obtain ⟨u136, hI⟩ := hI
      obtain ⟨u137, hI⟩ := hI
      obtain ⟨u138, hI⟩ := hI
      obtain ⟨u139, hI⟩ := hI
      obtain ⟨u140, hI⟩ := hI
      obtain ⟨u141, hI⟩ := hI
      obtain ⟨u142, hI⟩ := hI
      obtain ⟨u143, hI⟩ := hI
      obtain ⟨u144, hI⟩ := hI
      obtain ⟨u145, hI⟩ := hI
      obtain ⟨u146, hI⟩ := hI
      obtain ⟨u147, hI⟩ := hI
      obtain ⟨u148, hI⟩ := hI
      obtain ⟨u149, hI⟩ := hI
      obtain ⟨u150, hI⟩ := hI
      obtain ⟨u151, hI⟩ := hI
      obtain ⟨u152, hI⟩ := hI
      obtain ⟨u153, hI⟩ := hI
      obtain ⟨u154, hI⟩ := hI
      obtain ⟨u155, hI⟩ := hI
      obtain ⟨u156, hI⟩ := hI
      obtain ⟨u157, hI⟩ := hI
      obtain ⟨u158, hI⟩ := hI
      obtain ⟨u159, hI⟩ := hI
      obtain ⟨u160, hI⟩ := hI
      obtain ⟨u161, hI⟩ := hI
      obtain ⟨u162, hI⟩ := hI
      obtain ⟨u163, hI⟩ := hI
      obtain ⟨u164, hI⟩ := hI
      obtain ⟨u165, hI⟩ := hI
      obtain ⟨u166, hI⟩ := hI
      obtain ⟨u167, hI⟩ := hI
      obtain ⟨u168, hI⟩ := hI
      obtain ⟨u169, hI⟩ := hI
      obtain ⟨u170, hI⟩ := hI
      obtain ⟨u171, hI⟩ := hI
      obtain ⟨u172, hI⟩ := hI
      obtain ⟨u173, hI⟩ := hI
      obtain ⟨u174, hI⟩ := hI
      obtain ⟨u175, hI⟩ := hI
      obtain ⟨u176, hI⟩ := hI
      obtain ⟨u177, hI⟩ := hI
      obtain ⟨u178, hI⟩ := hI
      obtain ⟨u179, hI⟩ := hI
      obtain ⟨u180, hI⟩ := hI
      obtain ⟨u181, hI⟩ := hI
      obtain ⟨u182, hI⟩ := hI
      obtain ⟨u183, hI⟩ := hI
      obtain ⟨u184, hI⟩ := hI
      obtain ⟨u185, hI⟩ := hI
      obtain ⟨u186, hI⟩ := hI
      obtain ⟨u187, hI⟩ := hI
      obtain ⟨u188, hI⟩ := hI
      obtain ⟨u189, hI⟩ := hI
      obtain ⟨u190, hI⟩ := hI
      obtain ⟨u191, hI⟩ := hI
      obtain ⟨u192, hI⟩ := hI
      obtain ⟨u193, hI⟩ := hI
      obtain ⟨u194, hI⟩ := hI
      obtain ⟨u195, hI⟩ := hI
      obtain ⟨u196, hI⟩ := hI
      obtain ⟨u197, hI⟩ := hI
      obtain ⟨u198, hI⟩ := hI
      obtain ⟨u199, hI⟩ := hI
      obtain ⟨u200, hI⟩ := hI
      obtain ⟨u201, hI⟩ := hI
      obtain ⟨hend, rfl⟩ := hI
      unfold ScEnd at hend
      obtain ⟨X, v0, v1, v2, HSC, HG, HBW, HT, HR, HX⟩ := hend
      have HOE := Lib.hid (scan_end hl1 hl2 HSC.out)
      obtain ⟨m, e1, hkm⟩ : ∃ m : Nat, (x.length : Int) - 1 = (m : Int) ∧ x.length = m + 1 := ⟨x.length - 1, by omega, by omega⟩
      have HKM := Lib.hid hkm
      have hwm : IntKind.i64.wrap (m : Int) = (m : Int) := Go.IntWalk.i64_in _ ⟨by omega, by omega⟩
      have hm0 : (0 : Int) ≤ (m : Int) := by omega
      clear hkm
      obtain ⟨f0, d0, rfl, -⟩ := HX.out.r0.cells (by have := HG.out.1.1; omega)
      obtain ⟨A1, k1, rfl⟩ := HX.out.r1.form
      obtain ⟨A2, k2, rfl⟩ := HX.out.r2.form
      have hmf : (m : Int) < (X.f.length : Int) := by have := HG.out.1.1; have := HKM.out; omega
      obtain ⟨fm, HFM⟩ : ∃ fm, Hid (X.f.getD m 0 = fm) := ⟨_, Lib.hid rfl⟩
      have HOE2 : Hid (okS x = (fm == 0)) := Lib.hid (by rw [HOE.out, HKM.out, Nat.add_sub_cancel, HFM.out]; rfl)
      have hcf : wr.cell? ⟨f0, m, none⟩ = some (.int .i64 fm) := by rw [← HFM.out]; exact HX.out.r0.cell (by have := HG.out.1.1; have := HKM.out; omega)
      obtain ⟨hx0, hx1, hx2, -, -, -, hxs⟩ := cells3 HX.out.box
      obtain ⟨hr0, hr1, hr2, hrf0, hrf1, hrf2, hrs⟩ := cells3 HR.out.drew
      obtain ⟨-, hra1, -, -, hraf1, -, -⟩ := cells3 (HR.out.set 0 (.slice (some ⟨f0, 0, none⟩) X.f.length d0)).drew
      obtain ⟨-, -, hrb2, -, -, hrbf2, -⟩ := cells3 ((HR.out.set 0 (.slice (some ⟨f0, 0, none⟩) X.f.length d0)).set 1 (.slice A1 X.i.length k1)).drew
      have ht0 : wr.cell? ⟨w.heap.size, 0, none⟩ = some (.slice A x.length c) := HT.out.cell (i := 0) (by simp)
      have hfb : w.heap.size + 3 ≤ f0 := (World.ownsRow.lt HX.out.r0 f0 rfl).1
      have HELD : Hid (∀ w' : World, KB (w.heap.size + 2) w.heap.size f0 wr w' → w'.cell? ⟨w.heap.size + 2, 0, none⟩ = some (.slice (some ⟨f0, 0, none⟩) X.f.length d0) ∧ w'.cell? ⟨w.heap.size + 2, 1, none⟩ = some (.slice A1 X.i.length k1) ∧ w'.cell? ⟨w.heap.size + 2, 2, none⟩ = some (.slice A2 X.o.length k2) ∧ w'.cell? ⟨w.heap.size, 0, none⟩ = some (.slice A x.length c) ∧ w'.cell? ⟨f0, m, none⟩ = some (.int .i64 fm)) := Lib.hid (fun w' H => ⟨(World.cell?_of_block (w := wr) H.1).trans hx0, (World.cell?_of_block (w := wr) H.1).trans hx1, (World.cell?_of_block (w := wr) H.1).trans hx2, (World.cell?_of_block (w := wr) H.2.1).trans ht0, (World.cell?_of_block (w := wr) H.2.2).trans hcf⟩)
      have HQ0 : Hid (KB (w.heap.size + 2) w.heap.size f0 wr wr.drew) := Lib.hid ⟨rfl, rfl, rfl⟩
      clear hx0 hx1 hx2 ht0 hcf
      go_wp2
      go_region_held3 (fun w' => w'.cell? ⟨w.heap.size + 2, 0, none⟩ = some (.slice (some ⟨f0, 0, none⟩) X.f.length d0) ∧ w'.cell? ⟨w.heap.size + 2, 1, none⟩ = some (.slice A1 X.i.length k1) ∧ w'.cell? ⟨w.heap.size + 2, 2, none⟩ = some (.slice A2 X.o.length k2) ∧ w'.cell? ⟨w.heap.size, 0, none⟩ = some (.slice A x.length c) ∧ w'.cell? ⟨f0, m, none⟩ = some (.int .i64 fm))
        (first | exact HELD.out _ (HQ0.out) | exact HELD.out _ (KB.set (HQ0.out) (by omega) (by omega) (by omega)) | exact HELD.out _ (KB.set (KB.set (HQ0.out) (by omega) (by omega) (by omega)) (by omega) (by omega) (by omega)) | exact HELD.out _ (KB.set (KB.set (KB.set (HQ0.out) (by omega) (by omega) (by omega)) (by omega) (by omega) (by omega)) (by omega) (by omega) (by omega)) | fail)
        (fail)
      go_wp2
      obtain ⟨hq0, hq1, hq2, -, -, -, -⟩ := cells3 (((HR.out.set 0 (.slice (some ⟨f0, 0, none⟩) X.f.length d0)).set 1 (.slice A1 X.i.length k1)).set 2 (.slice A2 X.o.length k2)).drew
      refine bodyPost_ret (v := .tuple #[.agg #[.slice (some ⟨f0, 0, none⟩) X.f.length d0, .slice A1 X.i.length k1, .slice A2 X.o.length k2], .bool (fm == 0)]) (by simp [results, Try.results46, go_sem, hq0, hq1, hq2]) rfl ?_
      refine ⟨_, _, _, by rw [HOE2.out], ?_, fun _ => ⟨X, HSC.out, HG.out, ?_, ?_, ?_⟩, ⟨_, _, _, rfl⟩, ⟨_, _, _, rfl⟩, ⟨_, _, _, rfl⟩⟩
      · refine Below.trans HBW.out ?_
        repeat' (first | exact Below.refl _ _ | apply Below.drew | apply Below.setCell | apply Below.alloc | (simp; done) | omega | (simp; omega))
      · exact RowA.mono (((HX.out.drew.r0.set (b := w.heap.size + 1) (by omega)).set (b := w.heap.size + 1) (by omega)).set (b := w.heap.size + 1) (by omega)) (by omega)
      · exact RowA.mono (((HX.out.drew.r1.set (b := w.heap.size + 1) (by omega)).set (b := w.heap.size + 1) (by omega)).set (b := w.heap.size + 1) (by omega)) (by omega)
      · exact RowA.mono (((HX.out.drew.r2.set (b := w.heap.size + 1) (by omega)).set (b := w.heap.size + 1) (by omega)).set (b := w.heap.size + 1) (by omega)) (by omega)
    · exact ⟨0, .nil, .slice none 0 0, .slice none 0 0, .slice none 0 0, Nat.zero_le _, rfl, Lib.hid rfl, Lib.hid Sc.good_nil, Lib.hid (by repeat' (first | exact Below.refl _ _ | apply Below.drew | apply Below.setCell | apply Below.alloc | (simp; done) | omega | (simp; omega))), Lib.hid (((cellsAt_new' _ _ _ [.slice A x.length c] _ rfl rfl).alloc _).alloc _), Lib.hid ((cellsAt_new' _ _ _ [.slice none 0 0, .slice none 0 0, .slice none 0 0] _ (by simp) rfl).alloc _), Lib.hid ⟨cellsAt_new' _ _ _ [.slice none 0 0, .slice none 0 0, .slice none 0 0] _ (by simp) rfl, World.ownsRow_nil _ _ _ _, World.ownsRow_nil _ _ _ _, World.ownsRow_nil _ _ _ _, Or.inl rfl, Or.inl rfl, Or.inl rfl, by omega⟩⟩
  · have HOK : Hid (okS x = false) := Lib.hid (by
      unfold okS
      by_cases h1 : 1 ≤ x.length
      · rw [decide_eq_false (p := x.length ≤ 400) (by omega)]; simp
      · rw [decide_eq_false h1]; simp)
    have hlI : (x.length : Int) < 1 ∨ 400 < (x.length : Int) := by omega
    clear hl
    go_enter Try.func46, Try.ntmps46
    go_wp2_with (go_at_call 32; refine (l1In_f _ _ _ _ (by omega)).mono ?_; rintro e w' ⟨rfl, rfl⟩)
    refine bodyPost_ret (v := .tuple #[.agg #[.slice none 0 0, .slice none 0 0, .slice none 0 0], .bool false]) (by simp [results, Try.results46, go_sem]) rfl ?_
    refine ⟨_, _, _, by rw [HOK.out], ?_, fun h => absurd (HOK.out.symm.trans h) (by simp), ⟨_, _, _, rfl⟩, ⟨_, _, _, rfl⟩, ⟨_, _, _, rfl⟩⟩
    repeat' (first | exact Below.refl _ _ | apply Below.drew | apply Below.setCell | apply Below.alloc | (simp; done) | omega | (simp; omega))
end Go.Proofs.Ytdgimjmdgppboaa
