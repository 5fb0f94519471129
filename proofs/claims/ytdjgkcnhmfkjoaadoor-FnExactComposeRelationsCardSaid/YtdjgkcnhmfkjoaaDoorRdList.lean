/- The program's reduced list of rows. -/
import Derived.Test.YtdjgkcnhmfkjoaaDoorRdRows
import Derived.Test.YtdjgkcnhmfkjoaaDoorMath
import Derived.Test.YtdjgkcnhmfkjoaaDoorSpA
namespace Go.Proofs.YtdjgkcnhmfkjoaaDoor
set_option maxRecDepth 100000
open Go Go.RowKit Go.Deep

theorem repl_nils (n : Nat) : List.replicate n (List.replicate 0 (0 : Int)) = nils n := rfl
set_option maxHeartbeats 1600000 in
theorem reducedList_any (w : World) (B : Nat) (v : Value) (p : Int) (n c : Nat) (rows : List (List Int)) (hv : RdG w B v rows) (hB : B ≤ w.heap.size) (hf : fld p = true) (hm : Mat p n c rows) (hn : n ≤ 1000000) (hc : c ≤ 1000000) :
    Calls Tryd.prog 39 #[.int .i64 p, .int .i64 c, v] w (MadeG w (rref p rows c)) := by
  obtain ⟨A, cp, rfl⟩ := hv.len
  have hlen := hm.1
  rw [hlen] at hv ⊢
  have HV := Lib.hid hv
  have HB := Lib.hid hB
  have HF := Lib.hid hf
  have HM := Lib.hid hm
  have HLN := Lib.hid hlen
  have HZ : Hid (Mat p n 0 (nils n)) := Lib.hid (nils_mat p n)
  have HI := Lib.hid (rr_inv hf hm (Nat.le_refl c))
  have HRR := Lib.hid (show rref p rows c = (red p rows (nils n) c).a.take (red p rows (nils n) c).lead.length by unfold rref rr; rw [hlen])
  have hrk : (red p rows (nils n) c).lead.length ≤ n := by
    have h := HI.out.rank
    unfold rr at h
    rwa [hlen] at h
  have hal : (red p rows (nils n) c).a.length = n := by
    have h := HI.out.a.1
    unfold rr at h
    rwa [hlen] at h
  have HAL := Lib.hid hal
  clear hv hB hf hm hlen hal
  go_enter Tryd.func39, Tryd.ntmps39
  go_wp2_with fail
  refine (zeroRows_any w n 0 hn (by omega)).mono ?_
  rintro e w1 ⟨v1, rfl, b1, o1⟩
  have hl1 := OwG.len o1
  rw [List.length_replicate] at hl1
  obtain ⟨A1, c1, rfl⟩ := hl1
  have HB1 := Lib.hid b1
  have HO1 := Lib.hid (OwG.mono (T := fun k => w.heap.size ≤ k ∧ k < w1.heap.size) o1 (fun k h1 h2 => ⟨h1, h2⟩))
  clear b1 o1
  go_wp2_with fail
  refine (reduceRows_any w1 B (fun k => w.heap.size ≤ k ∧ k < w1.heap.size) _ _ p n c 0 rows (nils n) (HV.out.below HB1.out HB.out) (by have := HB.out; have := HB1.out.size; omega) HO1.out (fun k hk => hk.2) HF.out HM.out HZ.out hn hc (by omega)).mono ?_
  rintro e w2 ⟨Aa, ca, Al, cl, rfl, t2, oa, ot, ol, ⟨ga, rfl⟩, hca1, hca2⟩
  generalize red p rows (nils n) c = s at oa ot ol hrk HAL HRR ⊢
  have HB2 := Lib.hid (HB1.out.trans (t2.below (B := w.heap.size) HB1.out.size (fun k hk => hk.1)))
  have HOA := Lib.hid (oa.take (r := s.lead.length) (by rw [HAL.out]; exact hrk))
  have hs1 := HB1.out.size
  have hrc : s.lead.length ≤ ca := by omega
  have hrm : s.lead.length ≤ 1000000 := by omega
  clear oa ot ol t2
  go_wp2_with fail
  refine (clip_any _ ga s.lead.length ca hrc hca2).mono ?_
  rintro e w3 ⟨rfl, rfl⟩
  go_wp2
  go_ret
  rw [HRR.out]
  refine ⟨_, rfl, ?_, ?_⟩
  · refine Below.trans HB2.out ?_
    repeat' (first | exact Below.refl _ _ | apply Below.drew | apply Below.setCell | apply Below.alloc | (simp; done) | (simp; omega))
    all_goals (have := HB2.out.size; first | omega | (simp; omega))
  · refine ((HOA.out.cap s.lead.length (by rw [List.length_take]; exact Nat.min_le_left _ _)).mono (T := fun k => w.heap.size ≤ k ∧ k < w2.heap.size) (fun k h1 h2 => ⟨by omega, h2⟩)).blocks (fun k hk _ => ?_) |>.mono (fun k hk _ => hk.1)
    exact blk_alloc_lt _ _ _ hk.2
end Go.Proofs.YtdjgkcnhmfkjoaaDoor
