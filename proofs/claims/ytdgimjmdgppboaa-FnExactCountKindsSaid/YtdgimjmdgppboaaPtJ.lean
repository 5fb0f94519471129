/- The program's parts: joining two parts; what a node leaves behind. -/
import Derived.Test.YtdgimjmdgppboaaPtI
namespace Go.Proofs.Ytdgimjmdgppboaa
set_option maxRecDepth 100000
open Go Go.RowKit Go.Deep

set_option maxHeartbeats 3200000 in
theorem juxtapose_any (w : World) (a b : Tr) (ha : Fits a) (hb : Fits b) : Calls Try.prog 57 #[trV a, trV b] w fun e w' => e = .returned (trV (.par a b (a.inw + b.inw) (a.outw + b.outw))) ∧ Below w.heap.size w w' := by
  obtain ⟨R, HR⟩ : ∃ R, Hid (trV (.par a b (a.inw + b.inw) (a.outw + b.outw)) = R) := ⟨_, Lib.hid rfl⟩
  rw [HR.out]
  obtain ⟨a1, a2, a3, a4⟩ := ha
  obtain ⟨b1, b2, b3, b4⟩ := hb
  obtain ⟨Ta, Va, ga, ea, hma, hca, hCa⟩ := trV_wires a
  obtain ⟨Tb, Vb, gb, eb, hmb, hcb, hCb⟩ := trV_wires b
  have HCa := Lib.hid hCa
  have HCb := Lib.hid hCb
  clear hCa hCb
  have hf0 := fld0
  have hf1 := fld1
  rw [ea, eb]
  go_enter Try.func57, Try.ntmps57
  generalize a.inw = ai at *
  generalize a.outw = ao at *
  generalize b.inw = bi at *
  generalize b.outw = bo at *
  have hw1 : IntKind.i64.wrap (ai + bi) = ai + bi := Go.IntWalk.i64_in _ ⟨by omega, by omega⟩
  have hw2 : IntKind.i64.wrap (ao + bo) = ao + bo := Go.IntWalk.i64_in _ ⟨by omega, by omega⟩
  go_wp2_with (first | (with_reducible refine (HCa.out _).mono ?_; rintro e w1 ⟨rfl, b1⟩; have HB1 := Lib.hid b1; clear b1; unfold wcV) | (with_reducible refine (HCb.out _).mono ?_; rintro e w2 ⟨rfl, b2⟩; have HB2 := Lib.hid b2; clear b2; unfold wcV) | fail)
  have HE := Lib.hid (HB1.out.trans (HB2.out.mono HB1.out.size))
  have hsz : w.heap.size ≤ w2.heap.size := HE.out.size
  refine bodyPost_ret (v := R) (by rw [← HR.out]; simp [results, Try.results57, go_sem, trV, ea, eb]) rfl ?_
  exact ⟨rfl, by refine Below.trans HE.out ?_; exact (by repeat' (first | exact Below.refl _ _ | apply Below.drew | apply below_drewN | apply Below.setCell | apply Below.alloc | (simp; done) | omega | (simp; omega)))⟩
def JoinSaid (w : World) (k : Int) (a b : Tr) (e : Ending) (w' : World) : Prop := ∃ t ok, e = .returned (.tuple #[trV t, .bool ok]) ∧ Below w.heap.size w w' ∧ joinT k a b = if ok = true then some t else none
theorem joinT_seq {k : Int} {a b : Tr} (h : k = 15) : joinT k a b = if a.outw = b.inw then some (.seq a b a.inw b.outw) else none := by
  unfold joinT
  rw [if_pos h]
theorem joinT_par {k : Int} {a b : Tr} (h : k ≠ 15) : joinT k a b = if a.inw + b.inw ≤ 12 ∧ a.outw + b.outw ≤ 12 then some (.par a b (a.inw + b.inw) (a.outw + b.outw)) else none := by
  unfold joinT
  rw [if_neg h]
set_option maxHeartbeats 3200000 in
theorem joinParts_any (w : World) (k : Int) (a b : Tr) (ha : Fits a) (hb : Fits b) : Calls Try.prog 53 #[.int .i64 k, trV a, trV b] w (JoinSaid w k a b) := by
  unfold JoinSaid
  obtain ⟨Ta, Va, ga, ea, hma, hca, hCa⟩ := trV_wires a
  obtain ⟨Tb, Vb, gb, eb, hmb, hcb, hCb⟩ := trV_wires b
  have HCa := Lib.hid hCa
  have HCb := Lib.hid hCb
  clear hCa hCb
  have hf0 := fld0
  have hf1 := fld1
  rw [ea, eb]
  obtain ⟨Tc, Vc, gc, ec, hmc, hcc, hCc⟩ := trV_wires (.par a b (a.inw + b.inw) (a.outw + b.outw))
  obtain ⟨Td, Vd, gd, ed, -, -, -⟩ := trV_wires (.seq a b a.inw b.outw)
  have HCC := Lib.hid (show ∀ w, Calls Try.prog gc #[Vc] w fun e w' => e = .returned (wcV (a.inw + b.inw) (a.outw + b.outw)) ∧ Below w.heap.size w w' from hCc)
  clear hCc
  have HCO := fun w0 => compose_any w0 a b
  have HJX := fun w0 => juxtapose_any w0 a b ha hb
  rw [ea, eb, ed] at HCO
  rw [ea, eb, ec] at HJX
  have HCO2 := Lib.hid HCO
  have HJX2 := Lib.hid HJX
  clear HCO HJX
  obtain ⟨a1, a2, a3, a4⟩ := ha
  obtain ⟨b1, b2, b3, b4⟩ := hb
  by_cases hk : k = 15
  · have HJT := Lib.hid (joinT_seq (a := a) (b := b) hk)
    by_cases hq : a.outw = b.inw
    · have HJ := Lib.hid (HJT.out.trans (if_pos hq))
      have hq2 : (a.outw == b.inw) = true := by simp [hq]
      clear hq
      go_enter Try.func53, Try.ntmps53
      go_wp2_with (first | (go_at_call 56; refine (HCO2.out _).mono ?_; rintro e w3 ⟨rfl, b3⟩; have HB3 := Lib.hid b3; clear b3) | (go_at_call 57; refine (HJX2.out _).mono ?_; rintro e w4 ⟨rfl, b4⟩; have HB4 := Lib.hid b4; clear b4) | (with_reducible refine (HCC.out _).mono ?_; rintro e w5 ⟨rfl, b5⟩; have HB5 := Lib.hid b5; clear b5; unfold wcV) | (with_reducible refine (HCa.out _).mono ?_; rintro e w1 ⟨rfl, b1⟩; have HB1 := Lib.hid b1; clear b1; unfold wcV) | (with_reducible refine (HCb.out _).mono ?_; rintro e w2 ⟨rfl, b2⟩; have HB2 := Lib.hid b2; clear b2; unfold wcV) | fail)
      have HE := Lib.hid (HB3.out.trans ((HB1.out.trans (HB2.out.mono HB1.out.size)).mono HB3.out.size))
      refine bodyPost_ret (v := .tuple #[.iface Td Vd, .bool true]) (by simp [results, Try.results53, go_sem]) rfl ?_
      refine ⟨(.seq a b a.inw b.outw), true, by rw [ed], by refine Below.trans HE.out ?_; exact (by repeat' (first | exact Below.refl _ _ | apply Below.drew | apply below_drewN | apply Below.setCell | apply Below.alloc | (simp; done) | omega | (simp; omega))), ?_⟩
      rw [HJ.out]; rfl
    · have HJ := Lib.hid (HJT.out.trans (if_neg hq))
      have hq2 : (a.outw == b.inw) = false := by simp [hq]
      clear hq
      go_enter Try.func53, Try.ntmps53
      go_wp2_with (first | (go_at_call 56; refine (HCO2.out _).mono ?_; rintro e w3 ⟨rfl, b3⟩; have HB3 := Lib.hid b3; clear b3) | (go_at_call 57; refine (HJX2.out _).mono ?_; rintro e w4 ⟨rfl, b4⟩; have HB4 := Lib.hid b4; clear b4) | (with_reducible refine (HCC.out _).mono ?_; rintro e w5 ⟨rfl, b5⟩; have HB5 := Lib.hid b5; clear b5; unfold wcV) | (with_reducible refine (HCa.out _).mono ?_; rintro e w1 ⟨rfl, b1⟩; have HB1 := Lib.hid b1; clear b1; unfold wcV) | (with_reducible refine (HCb.out _).mono ?_; rintro e w2 ⟨rfl, b2⟩; have HB2 := Lib.hid b2; clear b2; unfold wcV) | fail)
      have HE := Lib.hid (HB3.out.trans ((HB1.out.trans (HB2.out.mono HB1.out.size)).mono HB3.out.size))
      refine bodyPost_ret (v := .tuple #[.iface Td Vd, .bool false]) (by simp [results, Try.results53, go_sem]) rfl ?_
      refine ⟨(.seq a b a.inw b.outw), false, by rw [ed], by refine Below.trans HE.out ?_; exact (by repeat' (first | exact Below.refl _ _ | apply Below.drew | apply below_drewN | apply Below.setCell | apply Below.alloc | (simp; done) | omega | (simp; omega))), ?_⟩
      rw [HJ.out]; rfl
  · have HJT := Lib.hid (joinT_par (a := a) (b := b) hk)
    by_cases hi : a.inw + b.inw ≤ 12
    · by_cases ho : a.outw + b.outw ≤ 12
      · have HJ := Lib.hid (HJT.out.trans (if_pos ⟨hi, ho⟩))
        go_enter Try.func53, Try.ntmps53
        go_wp2_with (first | (go_at_call 56; refine (HCO2.out _).mono ?_; rintro e w3 ⟨rfl, b3⟩; have HB3 := Lib.hid b3; clear b3) | (go_at_call 57; refine (HJX2.out _).mono ?_; rintro e w4 ⟨rfl, b4⟩; have HB4 := Lib.hid b4; clear b4) | (with_reducible refine (HCC.out _).mono ?_; rintro e w5 ⟨rfl, b5⟩; have HB5 := Lib.hid b5; clear b5; unfold wcV) | (with_reducible refine (HCa.out _).mono ?_; rintro e w1 ⟨rfl, b1⟩; have HB1 := Lib.hid b1; clear b1; unfold wcV) | (with_reducible refine (HCb.out _).mono ?_; rintro e w2 ⟨rfl, b2⟩; have HB2 := Lib.hid b2; clear b2; unfold wcV) | fail)
        go_quiet (fail)
        go_wp2
        have HE := Lib.hid (HB4.out.trans (HB5.out.mono HB4.out.size))
        have hsz : w.heap.size ≤ w5.heap.size := HE.out.size
        refine bodyPost_ret (v := .tuple #[.iface Tc Vc, .bool true]) (by simp [results, Try.results53, go_sem]) rfl ?_
        refine ⟨(.par a b (a.inw + b.inw) (a.outw + b.outw)), true, by rw [ec], by refine Below.trans HE.out ?_; exact (by repeat' (first | exact Below.refl _ _ | apply Below.drew | apply below_drewN | apply Below.setCell | apply Below.alloc | (simp; done) | omega | (simp; omega))), ?_⟩
        rw [HJ.out]; rfl
      · have HJ := Lib.hid (HJT.out.trans (if_neg (fun h => ho h.2)))
        have hd : decide (a.outw + b.outw ≤ 12) = false := decide_eq_false ho
        clear ho
        go_enter Try.func53, Try.ntmps53
        go_wp2_with (first | (go_at_call 56; refine (HCO2.out _).mono ?_; rintro e w3 ⟨rfl, b3⟩; have HB3 := Lib.hid b3; clear b3) | (go_at_call 57; refine (HJX2.out _).mono ?_; rintro e w4 ⟨rfl, b4⟩; have HB4 := Lib.hid b4; clear b4) | (with_reducible refine (HCC.out _).mono ?_; rintro e w5 ⟨rfl, b5⟩; have HB5 := Lib.hid b5; clear b5; unfold wcV) | (with_reducible refine (HCa.out _).mono ?_; rintro e w1 ⟨rfl, b1⟩; have HB1 := Lib.hid b1; clear b1; unfold wcV) | (with_reducible refine (HCb.out _).mono ?_; rintro e w2 ⟨rfl, b2⟩; have HB2 := Lib.hid b2; clear b2; unfold wcV) | fail)
        go_quiet (fail)
        go_wp2
        have HE := Lib.hid (HB4.out.trans (HB5.out.mono HB4.out.size))
        have hsz : w.heap.size ≤ w5.heap.size := HE.out.size
        refine bodyPost_ret (v := .tuple #[.iface Tc Vc, .bool false]) (by simp [results, Try.results53, go_sem]) rfl ?_
        refine ⟨(.par a b (a.inw + b.inw) (a.outw + b.outw)), false, by rw [ec], by refine Below.trans HE.out ?_; exact (by repeat' (first | exact Below.refl _ _ | apply Below.drew | apply below_drewN | apply Below.setCell | apply Below.alloc | (simp; done) | omega | (simp; omega))), ?_⟩
        rw [HJ.out]; rfl
    · have HJ := Lib.hid (HJT.out.trans (if_neg (fun h => hi h.1)))
      have hd : decide (a.inw + b.inw ≤ 12) = false := decide_eq_false hi
      clear hi
      go_enter Try.func53, Try.ntmps53
      go_wp2_with (first | (go_at_call 56; refine (HCO2.out _).mono ?_; rintro e w3 ⟨rfl, b3⟩; have HB3 := Lib.hid b3; clear b3) | (go_at_call 57; refine (HJX2.out _).mono ?_; rintro e w4 ⟨rfl, b4⟩; have HB4 := Lib.hid b4; clear b4) | (with_reducible refine (HCC.out _).mono ?_; rintro e w5 ⟨rfl, b5⟩; have HB5 := Lib.hid b5; clear b5; unfold wcV) | (with_reducible refine (HCa.out _).mono ?_; rintro e w1 ⟨rfl, b1⟩; have HB1 := Lib.hid b1; clear b1; unfold wcV) | (with_reducible refine (HCb.out _).mono ?_; rintro e w2 ⟨rfl, b2⟩; have HB2 := Lib.hid b2; clear b2; unfold wcV) | fail)
      go_quiet (fail)
      go_wp2
      have HE := Lib.hid (HB4.out.trans (HB5.out.mono HB4.out.size))
      have hsz : w.heap.size ≤ w5.heap.size := HE.out.size
      refine bodyPost_ret (v := .tuple #[.iface Tc Vc, .bool false]) (by simp [results, Try.results53, go_sem]) rfl ?_
      refine ⟨(.par a b (a.inw + b.inw) (a.outw + b.outw)), false, by rw [ec], by refine Below.trans HE.out ?_; exact (by repeat' (first | exact Below.refl _ _ | apply Below.drew | apply below_drewN | apply Below.setCell | apply Below.alloc | (simp; done) | omega | (simp; omega))), ?_⟩
      rw [HJ.out]; rfl
end Go.Proofs.Ytdgimjmdgppboaa
