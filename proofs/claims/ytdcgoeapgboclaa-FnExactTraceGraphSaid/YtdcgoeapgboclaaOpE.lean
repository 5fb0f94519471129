/- The program's open graphs: one edge's check; the first bad edge. -/
import Derived.Test.YtdcgoeapgboclaaOpW
import Derived.Test.YtdcgoeapgboclaaQui
namespace Go.Proofs.Ytdcgoeapgboclaa
set_option maxRecDepth 100000
open Go Go.RowKit Go.Deep

/-- An edge as the program checks it: a leaf's kind and value, as many wires as its type says. -/
def edP (e : Ed) : Bool := decide (3 ≤ e.k) && isLeafB ⟨e.k, e.v, ByteArray.empty⟩ && decide (leafW ⟨e.k, e.v, ByteArray.empty⟩ = ((e.i.length : Int), (e.o.length : Int)))
set_option maxRecDepth 100000 in
set_option maxHeartbeats 3200000 in
theorem oeValid_any (w : World) (e : Ed) (A1 A2 : Option Addr) (c1 c2 : Nat) :
    Calls Try.prog 85 #[oeV (.slice A1 e.i.length c1) (.slice A2 e.o.length c2) e.k e.v] w (SaysB w (edP e)) := by
  obtain ⟨k, v, xi, xo⟩ := e
  dsimp only
  have HL1 := Lib.hid (fun w0 => isLeaf_any w0 ⟨k, v, ByteArray.empty⟩)
  have HL2 := Lib.hid (fun w0 => leafWires_any w0 ⟨k, v, ByteArray.empty⟩)
  unfold ndV at HL1 HL2
  dsimp only at HL1 HL2
  unfold oeV edP
  dsimp only
  generalize hn : xi.length = n
  generalize ho : xo.length = m
  clear hn ho
  have HW0 := Lib.hid (fun w' (h : Below (w.alloc (.cells #[.slice A1 n c1, .slice A2 m c2, .int .i64 k, .int .i64 v, .string ByteArray.empty] tOE)).heap.size (w.alloc (.cells #[.slice A1 n c1, .slice A2 m c2, .int .i64 k, .int .i64 v, .string ByteArray.empty] tOE)) w') =>
    show w'.cell? ⟨w.heap.size, 0, none⟩ = some (.slice A1 n c1) ∧ w'.cell? ⟨w.heap.size, 1, none⟩ = some (.slice A2 m c2) ∧ w'.cell? ⟨w.heap.size, 2, none⟩ = some (.int .i64 k) ∧ w'.cell? ⟨w.heap.size, 3, none⟩ = some (.int .i64 v) ∧ w'.cell? ⟨w.heap.size, 4, none⟩ = some (.string ByteArray.empty) from by
      have hb := (h.block w.heap.size (by simp)).trans (blk_alloc_new w _)
      refine ⟨box_cell hb 0, box_cell hb 1, box_cell hb 2, box_cell hb 3, box_cell hb 4⟩)
  have HBW := Lib.hid ((Below.refl w.heap.size w).alloc (Nat.le_refl _) (.cells #[.slice A1 n c1, .slice A2 m c2, .int .i64 k, .int .i64 v, .string ByteArray.empty] tOE))
  have HSZ := Lib.hid (show (w.alloc (.cells #[.slice A1 n c1, .slice A2 m c2, .int .i64 k, .int .i64 v, .string ByteArray.empty] tOE)).heap.size = w.heap.size + 1 by simp)
  by_cases h1 : 3 ≤ k
  · cases h2 : isLeafB ⟨k, v, ByteArray.empty⟩ with
    | false =>
      rw [h2] at HL1
      clear h2 HL2
      simp only [Bool.and_false, Bool.false_and]
      go_enter Try.func85, Try.ntmps85
      go_wp2
      generalize w.alloc (.cells #[.slice A1 n c1, .slice A2 m c2, .int .i64 k, .int .i64 v, .string ByteArray.empty] tOE) = W at *
      refine region_quiet (fun w' => Below W.heap.size W w') (by kernel_rfl) (by kernel_rfl) (Below.refl _ _).drew ?_
      repeat
        (refine quiet_step (fun K hK => ?_)
         go_simp
         first
           | (with_reducible refine hK _ ?_; clear hK K)
           | (apply Exists.intro
              with_reducible refine ⟨fun w' hw' => ?_, hK _ ?_⟩
              (first
                | with_reducible exact rfl
                | with_reducible exact ⟨rfl, rfl⟩
                | (go_at_call 98; refine (HL1.out w').mono ?_; rintro e w2 ⟨rfl, b2⟩; exact ⟨rfl, hw'.trans (b2.mono hw'.size)⟩)
                | (go_at_call 99; refine (HL2.out w').mono ?_; rintro e w2 ⟨rfl, b2⟩; exact ⟨rfl, hw'.trans (b2.mono hw'.size)⟩)
                | (obtain ⟨c0, c1, c2, c3, c4⟩ := HW0.out w' hw'; go_simp; first | done | with_reducible exact rfl | with_reducible exact ⟨rfl, rfl⟩))
              clear hK K))
      refine quiet_nil ?_
      intro w3 HB3
      have HBE := Lib.hid (HBW.out.trans (HB3.mono HBW.out.size))
      clear HB3
      go_wp2
      go_ret
      exact ⟨rfl, HBE.out⟩
    | true =>
      rw [h2] at HL1
      clear h2
      have hdm : decide (leafW ⟨k, v, ByteArray.empty⟩ = ((n : Int), (m : Int))) = ((((leafW ⟨k, v, ByteArray.empty⟩).1 == (n : Int)) && ((leafW ⟨k, v, ByteArray.empty⟩).2 == (m : Int)))) := by
        rw [Bool.eq_iff_iff]
        simp [Prod.ext_iff]
      rw [hdm]
      clear hdm
      generalize (leafW ⟨k, v, ByteArray.empty⟩).1 = a1 at HL2 ⊢
      generalize (leafW ⟨k, v, ByteArray.empty⟩).2 = a2 at HL2 ⊢
      unfold wcV at HL2
      by_cases q1 : a1 = (n : Int) <;> by_cases q2 : a2 = (m : Int)
      all_goals
        go_enter Try.func85, Try.ntmps85
        go_wp2
        generalize w.alloc (.cells #[.slice A1 n c1, .slice A2 m c2, .int .i64 k, .int .i64 v, .string ByteArray.empty] tOE) = W at *
        refine region_quiet (fun w' => Below W.heap.size W w') (by kernel_rfl) (by kernel_rfl) (Below.refl _ _).drew ?_
        repeat
          (refine quiet_step (fun K hK => ?_)
           go_simp
           first
             | (with_reducible refine hK _ ?_; clear hK K)
             | (apply Exists.intro
                with_reducible refine ⟨fun w' hw' => ?_, hK _ ?_⟩
                (first
                  | with_reducible exact rfl
                  | with_reducible exact ⟨rfl, rfl⟩
                  | (go_at_call 98; refine (HL1.out w').mono ?_; rintro e w2 ⟨rfl, b2⟩; exact ⟨rfl, hw'.trans (b2.mono hw'.size)⟩)
                  | (go_at_call 99; refine (HL2.out w').mono ?_; rintro e w2 ⟨rfl, b2⟩; exact ⟨rfl, hw'.trans (b2.mono hw'.size)⟩)
                  | (obtain ⟨c0, c1, c2, c3, c4⟩ := HW0.out w' hw'; go_simp; first | done | with_reducible exact rfl | with_reducible exact ⟨rfl, rfl⟩))
                clear hK K))
        refine quiet_nil ?_
        intro w3 HB3
        have HBE := Lib.hid (HBW.out.trans (HB3.mono HBW.out.size))
        clear HB3
        go_wp2
        go_ret
        refine ⟨?_, HBE.out⟩
        simp [h1, q1, q2]
  · have hk3 : decide (3 ≤ k) = false := decide_eq_false h1
    rw [hk3]
    simp only [Bool.false_and]
    go_enter Try.func85, Try.ntmps85
    go_wp2
    go_quiet (fail)
    go_wp2
    go_ret
    exact ⟨rfl, by repeat' (first | exact Below.refl _ _ | apply Below.drew | apply below_drewN | apply Below.setCell | apply Below.alloc | (simp; done) | omega | (simp; omega))⟩
end Go.Proofs.Ytdcgoeapgboclaa
