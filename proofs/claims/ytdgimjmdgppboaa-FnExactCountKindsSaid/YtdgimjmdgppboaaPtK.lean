/- The program's parts: what a node makes of the parts before it; the whole term. -/
import Derived.Test.YtdgimjmdgppboaaPtJ
namespace Go.Proofs.Ytdgimjmdgppboaa
set_option maxRecDepth 100000
open Go Go.RowKit Go.Deep

theorem look_nil (s : ByteArray) (w : World) : Sem.run Try.prog (Instr.lookup 81 (.map none) (.string s) true) w = .ok (.tuple #[.agg #[.string ByteArray.empty, .int .i64 0, .int .i64 0, .slice none 0 0], .bool false]) w := by kernel_rfl
def leafRes (n : Nd) : Value := if isLeafB n = true then trV (.leaf n (leafW n).1 (leafW n).2) else .nilIface
set_option maxHeartbeats 3200000 in
theorem leafIn_any (w : World) (n : Nd) : Calls Try.prog 52 #[.map none, ndV n] w fun e w' => e = .returned (.tuple #[leafRes n, .bool (isLeafB n)]) ∧ Below w.heap.size w w' := by
  have HIL := Lib.hid (fun w0 => isLeaf_any w0 n)
  have HLP := Lib.hid (fun w0 => leafPart_any w0 n)
  by_cases hl : isLeafB n = true
  · have HR : Hid (leafRes n = trV (.leaf n (leafW n).1 (leafW n).2)) := Lib.hid (if_pos hl)
    rw [hl] at HIL
    rw [HR.out, hl]
    clear hl HR
    obtain ⟨R, HR⟩ : ∃ R, Hid (trV (.leaf n (leafW n).1 (leafW n).2) = R) := ⟨_, Lib.hid rfl⟩
    rw [HR.out] at HLP ⊢
    unfold ndV at HIL HLP ⊢
    go_enter Try.func52, Try.ntmps52
    go_wp2_with (first | (go_at_call 54; refine (HIL.out _).mono ?_; rintro e w1 ⟨rfl, b1⟩; have HB1 : Hid (Below w.heap.size w w1) := Lib.hid ((Below.alloc (Below.refl _ _) (Nat.le_refl _) _).trans (b1.mono (by simp))); have hc := Lib.hid ((cellsAt_new' w #[.int .i64 n.k, .int .i64 n.v, .string n.s] tNd [.int .i64 n.k, .int .i64 n.v, .string n.s] _ rfl rfl).below b1 (by simp)); obtain ⟨hn0, hn1, hn2, -, -, -, -⟩ := cells3 hc.out; clear b1) | (go_at_call 55; refine (HLP.out _).mono ?_; rintro e w2 ⟨rfl, b2⟩; have HB2 := Lib.hid (HB1.out.trans (b2.mono HB1.out.size)); clear b2) | fail)
    refine bodyPost_ret (v := .tuple #[R, .bool true]) (by simp [results, Try.results52, go_sem]) rfl ?_
    exact ⟨rfl, HB2.out⟩
  · have hl0 : isLeafB n = false := by simpa using hl
    have HR : Hid (leafRes n = .nilIface) := Lib.hid (if_neg hl)
    rw [hl0] at HIL
    rw [HR.out, hl0]
    clear hl HR
    have hlook := look_nil n.s
    unfold ndV at HIL ⊢
    go_enter Try.func52, Try.ntmps52
    go_wp2_with (first | (go_at_call 54; refine (HIL.out _).mono ?_; rintro e w1 ⟨rfl, b1⟩; have HB1 : Hid (Below w.heap.size w w1) := Lib.hid ((Below.alloc (Below.refl _ _) (Nat.le_refl _) _).trans (b1.mono (by simp))); have hc := Lib.hid ((cellsAt_new' w #[.int .i64 n.k, .int .i64 n.v, .string n.s] tNd [.int .i64 n.k, .int .i64 n.v, .string n.s] _ rfl rfl).below b1 (by simp)); obtain ⟨hn0, hn1, hn2, -, -, -, -⟩ := cells3 hc.out; clear b1) | fail)
    have hsz : w.heap.size ≤ w1.heap.size := HB1.out.size
    refine bodyPost_ret (v := .tuple #[.nilIface, .bool false]) (by simp [results, Try.results52, go_sem]) rfl ?_
    exact ⟨rfl, by refine Below.trans HB1.out ?_; exact (by repeat' (first | exact Below.refl _ _ | apply Below.drew | apply below_drewN | apply Below.setCell | apply Below.alloc | (simp; done) | omega | (simp; omega)))⟩
end Go.Proofs.Ytdgimjmdgppboaa
