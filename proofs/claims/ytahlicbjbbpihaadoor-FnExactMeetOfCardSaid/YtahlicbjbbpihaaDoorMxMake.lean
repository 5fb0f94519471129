/- Zero matrices and unit matrices: both sides. -/
import Derived.Test.YtahlicbjbbpihaaDoorMxK
import Derived.Test.YtahlicbjbbpihaaDoorMx
import Derived.Test.YtahlicbjbbpihaaDoorFdWalks
import Derived.Deep.RegionHeld3
namespace Go.Proofs.YtahlicbjbbpihaaDoor
set_option maxRecDepth 100000
open Go Go.RowKit Go.Deep

abbrev tM : TypeId := 46
set_option maxHeartbeats 400000 in
theorem zeroRows_any (w : World) (n c : Nat) (hn : n ≤ 1000000) (hc : c ≤ 1000000) :
    Calls Tryd.prog 124 #[.int .i64 n, .int .i64 c] w (MadeG w (List.replicate n (List.replicate c 0))) := by
  have hmk := make_rows n (by omega)
  have hmk2 := make_ints c (by omega)
  go_enter Tryd.func124, Tryd.ntmps124
  go_wp2
  go_loopw [11, 6] (fun i t wr => ∃ (k : Nat) (vs : List Value), k ≤ n ∧ i = .int .i64 k ∧ Hid (Below w.heap.size w wr) ∧ Hid (w.heap.size < wr.heap.size) ∧ Hid (GridAt wr tI tR (fun b => w.heap.size ≤ b ∧ b < wr.heap.size) w.heap.size vs (upd (fun _ _ => List.replicate c 0) k (List.replicate n [])))) (fun i _ _ => n - (intOf i).toNat)
  case atStart => exact ⟨0, _, Nat.zero_le _, rfl, Lib.hid ((Below.refl _ _).alloc (Nat.le_refl _) _), Lib.hid (by rw [nblk_alloc]; omega), Lib.hid (by rw [upd_zero]; exact made_grid w _ _ ⟨Nat.le_refl _, by rw [nblk_alloc]; omega⟩)⟩
  case round =>
    obtain ⟨k, vs, hk, rfl, HB, HS, HG⟩ := hrel
    have HLN := Lib.hid (show (upd (fun _ _ => List.replicate c (0 : Int)) k (List.replicate n [])).length = n by rw [upd_len, List.length_replicate])
    by_cases hlt : k < n
    · have hg : w.heap.size < wr.heap.size := HS.out
      have hcell : ∀ o, (wr.alloc o).cell? ⟨w.heap.size, k, none⟩ = some (vs.getD k .nilFunc) := fun o => (World.cell?_of_block (w := wr) (blk_alloc_lt wr o _ hg)).trans (HG.out.cell (by rw [HLN.out]; exact hlt))
      have hf : ∀ o, (wr.alloc o).frozen? ⟨w.heap.size, k, none⟩ = false := fun o => (World.frozen?_of_block (w := wr) (blk_alloc_lt wr o _ hg)).trans (HG.out.outer.frozen k)
      have HP := Lib.hid (HG.out.putNew (fun q h => h.2) (r := k) (by rw [HLN.out]; exact hlt) (cs := madeCells #[.int .i64 0] c) (xs := List.replicate c 0) (n := c) (c := c) (by rw [toList_madeCells_one]; simp [icells]) (by simp))
      generalize vs.getD k Value.nilFunc = u at hcell
      go_wp2
      go_roundw
      case rel => exact ⟨k + 1, _, by omega, by go_num, Lib.hid ((HB.out.setCell (p := ⟨w.heap.size, k, none⟩) (Nat.le_refl _) _).alloc (by rw [nblk_setCell]; exact HB.out.size) _), Lib.hid (by rw [nblk_alloc, nblk_setCell]; have := HS.out; omega), Lib.hid (by
        have := HP.out
        rw [upd_step (fun _ _ => List.replicate c (0 : Int)) (by rw [List.length_replicate]; exact hlt) []] at this
        exact this.mono (T := fun b => w.heap.size ≤ b ∧ b < _) (fun q h hq => ⟨by have := HS.out; omega, hq⟩))⟩
      case measure => simp [intOf]; omega
    · go_wp2
      go_ret
      refine ⟨_, rfl, HB.out, some ⟨w.heap.size, 0, none⟩, n, by simp, Or.inr ⟨_, vs, rfl, ?_⟩⟩
      have := HG.out
      rw [upd_all _ (by rw [List.length_replicate]; omega), upd_repl] at this
      exact this.mono (fun q h _ => h.1)
/-- Two cells of a box of the call's own, behind a call. -/
theorem box2 {w w1 : World} (hb : Below (w.heap.size + 1) (w.alloc (.cells #[.int .i64 0, .slice none 0 0] tM)) w1) :
    w1.cell? ⟨w.heap.size, 0, none⟩ = some (.int .i64 0) ∧ w1.cell? ⟨w.heap.size, 1, none⟩ = some (.slice none 0 0) ∧ w1.frozen? ⟨w.heap.size, 0, none⟩ = false ∧ w1.frozen? ⟨w.heap.size, 1, none⟩ = false ∧ w.heap.size < w1.heap.size :=
  ((cellsAt_new w #[.int .i64 0, .slice none 0 0] tM).below hb (by simp)).two
end Go.Proofs.YtahlicbjbbpihaaDoor
