/- A row of one's own, sorted, compacted and searched by the library. -/
import Derived.Test.YtdcgoeapgboclaaShelf
import Derived.Test.YtdcgoeapgboclaaMem
import Derived.Sort.OwnSortedInts
namespace Go.Proofs.Ytdcgoeapgboclaa
set_option maxRecDepth 100000
open Go Go.RowKit Go.Deep Go.Sort

def srt (xs : List Int) : List Int := xs.mergeSort fun x y => decide (x ≤ y)
theorem srt_len (xs : List Int) : (srt xs).length = xs.length := List.length_mergeSort _
theorem CellsAt.holds {w : World} {b : Nat} {t : TypeId} {zs : List Int} (h : CellsAt w b t (icells zs)) : Holds (Value.int .i64) w b 0 zs.toArray := by
  intro j hj
  have hj' : j < zs.length := by simpa using hj
  refine ⟨?_, h.frozen _⟩
  rw [Nat.zero_add, h.cell (by rw [icells_len]; exact hj'), icells_get hj']
  simp [List.getD_eq_getElem?_getD, hj']
theorem cellsAt_put {w : World} {b n : Nat} {t : TypeId} {zs ys : List Int} {os : Array Obj} (h : CellsAt w b t (icells zs)) (hl : ys.length = zs.length) : CellsAt (grow (putRow (Value.int .i64) (Sort.ahead w n) b 0 ys.toArray) os) b t (icells ys) := by
  obtain ⟨cur, hb, hn, hc⟩ := h
  rw [icells_len] at hn hc
  refine ⟨_, heap_sortedI _ hb, by rw [icells_len]; simp [putCells]; omega, fun j hj => ?_⟩
  rw [icells_len] at hj
  rw [icells_get hj]
  simp [putCells, hj, show j < cur.size by omega, List.getD_eq_getElem?_getD]
theorem touch_grown {w w' : World} {g : Nat} (h : w.grownBy w' (some g)) : Touch (fun q => q = g) w w' :=
  ⟨h.os, h.tape, h.output, h.size, fun k hk hs => h.block k hk fun e => hs (by cases e; rfl)⟩
/-- Sorted in place. -/
theorem sortR_any (w : World) (S : Nat → Prop) (v : Value) (xs : List Int) (h : OwR w tI S v xs) (hl : xs.length ≤ 1000000) :
    Calls Try.prog 76 #[v] w fun e w' => e = .returned (.tuple #[]) ∧ Touch (fun q => xs ≠ [] ∧ q = blkOf v) w w' ∧ OwR w' tI S v (srt xs) := by
  rcases h.cases with ⟨rfl, A, c, rfl⟩ | ⟨b, c, rfl, hS, hc, hB⟩
  · refine (Try.slices_Sort_int_none A c w).mono ?_
    rintro e w' ⟨rfl, rfl⟩
    refine ⟨rfl, Touch.refl _ _, ?_⟩
    simp only [srt, List.mergeSort_nil]
    exact h
  · refine (Try.slices_Sort_int b 0 c xs w hB.holds hB.lt (by omega)).mono ?_
    rintro e w' ⟨rfl, n, os, rfl⟩
    refine ⟨rfl, (touch_grown (grownBy_sortedI _)).mono (fun q _ hq => ⟨List.length_pos_iff.1 hc.1, hq⟩), ?_⟩
    exact ⟨_, c, by rw [srt_len], by rw [srt_len]; exact hc.2, Or.inr ⟨b, rfl, hS, cellsAt_put hB (srt_len xs)⟩⟩
/-- Compacted in place: the slice that comes back is cut. -/
theorem compactR_any (w : World) (S : Nat → Prop) (v : Value) (xs : List Int) (h : OwR w tI S v xs) (hl : xs.length ≤ 1000000) :
    Calls Try.prog 77 #[v] w fun e w' => ∃ A c, e = .returned (.slice A (Lib.compact xs).length c) ∧ Touch (fun q => xs ≠ [] ∧ q = blkOf v) w w' ∧ OwR w' tI S (.slice A (Lib.compact xs).length c) (Lib.compact xs) ∧ (Lib.compact xs).length ≤ xs.length := by
  have hcl : (Lib.compact xs).length ≤ xs.length := by
    unfold Lib.compact Lib.compactUpTo
    rw [List.length_map]
    exact Nat.le_trans (List.length_filter_le _ _) (by simp)
  rcases h.cases with ⟨rfl, A, c, rfl⟩ | ⟨b, c, rfl, hS, hc, hB⟩
  · refine (Try.slices_Compact_int_empty A c w).mono ?_
    rintro e w' ⟨rfl, rfl⟩
    exact ⟨A, c, rfl, Touch.refl _ _, OwR.nil _ _, Nat.zero_le _⟩
  · refine (Try.slices_Compact_int b 0 c xs w hB.holds (by omega) hc.2).mono ?_
    rintro e w' ⟨rfl, n, rfl⟩
    have h1 := cellsAt_put (n := n) (os := #[]) hB (ys := Lib.compact xs ++ List.replicate (xs.length - (Lib.compact xs).length) 0) (by rw [List.length_append, List.length_replicate]; omega)
    have h2 := grownBy_sortedI (w := w) (g := b) (n := n) (os := #[]) (Lib.compact xs ++ List.replicate (xs.length - (Lib.compact xs).length) 0).toArray
    rw [grow_empty] at h1 h2
    refine ⟨_, _, rfl, (touch_grown h2).mono (fun q _ hq => ⟨List.length_pos_iff.1 hc.1, hq⟩), ⟨_, c, rfl, by omega, Or.inr ⟨b, rfl, hS, ?_⟩⟩, hcl⟩
    have h3 := h1.take (Lib.compact xs).length
    unfold icells at h3
    rw [← List.map_take, List.take_left] at h3
    exact h3
/-- Searched: how many are smaller, and whether it is there. -/
theorem searchR_any (w : World) (S : Nat → Prop) (v : Value) (xs : List Int) (x : Int) (h : RdS w S v xs) (hl : xs.length ≤ 1000000) (hs : xs.Pairwise (· ≤ ·)) :
    Calls Try.prog 78 #[v, .int .i64 x] w fun e w' => e = .returned (.tuple #[.int .i64 (xs.countP (· < x) : Nat), .bool (xs.contains x)]) ∧ ∃ q, w' = w.drewN q := by
  obtain ⟨A, c, rfl, hc, h⟩ := h
  by_cases h0 : xs.length = 0
  · have : xs = [] := List.length_eq_zero_iff.1 h0
    subst this
    refine (Try.slices_BinarySearch_int_empty A c x w).mono ?_
    rintro e w' h
    simp at h ⊢
    first | exact h | exact ⟨h.1, 0, h.2⟩ | (obtain ⟨h1, h2⟩ := h; exact ⟨h1, 0, h2⟩)
  · obtain ⟨b, o, rfl, -, -⟩ := h 0 (by omega)
    have hcell : ∀ j, j < xs.length → w.cell? ⟨b, o + j, none⟩ = some (.int .i64 (xs.getD j 0)) := fun j hj => by
      obtain ⟨b', o', e, -, hc'⟩ := h j hj
      cases e
      exact hc'
    refine (Try.slices_BinarySearch_int b o xs.length c xs x w (Nat.le_refl _) (by omega) hcell (by rw [List.take_length]; exact hs)).mono ?_
    rw [List.take_length]
    exact fun _ _ h => h
end Go.Proofs.Ytdcgoeapgboclaa
