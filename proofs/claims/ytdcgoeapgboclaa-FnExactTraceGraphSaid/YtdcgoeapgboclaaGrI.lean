/- Graphs: the elements at a list of wires. -/
import Derived.Test.YtdcgoeapgboclaaGrW
import Derived.Test.YtdcgoeapgboclaaMapR
import Derived.Test.YtdcgoeapgboclaaGrL
import Derived.Deep.RegionLaw
namespace Go.Proofs.Ytdcgoeapgboclaa
set_option maxRecDepth 100000
open Go Go.RowKit Go.Deep

/-- The elements of a list at the places l. -/
def pickL (l tz : List Int) : List Int := l.map fun x => tz.getD x.toNat 0
theorem pickL_len (l tz : List Int) : (pickL l tz).length = l.length := by simp [pickL]
theorem pickL_next {l tz : List Int} {k : Nat} (h : k < l.length) : pickL (l.take (k + 1)) tz = pickL (l.take k) tz ++ [tz.getD (l.getD k 0).toNat 0] := by
  unfold pickL
  rw [take_one h 0, List.map_append]
  rfl
set_option maxRecDepth 100000 in
set_option maxHeartbeats 3200000 in
theorem hgList_any (w : World) (B : Nat) (vl vt : Value) (l tz : List Int) (hl : RdS w (fun q => q < B) vl l) (ht : RdS w (fun q => q < B) vt tz) (hB : B ≤ w.heap.size) (hn : l.length ≤ 100000) (hat : ∀ k, k < l.length → 0 ≤ l.getD k 0 ∧ l.getD k 0 < tz.length) :
    Calls Try.prog 96 #[vl, vt] w (MadeR w (pickL l tz)) := by
  have HL := Lib.hid hl
  have HT := Lib.hid ht
  have HAT := Lib.hid hat
  obtain ⟨A1, c1, rfl⟩ := rdS_len hl
  obtain ⟨A2, c2, rfl⟩ := rdS_len ht
  clear hl ht hat
  go_enter Try.func96, Try.ntmps96
  go_wp2
  go_loopw [10, 5, 7] (fun ti o _ wr => ∃ (k : Nat), k ≤ l.length ∧ ti = .int .i64 k ∧ Hid (Below w.heap.size w wr) ∧ Hid (RowA wr w.heap.size o (pickL (l.take k) tz))) (fun ti _ _ _ => l.length - (intOf ti).toNat)
  case atStart => exact ⟨0, Nat.zero_le _, rfl, Lib.hid (Below.refl _ _), Lib.hid (World.ownsRow_nil _ _ _ _)⟩
  case round =>
    obtain ⟨k, hk, rfl, HB1, HO1⟩ := hrel
    by_cases hlt : k < l.length
    · obtain ⟨b1, o1, e1, hb1, hc1⟩ := RdS.at (HL.out.below HB1.out hB) hlt
      have hbd := HAT.out k hlt
      have HNX := Lib.hid (pickL_next (tz := tz) hlt)
      generalize l.getD k 0 = x at hc1 hbd HNX
      obtain ⟨q, rfl⟩ : ∃ q : Nat, x = (q : Int) := ⟨x.toNat, by omega⟩
      rw [Int.toNat_natCast] at HNX
      have hqn : q < tz.length := by omega
      obtain ⟨b2, o2, e2, hb2, hc2⟩ := RdS.at (HT.out.below HB1.out hB) hqn
      subst e1 e2
      generalize tz.getD q 0 = y at hc2 HNX
      have hqI : (q : Int) < (tz.length : Int) := by omega
      have HPL := Lib.hid (show (pickL (l.take k) tz).length ≤ 100000 from by rw [pickL_len, List.length_take]; omega)
      generalize pickL (l.take k) tz = ps at HO1 HNX HPL
      have HRA := Lib.hid (show RowA (wr.alloc (.cells #[.int .i64 y] 3)) w.heap.size u5 ps from RowA.below HO1.out ((Below.refl _ _).alloc (Nat.le_refl _) _))
      have HCY := Lib.hid (show (wr.alloc (.cells #[.int .i64 y] 3)).cell? ⟨wr.heap.size, 0, none⟩ = some (.int .i64 y) from ((cellsAt_new wr #[.int .i64 y] 3).cell (i := 0) (by simp)).trans (by simp))
      have HBA := Lib.hid (show Below w.heap.size w (wr.alloc (.cells #[.int .i64 y] 3)) from HB1.out.trans ((Below.refl wr.heap.size wr).alloc (Nat.le_refl _) _ |>.mono HB1.out.size))
      have hpl := HPL.out
      have hb1w : b1 < wr.heap.size := by have := HB1.out.size; omega
      have hb2w : b2 < wr.heap.size := by have := HB1.out.size; omega
      have hd2 : wr.drew.cell? ⟨b2, o2 + q, none⟩ = some (.int .i64 y) := hc2
      go_wp2_with (at_builtin; refine wpList_pushI rfl _ _ rfl _ w.heap.size u5 ps y wr.heap.size 1 rfl HRA.out rfl HCY.out HBA.out.size (by omega) ?_; intro g9 cap9 w9 ho9 hgr9 hat9; have HO9 := Lib.hid (rowA_push ho9 rfl); have HB9 := Lib.hid (Below.grown HBA.out hgr9 HBA.out.size (fun q hq => (World.ownsRow.lt HRA.out q hq).1)); clear ho9 hgr9 hat9)
      all_goals go_roundw
      all_goals first
        | exact ⟨k + 1, by omega, by go_num, HB9, Lib.hid (by rw [HNX.out]; exact HO9.out)⟩
        | (simp [intOf]; omega)
    · have HE := Lib.hid (show pickL (l.take k) tz = pickL l tz by rw [List.take_of_length_le (by omega)])
      rw [HE.out] at HO1
      go_wp2
      go_ret
      exact ⟨_, rfl, HB1.out, RowA.own HO1.out⟩
end Go.Proofs.Ytdcgoeapgboclaa
