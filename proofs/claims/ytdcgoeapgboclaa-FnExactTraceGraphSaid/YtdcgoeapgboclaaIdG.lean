/- IdentityGraph. -/
import Derived.Test.YtdcgoeapgboclaaOpR
import Derived.Test.YtdcgoeapgboclaaGrL
namespace Go.Proofs.Ytdcgoeapgboclaa
set_option maxRecDepth 100000
open Go Go.RowKit Go.Deep

set_option maxHeartbeats 1600000 in
theorem wiresFrom_any (w : World) (a n : Nat) (ha : a ≤ 1000) (hn : n ≤ 1000) : Calls Try.prog 66 #[.int .i64 a, .int .i64 n] w (MadeR w (rangeI a n)) := by
  have hmk := make_ints n (by omega)
  have HF := Lib.hid (show (List.replicate n (0 : Int)).mapIdx (fun j _ => ((a + j : Nat) : Int)) = rangeI a n from by
    apply List.ext_getElem?
    intro j
    by_cases h : j < n
    · simp [rangeI, h]
    · rw [List.getElem?_eq_none (by simp; omega), List.getElem?_eq_none (by rw [rangeI_len]; omega)])
  go_enter Try.func66, Try.ntmps66
  go_wp2
  go_loopw [11] (fun i wr => ∃ k : Nat, k ≤ n ∧ i = .int .i64 k ∧ Hid (Below w.heap.size w wr) ∧ Hid (CellsAt wr w.heap.size tI (icells (upd (fun j _ => ((a + j : Nat) : Int)) k (List.replicate n 0))))) (fun i _ => n - (intOf i).toNat)
  case atStart => exact ⟨0, Nat.zero_le _, rfl, Lib.hid ((Below.refl _ _).alloc (Nat.le_refl _) _), Lib.hid (by rw [upd_zero]; exact made_ints w _)⟩
  case round =>
    obtain ⟨k, hk, rfl, HB, HC⟩ := hrel
    by_cases hlt : k < n
    · have HLN := Lib.hid (show k < (icells (upd (fun j _ => ((a + j : Nat) : Int)) k (List.replicate n 0))).length by rw [icells_len, upd_len, List.length_replicate]; exact hlt)
      have hc := (HC.out.cell HLN.out).trans (getD_some HLN.out (.int .i64 0))
      have hf := HC.out.frozen k
      have HST := Lib.hid (HC.out.set k (.int .i64 ((a + k : Nat) : Int)))
      generalize (icells (upd (fun j _ => ((a + j : Nat) : Int)) k (List.replicate n 0))).getD k (.int .i64 0) = u at hc
      have hkI : (k : Int) < (n : Int) := by omega
      have hw1 : IntKind.i64.wrap ((a : Int) + (k : Int)) = (a : Int) + (k : Int) := Go.IntWalk.i64_in _ ⟨by omega, by omega⟩
      have hsum : (a : Int) + (k : Int) = ((a + k : Nat) : Int) := by omega
      have hlw : w.heap.size < wr.heap.size := HC.out.lt
      clear hsum
      go_wp2
      go_roundw
      case rel => exact ⟨k + 1, by omega, by go_num, Lib.hid (by repeat' (first | exact HB.out | apply Below.setCell | exact Nat.le_refl _)), Lib.hid (by
        have := HST.out
        rw [icells_set, upd_step (fun j _ => ((a + j : Nat) : Int)) (by rw [List.length_replicate]; exact hlt) 0] at this
        have hsum : (a : Int) + (k : Int) = ((a + k : Nat) : Int) := by omega
        rw [hsum]
        exact this)⟩
      case measure => simp [intOf]; omega
    · have hkI : ¬ (k : Int) < (n : Int) := by omega
      go_wp2
      go_ret
      refine ⟨_, rfl, HB.out, owR_at (Nat.le_refl _) ?_ (by rw [rangeI_len])⟩
      have := HC.out
      rw [upd_all _ (by rw [List.length_replicate]; omega), HF.out] at this
      exact this
theorem rangeI_mem {a n : Nat} {x : Int} : x ∈ rangeI a n ↔ (a : Int) ≤ x ∧ x < a + n := by
  unfold rangeI
  rw [List.mem_map]
  constructor
  · rintro ⟨k, hk, rfl⟩
    have := List.mem_range.1 hk
    omega
  · rintro ⟨h1, h2⟩
    exact ⟨(x - a).toNat, List.mem_range.2 (by omega), by omega⟩
theorem id_valid (n : Nat) (hn : n ≤ 12) : validB n [] (rangeI 0 n) (rangeI 0 n) = true := by
  rw [valid_iff]
  refine ⟨⟨by omega, by omega, by simp, by rw [rangeI_len]; exact hn, by rw [rangeI_len]; exact hn⟩, rfl, fun x hx => ?_, fun k h1 h2 => ?_⟩
  · rcases mem_occ.1 hx with h | h | ⟨e, he, -⟩
    · have := rangeI_mem.1 h; omega
    · have := rangeI_mem.1 h; omega
    · cases he
  · exact mem_occ.2 (Or.inl (rangeI_mem.2 ⟨by omega, by omega⟩))
/-- The open graph of wires that pass through. -/
def OidRet (w : World) (n : Nat) (e : Ending) (w' : World) : Prop := ∃ A1 c1 A2 c2, e = .returned (.agg #[.slice A1 n c1, .slice A2 n c2, .int .i64 n, .slice none 0 0]) ∧ Below w.heap.size w w' ∧ RdS w' (fun q => q < w'.heap.size) (.slice A1 n c1) (rangeI 0 n) ∧ RdS w' (fun q => q < w'.heap.size) (.slice A2 n c2) (rangeI 0 n)
def idI (n : Int) : Bool := decide (0 ≤ n) && decide (n ≤ 12)
def idL (n : Int) : List Int := if idI n then rangeI 0 n.toNat else []
def idN (n : Int) : Int := if idI n then n else 0
end Go.Proofs.Ytdcgoeapgboclaa
