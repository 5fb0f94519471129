/- Sums, products, copies, transposed matrices: both sides. -/
import Derived.Test.YtahlicbjbbpihaaDoorMxMake
import Derived.Test.YtahlicbjbbpihaaDoorMxGood
namespace Go.Proofs.YtahlicbjbbpihaaDoor
set_option maxRecDepth 100000
open Go Go.RowKit Go.Deep

/-- A row was changed in place. -/
def Wrote (w : World) (T : Nat → Prop) (v : Value) (ys : List Int) (e : Ending) (w' : World) : Prop := e = .returned (.tuple #[]) ∧ Touch T w w' ∧ OwR w' tI T v ys
set_option maxHeartbeats 400000 in
theorem addToRow_any (w : World) (T : Nat → Prop) (vt vs : Value) (p f : Int) (ts xs : List Int) (h1 : 2 ≤ p) (h2 : p ≤ 97) (ho : OwR w tI T vt ts) (hs : RdS w (fun b => ¬ T b) vs xs) (hl : xs.length = ts.length) (hn : ts.length ≤ 1000000)
    (hbt : ∀ x, x ∈ ts → 0 ≤ x ∧ x < p) (hbs : ∀ x, x ∈ xs → 0 ≤ x ∧ x < p) (hf0 : 0 ≤ f) (hf1 : f < p) :
    Calls Tryd.prog 81 #[.int .i64 p, vt, .int .i64 f, vs] w (Wrote w T vt (axpy p ts f xs)) := by
  obtain ⟨A, c, rfl⟩ := ho.len
  obtain ⟨A2, c2, rfl, hsc⟩ := hs
  have HS := Lib.hid (show RdS w (fun b => ¬ T b) (.slice A2 xs.length c2) xs from ⟨A2, c2, rfl, hsc⟩)
  have HO := Lib.hid ho
  have HL := Lib.hid hl
  have HBT := Lib.hid hbt
  have HBS := Lib.hid hbs
  have hxn : xs.length ≤ 1000000 := by omega
  clear ho hsc hbt hbs hl
  go_enter Tryd.func81, Tryd.ntmps81
  go_wp2
  go_loopw [12, 8, 9] (fun i _ _ wr => ∃ k : Nat, k ≤ xs.length ∧ i = .int .i64 k ∧ Hid (Touch T w wr) ∧ Hid (OwR wr tI T (.slice A ts.length c) (upd (fun j x => (x + f * xs.getD j 0) % p) k ts))) (fun i _ _ _ => xs.length - (intOf i).toNat)
  case atStart => exact ⟨0, Nat.zero_le _, rfl, Lib.hid (Touch.refl _ _), Lib.hid (by rw [upd_zero]; exact HO.out)⟩
  case round =>
    obtain ⟨k, hk, rfl, HT, HR⟩ := hrel
    by_cases hlt : k < xs.length
    · have HLT := Lib.hid (show k < ts.length by rw [← HL.out]; exact hlt)
      obtain ⟨b0, o0, rfl, hb0, hc0⟩ := (HS.out.touch HT.out (fun _ h => h)).at hlt
      obtain ⟨b1, c1, e1, hb1, hs1, hc1, hf1, hset⟩ := HR.out.at (j := k) (by rw [upd_len]; exact HLT.out)
      rw [upd_len] at e1
      obtain ⟨rfl, rfl⟩ : A = some ⟨b1, 0, none⟩ ∧ c = c1 := by simpa using e1
      have HSET := Lib.hid hset
      have HT1 := Lib.hid hb1
      have HXV := Lib.hid (upd_getD (fun j x => (x + f * xs.getD j 0) % p) (Nat.le_refl k) ts 0)
      rw [HXV.out] at hc1
      have hz := HBS.out _ (getD_mem' hlt 0)
      have hy := HBT.out _ (getD_mem' HLT.out 0)
      have HG := Lib.hid (show ((ts.getD k 0) + f * xs.getD k 0) % p = (fun j x => (x + f * xs.getD j 0) % p) k (ts.getD k 0) from rfl)
      clear hset hb1 hb0 e1
      generalize xs.getD k 0 = z at hc0 hz HG
      generalize ts.getD k 0 = y at hc1 hy HG HXV
      obtain ⟨hz0, hz1⟩ := hz
      obtain ⟨hy0, hy1⟩ := hy
      have hm0 : 0 ≤ f * z := Int.mul_nonneg hf0 hz0
      have hm1 : f * z ≤ 97 * 97 := Int.mul_le_mul (by omega) (by omega) hz0 (by omega)
      go_wp2
      go_roundw
      case rel => exact ⟨k + 1, by omega, by go_num, Lib.hid (HT.out.setCell (Or.inl HT1.out) _), Lib.hid (by
        have := HSET.out ((y + f * z) % p)
        rw [HG.out, ← HXV.out, upd_getD _ (Nat.le_refl k), upd_step _ HLT.out 0] at this
        rw [HG.out, ← HXV.out, upd_getD _ (Nat.le_refl k)]
        exact this)⟩
      case measure => simp [intOf]; omega
    · go_wp2
      go_end0
      refine ⟨rfl, HT.out, ?_⟩
      have := HR.out
      rw [upd_all _ (by rw [← HL.out]; omega)] at this
      exact this
end Go.Proofs.YtahlicbjbbpihaaDoor
