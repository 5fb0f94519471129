/- The kind of a mirror image: the model. -/
import Derived.Test.YtiealgnmhjebeaaTr
import Derived.Test.YtiealgnmhjebeaaFdWalks
import Derived.Handy
namespace Go.Proofs.Ytiealgnmhjebeaa
set_option maxRecDepth 100000
open Go Go.RowKit

theorem tmMirrorKind_any (w : World) (k : Int) (h1 : 1 ≤ k) (h2 : k ≤ 14) : Calls Try.prog 67 #[.int .i64 k] w fun e w' => e = .returned (.int .i64 (mirK k)) ∧ w = w' := by
  have HM := Lib.hid (mirK_leaf h1 h2)
  by_cases c : 3 ≤ k ∧ k ≤ 8
  · have HL := Lib.hid (fun w0 => l1In_t k 3 8 w0 c.1 c.2)
    have e : mirK k = k + 6 := by rw [HM.out, if_pos c]
    have hw : IntKind.i64.wrap (k + 6) = k + 6 := Go.IntWalk.i64_in _ ⟨by omega, by omega⟩
    rw [e]
    clear e
    go_enter Try.func67, Try.ntmps67
    go_wp2_with (first | (go_at_call 43; refine (HL.out _).mono ?_; rintro e w' ⟨rfl, rfl⟩) | fail)
    go_ret
    exact ⟨rfl, rfl⟩
  · have HL := Lib.hid (fun w0 => l1In_f k 3 8 w0 (by omega))
    by_cases c2 : 9 ≤ k ∧ k ≤ 14
    · have HL2 := Lib.hid (fun w0 => l1In_t k 9 14 w0 c2.1 c2.2)
      have e : mirK k = k - 6 := by rw [HM.out, if_neg c, if_pos c2]
      have hw : IntKind.i64.wrap (k - 6) = k - 6 := Go.IntWalk.i64_in _ ⟨by omega, by omega⟩
      rw [e]
      clear e
      go_enter Try.func67, Try.ntmps67
      go_wp2_with (first | (go_at_call 43; (with_reducible refine (HL.out _).mono ?_); rintro e w' ⟨rfl, rfl⟩) | (go_at_call 43; (with_reducible refine (HL2.out _).mono ?_); rintro e w' ⟨rfl, rfl⟩) | fail)
      go_ret
      exact ⟨rfl, rfl⟩
    · have HL2 := Lib.hid (fun w0 => l1In_f k 9 14 w0 (by omega))
      have e : mirK k = k := by rw [HM.out, if_neg c, if_neg c2]
      rw [e]
      clear e
      go_enter Try.func67, Try.ntmps67
      go_wp2_with (first | (go_at_call 43; (with_reducible refine (HL.out _).mono ?_); rintro e w' ⟨rfl, rfl⟩) | (go_at_call 43; (with_reducible refine (HL2.out _).mono ?_); rintro e w' ⟨rfl, rfl⟩) | fail)
      go_ret
      exact ⟨rfl, rfl⟩
end Go.Proofs.Ytiealgnmhjebeaa
