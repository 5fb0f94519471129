/- What the functions on prime fields return, function by function, callees first. -/
import Derived.Test.YtdcgoeapgboclaaProg
import Derived.Test.YtdcgoeapgboclaaFdMath
import Derived.WalkKit
import Derived.Handy
import Derived.Below
import Derived.Laws.Rows
import Derived.Lib.Hide
namespace Go.Proofs.Ytdcgoeapgboclaa
set_option maxRecDepth 100000
open Go Go.RowKit

theorem l1In_t (n lo hi : Int) (w : World) (h1 : lo ≤ n) (h2 : n ≤ hi) : Calls Try.prog 41 #[.int .i64 n, .int .i64 lo, .int .i64 hi] w fun e w' => e = .returned (.bool true) ∧ w = w' := by
  go_enter Try.func41, Try.ntmps41
  go_wp2
  go_ret
  exact ⟨rfl, rfl⟩
theorem l1In_f (n lo hi : Int) (w : World) (h : n < lo ∨ hi < n) : Calls Try.prog 41 #[.int .i64 n, .int .i64 lo, .int .i64 hi] w fun e w' => e = .returned (.bool false) ∧ w = w' := by
  by_cases h1 : lo ≤ n
  · have h2 : hi < n := by omega
    have hd : decide (n ≤ hi) = false := by simp; omega
    clear h
    go_enter Try.func41, Try.ntmps41
    go_wp2
    go_ret
    exact ⟨rfl, rfl⟩
  · have h2 : n < lo := by omega
    clear h h1
    go_enter Try.func41, Try.ntmps41
    go_wp2
    go_ret
    exact ⟨rfl, rfl⟩

/-- p is a field and all values are its elements. -/
def elems (p : Int) (zs : List Int) : Bool := fld p && zs.all (el p)
theorem elems_iff (p : Int) (zs : List Int) : elems p zs = true ↔ fld p = true ∧ ∀ z, z ∈ zs → el p z = true := by simp [elems]
theorem elems_not_field {p : Int} {zs : List Int} (h : fld p = false) : elems p zs = false := by simp [elems, h]
theorem elems_false {p : Int} {zs : List Int} {z : Int} (hz : z ∈ zs) (h : ¬ (0 ≤ z ∧ z < p)) : elems p zs = false := by
  cases e : elems p zs with
  | false => rfl
  | true => exact absurd ((el_iff p z).1 (((elems_iff p zs).1 e).2 z hz)) h
def Row (w : World) (b : Nat) (zs : List Int) : Prop := ∀ k, k < zs.length → w.cell? ⟨b, k, none⟩ = some (.int .i64 (zs.getD k 0))
theorem getD_mem {zs : List Int} {k : Nat} (h : k < zs.length) : zs.getD k 0 ∈ zs := by
  rw [List.getD_eq_getElem?_getD, List.getElem?_eq_getElem h]
  exact List.getElem_mem h

end Go.Proofs.Ytdcgoeapgboclaa
