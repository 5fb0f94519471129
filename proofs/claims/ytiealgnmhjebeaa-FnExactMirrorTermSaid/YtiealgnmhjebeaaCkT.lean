/- CountKinds: the number of nodes of each kind: the model and the program. -/
import Derived.Test.YtiealgnmhjebeaaTmQ
import Derived.Test.YtiealgnmhjebeaaPtA
import Derived.Test.YtiealgnmhjebeaaRetRB
namespace Go.Proofs.Ytiealgnmhjebeaa
set_option maxRecDepth 100000
open Go Go.RowKit Go.Deep

def ckL (x : List Nd) : List Int := if tyOk x = true then cntK x else []
theorem take_snocN {x : List Nd} {k : Nat} (h : k < x.length) : x.take (k + 1) = x.take k ++ [x.getD k nd0] := by
  rw [List.take_add_one, List.getElem?_eq_getElem h, List.getD_eq_getElem?_getD, List.getElem?_eq_getElem h]
  rfl
theorem tree_len {ns : List Nd} {t : Tr} (h : treeOf ns = some t) : ns.length ≤ 400 := by
  unfold treeOf at h
  by_cases h1 : ns.length ≤ 400
  · exact h1
  · rw [if_neg h1] at h
    cases h
set_option maxHeartbeats 1600000 in
theorem tmValid_any (w : World) (B : Nat) (v : Value) (x : List Nd) (hv : LfN w B v x) (hB : B ≤ w.heap.size) :
    Calls Try.prog 32 #[.agg #[v]] w fun e w' => e = .returned (.bool (okS x)) ∧ Below w.heap.size w w' := by
  have HB0 := Lib.hid (Below.alloc (Below.refl w.heap.size w) (Nat.le_refl _) (.cells #[v] tTm))
  have HSC := Lib.hid (tmScan_any (w.alloc (.cells #[v] tTm)) B v x (hv.below HB0.out hB) (by simp; omega))
  obtain ⟨A, c, rfl⟩ := hv.len
  clear hv hB
  go_enter Try.func32, Try.ntmps32
  go_wp2_with fail
  refine HSC.out.mono ?_
  rintro e w2 ⟨v0, v1, v2, rfl, b2, -, ⟨A0, n0, c0, rfl⟩, ⟨A1, n1, c1, rfl⟩, ⟨A2, n2, c2, rfl⟩⟩
  have HB2 := Lib.hid (HB0.out.trans (b2.mono (by simp)))
  clear b2
  go_wp2
  refine bodyPost_ret (v := .bool (okS x)) (by simp [results, Try.results32, go_sem]) rfl ?_
  exact ⟨rfl, HB2.out.alloc (by have := HB2.out.size; omega) _⟩

end Go.Proofs.Ytiealgnmhjebeaa
