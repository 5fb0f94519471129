/- What the statements of this seat have in common: the table of small primes as the condition lays it, the witness, integer arguments. -/
import Derived.Test.YtdcgoeapgboclaaRows
import Derived.Test.YtdcgoeapgboclaaFdWalks
import Derived.Test.YtdcgoeapgboclaaLawKit
import Derived.LaidLaws
namespace Go.Proofs.Ytdcgoeapgboclaa
set_option maxRecDepth 100000
open Go Go.RowKit Go.WideShapes Go.ChangeShapes

theorem own : ownKnob Try.prog.godebug = none := by kernel_rfl
theorem cellsInt : Try.prog.cellsOf 3 = 1 := by kernel_rfl
section
variable {H : Type} {enc : TypeId × Value → H} {W : World} {base : Nat} {ds : List (DataW H)} {ps : List MemPlace}
theorem ints_nil {vs : List Value} (h : DataW.TrodAll enc Try.prog W 0 (fun _ => true) true [] vs ds ps) : vs = [] := by
  cases vs with
  | nil => rfl
  | cons v vs => cases ds <;> cases h
theorem ints_cons {ts : List TypeId} {vs : List Value} (hval : ∀ (j : Nat) t v, (3 :: ts)[j]? = some t → vs[j]? = some v → Value.okWide Try.prog W .any base t v)
    (h : DataW.TrodAll enc Try.prog W 0 (fun _ => true) true (3 :: ts) vs ds ps) :
    ∃ n vs' ds' ps', vs = .int .i64 n :: vs' ∧ (∀ (j : Nat) t v, ts[j]? = some t → vs'[j]? = some v → Value.okWide Try.prog W .any base t v) ∧ DataW.TrodAll enc Try.prog W 0 (fun _ => true) true ts vs' ds' ps' := by
  match vs, ds, h with
  | v :: vs, d :: ds, h =>
    obtain ⟨p, q, h1, h2, rfl⟩ := h
    obtain ⟨n, rfl, rfl, rfl, hw⟩ := open_int Try.underlying3 (hval 0 3 v rfl rfl) h1
    exact ⟨n, vs, ds, q, rfl, fun j t v ht hv => hval (j + 1) t v (by simpa using ht) (by simpa using hv), h2⟩
theorem ints1 {args : Array Value} (hval : ∀ (j : Nat) t v, (#[3] : Array TypeId)[j]? = some t → args[j]? = some v → Value.okWide Try.prog W .any base t v)
    (h : DataW.TrodAll enc Try.prog W 0 (fun _ => true) true (#[3] : Array TypeId).toList args.toList ds ps) : ∃ n0, args = #[.int .i64 n0] := by
  obtain ⟨l⟩ := args
  have hv0 : ∀ (j : Nat) t v, (#[3] : Array TypeId).toList[j]? = some t → l[j]? = some v → Value.okWide Try.prog W .any base t v := fun j t v ht hv => hval j t v (by simpa using ht) (by simpa using hv)
  obtain ⟨n0, l0, d0, p0, rfl, hv1, h0⟩ := ints_cons hv0 h
  obtain rfl := ints_nil h0
  exact ⟨n0, rfl⟩
theorem ints2 {args : Array Value} (hval : ∀ (j : Nat) t v, (#[3, 3] : Array TypeId)[j]? = some t → args[j]? = some v → Value.okWide Try.prog W .any base t v)
    (h : DataW.TrodAll enc Try.prog W 0 (fun _ => true) true (#[3, 3] : Array TypeId).toList args.toList ds ps) : ∃ n0 n1, args = #[.int .i64 n0, .int .i64 n1] := by
  obtain ⟨l⟩ := args
  have hv0 : ∀ (j : Nat) t v, (#[3, 3] : Array TypeId).toList[j]? = some t → l[j]? = some v → Value.okWide Try.prog W .any base t v := fun j t v ht hv => hval j t v (by simpa using ht) (by simpa using hv)
  obtain ⟨n0, l0, d0, p0, rfl, hv1, h0⟩ := ints_cons hv0 h
  obtain ⟨n1, l1, d1, p1, rfl, hv2, h1⟩ := ints_cons hv1 h0
  obtain rfl := ints_nil h1
  exact ⟨n0, n1, rfl⟩
theorem ints3 {args : Array Value} (hval : ∀ (j : Nat) t v, (#[3, 3, 3] : Array TypeId)[j]? = some t → args[j]? = some v → Value.okWide Try.prog W .any base t v)
    (h : DataW.TrodAll enc Try.prog W 0 (fun _ => true) true (#[3, 3, 3] : Array TypeId).toList args.toList ds ps) : ∃ n0 n1 n2, args = #[.int .i64 n0, .int .i64 n1, .int .i64 n2] := by
  obtain ⟨l⟩ := args
  have hv0 : ∀ (j : Nat) t v, (#[3, 3, 3] : Array TypeId).toList[j]? = some t → l[j]? = some v → Value.okWide Try.prog W .any base t v := fun j t v ht hv => hval j t v (by simpa using ht) (by simpa using hv)
  obtain ⟨n0, l0, d0, p0, rfl, hv1, h0⟩ := ints_cons hv0 h
  obtain ⟨n1, l1, d1, p1, rfl, hv2, h1⟩ := ints_cons hv1 h0
  obtain ⟨n2, l2, d2, p2, rfl, hv3, h2⟩ := ints_cons hv2 h1
  obtain rfl := ints_nil h2
  exact ⟨n0, n1, n2, rfl⟩
theorem ints4 {args : Array Value} (hval : ∀ (j : Nat) t v, (#[3, 3, 3, 3] : Array TypeId)[j]? = some t → args[j]? = some v → Value.okWide Try.prog W .any base t v)
    (h : DataW.TrodAll enc Try.prog W 0 (fun _ => true) true (#[3, 3, 3, 3] : Array TypeId).toList args.toList ds ps) : ∃ n0 n1 n2 n3, args = #[.int .i64 n0, .int .i64 n1, .int .i64 n2, .int .i64 n3] := by
  obtain ⟨l⟩ := args
  have hv0 : ∀ (j : Nat) t v, (#[3, 3, 3, 3] : Array TypeId).toList[j]? = some t → l[j]? = some v → Value.okWide Try.prog W .any base t v := fun j t v ht hv => hval j t v (by simpa using ht) (by simpa using hv)
  obtain ⟨n0, l0, d0, p0, rfl, hv1, h0⟩ := ints_cons hv0 h
  obtain ⟨n1, l1, d1, p1, rfl, hv2, h1⟩ := ints_cons hv1 h0
  obtain ⟨n2, l2, d2, p2, rfl, hv3, h2⟩ := ints_cons hv2 h1
  obtain ⟨n3, l3, d3, p3, rfl, hv4, h3⟩ := ints_cons hv3 h2
  obtain rfl := ints_nil h3
  exact ⟨n0, n1, n2, n3, rfl⟩
end
end Go.Proofs.Ytdcgoeapgboclaa
