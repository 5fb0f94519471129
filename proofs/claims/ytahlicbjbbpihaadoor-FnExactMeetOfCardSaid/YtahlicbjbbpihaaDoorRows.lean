/-
  NARROWER THAN 'FOR EVERY INPUT', by the rows' own cells (each row's printed sentence says how): FnExactSumOf: laid · FnExactMeetOf: laid · FnExactHasVector: laid · FnExactCoordinatesOf: laid · FnExactSeparatorOf: laid · FnExactImageOf: laid · FnExactPreimageOf: laid · FnExactProjectOf: laid · FnExactIsRelation: laid · FnExactDomainOf: laid · FnExactRangeOf: laid · FnExactIsTotal: laid.
  DERIVED. THE GIVEN ROWS OF THIS SEAT. 12 by the template 'for every input the law returns true; each argument reads behind the call as it read before'; 0 by the template 'total and deterministic' (their statements: YtahlicbjbbpihaaDoorTotals.lean).
  GIVEN WITH THE SEED: the statements are not yours to turn. If you find one false, say at which input.
  Laid BY PROGRAM, IN A SANDBOX (cutbox-rows.mjs): the forced cells as the released guide's own fill.sh prints them over the translation 1c1293c9251ae378… (all of the seat's roots in one cut). By AI agents, Wed Nov 11 2026. No macro, syntax, notation, axiom, sorry.
-/
import Derived.Test.YtahlicbjbbpihaaDoorChecked
import GoSem.Claim
import GoSem.ClaimJoined
import GoSem.ClaimMapViews
import Derived.JoinedTies
import Derived.KernelRfl
namespace Go.Proofs.YtahlicbjbbpihaaDoor
/- THE CELL 'sum', in the pinned program and in every row, IS THE sha256 OF THE DUMP (.gsa) THAT YtahlicbjbbpihaaDoorProg.lean LOADS. Nothing in Lean hashes anything: it is a label: what it is worth is what the hold of that sum in a sandbox is worth. -/
noncomputable def Tryd.pinned : Pinned := { name := "ytahlicbjbbpihaadoor", sum := "1c1293c9251ae378377a34582e3409dd388dfd46daee64c76e299970430d10f0", checked := Tryd.checked }
namespace Rows
def none {H : Type} : Left H := { results := [], args := [] }

/- WHAT THE LISTED PACKAGE-LEVEL VARIABLES READ AS WHEN THE CALL BEGINS. Each datum BY PROGRAM (the guide's laid-datum.mjs) off the statement by which the dump's own 'gosem.cut.vars' lays the variable. In a bare row this is a premise. The card (YtahlicbjbbpihaaDoorCards.lean) ties it to the program's text. -/
def laid_loop_example_g01073_impl_smallPrimes {H : Type} : DataW H := .agg [.lit (.int .i64 2), .lit (.int .i64 3), .lit (.int .i64 5), .lit (.int .i64 7)]

/-- 'laws.FnExactSumOf': WHATEVER THE INPUT: true; the input reads as it did. -/
def fnExactSumOfSpec : ChangeSpec := { name := "fnExactSumOf", vars := ["loop.example/g01073/impl.smallPrimes"], fn := fun _ => fun
  | [d1, d2, d3, g1] => { results := [.lit (.bool true)], args := [d1, d2, d3], vars := [g1] }
  | _ => none }
def fnExactSumOfRow : OpenClaim := { program := "ytahlicbjbbpihaadoor", sum := "1c1293c9251ae378377a34582e3409dd388dfd46daee64c76e299970430d10f0", func := "loop.example/g01073/laws.FnExactSumOf", spec := "fnExactSumOf", unfollowed := true, recurses := true, named := ["loop.example/g01073/impl.smallPrimes"], apart := false, laid := [("loop.example/g01073/impl.smallPrimes", laid_loop_example_g01073_impl_smallPrimes)] }
def FnExactSumOfSaid : Prop := fnExactSumOfRow.holds Tryd.pinned (OpenSpec.ofChange fnExactSumOfSpec)

/-- ITS FALSE NEIGHBOUR: 'it returns false'. Refute it at one input. -/
def fnExactSumOfWrong : ChangeSpec := { name := "fnExactSumOf", vars := ["loop.example/g01073/impl.smallPrimes"], fn := fun _ => fun
  | [d1, d2, d3, g1] => { results := [.lit (.bool false)], args := [d1, d2, d3], vars := [g1] }
  | _ => none }
def FnExactSumOfWrongFalsely : Prop := fnExactSumOfRow.holds Tryd.pinned (OpenSpec.ofChange fnExactSumOfWrong)

/-- 'laws.FnExactMeetOf': WHATEVER THE INPUT: true; the input reads as it did. -/
def fnExactMeetOfSpec : ChangeSpec := { name := "fnExactMeetOf", vars := ["loop.example/g01073/impl.smallPrimes"], fn := fun _ => fun
  | [d1, d2, d3, g1] => { results := [.lit (.bool true)], args := [d1, d2, d3], vars := [g1] }
  | _ => none }
def fnExactMeetOfRow : OpenClaim := { program := "ytahlicbjbbpihaadoor", sum := "1c1293c9251ae378377a34582e3409dd388dfd46daee64c76e299970430d10f0", func := "loop.example/g01073/laws.FnExactMeetOf", spec := "fnExactMeetOf", unfollowed := true, recurses := true, named := ["loop.example/g01073/impl.smallPrimes"], apart := false, laid := [("loop.example/g01073/impl.smallPrimes", laid_loop_example_g01073_impl_smallPrimes)] }
def FnExactMeetOfSaid : Prop := fnExactMeetOfRow.holds Tryd.pinned (OpenSpec.ofChange fnExactMeetOfSpec)

/-- ITS FALSE NEIGHBOUR: 'it returns false'. Refute it at one input. -/
def fnExactMeetOfWrong : ChangeSpec := { name := "fnExactMeetOf", vars := ["loop.example/g01073/impl.smallPrimes"], fn := fun _ => fun
  | [d1, d2, d3, g1] => { results := [.lit (.bool false)], args := [d1, d2, d3], vars := [g1] }
  | _ => none }
def FnExactMeetOfWrongFalsely : Prop := fnExactMeetOfRow.holds Tryd.pinned (OpenSpec.ofChange fnExactMeetOfWrong)

/-- 'laws.FnExactHasVector': WHATEVER THE INPUT: true; the input reads as it did. -/
def fnExactHasVectorSpec : ChangeSpec := { name := "fnExactHasVector", vars := ["loop.example/g01073/impl.smallPrimes"], fn := fun _ => fun
  | [d1, d2, d3, g1] => { results := [.lit (.bool true)], args := [d1, d2, d3], vars := [g1] }
  | _ => none }
def fnExactHasVectorRow : OpenClaim := { program := "ytahlicbjbbpihaadoor", sum := "1c1293c9251ae378377a34582e3409dd388dfd46daee64c76e299970430d10f0", func := "loop.example/g01073/laws.FnExactHasVector", spec := "fnExactHasVector", unfollowed := true, recurses := true, named := ["loop.example/g01073/impl.smallPrimes"], apart := false, laid := [("loop.example/g01073/impl.smallPrimes", laid_loop_example_g01073_impl_smallPrimes)] }
def FnExactHasVectorSaid : Prop := fnExactHasVectorRow.holds Tryd.pinned (OpenSpec.ofChange fnExactHasVectorSpec)

/-- ITS FALSE NEIGHBOUR: 'it returns false'. Refute it at one input. -/
def fnExactHasVectorWrong : ChangeSpec := { name := "fnExactHasVector", vars := ["loop.example/g01073/impl.smallPrimes"], fn := fun _ => fun
  | [d1, d2, d3, g1] => { results := [.lit (.bool false)], args := [d1, d2, d3], vars := [g1] }
  | _ => none }
def FnExactHasVectorWrongFalsely : Prop := fnExactHasVectorRow.holds Tryd.pinned (OpenSpec.ofChange fnExactHasVectorWrong)

/-- 'laws.FnExactCoordinatesOf': WHATEVER THE INPUT: true; the input reads as it did. -/
def fnExactCoordinatesOfSpec : ChangeSpec := { name := "fnExactCoordinatesOf", vars := ["loop.example/g01073/impl.smallPrimes"], fn := fun _ => fun
  | [d1, d2, d3, g1] => { results := [.lit (.bool true)], args := [d1, d2, d3], vars := [g1] }
  | _ => none }
def fnExactCoordinatesOfRow : OpenClaim := { program := "ytahlicbjbbpihaadoor", sum := "1c1293c9251ae378377a34582e3409dd388dfd46daee64c76e299970430d10f0", func := "loop.example/g01073/laws.FnExactCoordinatesOf", spec := "fnExactCoordinatesOf", unfollowed := true, recurses := true, named := ["loop.example/g01073/impl.smallPrimes"], apart := false, laid := [("loop.example/g01073/impl.smallPrimes", laid_loop_example_g01073_impl_smallPrimes)] }
def FnExactCoordinatesOfSaid : Prop := fnExactCoordinatesOfRow.holds Tryd.pinned (OpenSpec.ofChange fnExactCoordinatesOfSpec)

/-- ITS FALSE NEIGHBOUR: 'it returns false'. Refute it at one input. -/
def fnExactCoordinatesOfWrong : ChangeSpec := { name := "fnExactCoordinatesOf", vars := ["loop.example/g01073/impl.smallPrimes"], fn := fun _ => fun
  | [d1, d2, d3, g1] => { results := [.lit (.bool false)], args := [d1, d2, d3], vars := [g1] }
  | _ => none }
def FnExactCoordinatesOfWrongFalsely : Prop := fnExactCoordinatesOfRow.holds Tryd.pinned (OpenSpec.ofChange fnExactCoordinatesOfWrong)

/-- 'laws.FnExactSeparatorOf': WHATEVER THE INPUT: true; the input reads as it did. -/
def fnExactSeparatorOfSpec : ChangeSpec := { name := "fnExactSeparatorOf", vars := ["loop.example/g01073/impl.smallPrimes"], fn := fun _ => fun
  | [d1, d2, d3, g1] => { results := [.lit (.bool true)], args := [d1, d2, d3], vars := [g1] }
  | _ => none }
def fnExactSeparatorOfRow : OpenClaim := { program := "ytahlicbjbbpihaadoor", sum := "1c1293c9251ae378377a34582e3409dd388dfd46daee64c76e299970430d10f0", func := "loop.example/g01073/laws.FnExactSeparatorOf", spec := "fnExactSeparatorOf", unfollowed := true, recurses := true, named := ["loop.example/g01073/impl.smallPrimes"], apart := false, laid := [("loop.example/g01073/impl.smallPrimes", laid_loop_example_g01073_impl_smallPrimes)] }
def FnExactSeparatorOfSaid : Prop := fnExactSeparatorOfRow.holds Tryd.pinned (OpenSpec.ofChange fnExactSeparatorOfSpec)

/-- ITS FALSE NEIGHBOUR: 'it returns false'. Refute it at one input. -/
def fnExactSeparatorOfWrong : ChangeSpec := { name := "fnExactSeparatorOf", vars := ["loop.example/g01073/impl.smallPrimes"], fn := fun _ => fun
  | [d1, d2, d3, g1] => { results := [.lit (.bool false)], args := [d1, d2, d3], vars := [g1] }
  | _ => none }
def FnExactSeparatorOfWrongFalsely : Prop := fnExactSeparatorOfRow.holds Tryd.pinned (OpenSpec.ofChange fnExactSeparatorOfWrong)

/-- 'laws.FnExactImageOf': WHATEVER THE INPUT: true; the input reads as it did. -/
def fnExactImageOfSpec : ChangeSpec := { name := "fnExactImageOf", vars := ["loop.example/g01073/impl.smallPrimes"], fn := fun _ => fun
  | [d1, d2, d3, g1] => { results := [.lit (.bool true)], args := [d1, d2, d3], vars := [g1] }
  | _ => none }
def fnExactImageOfRow : OpenClaim := { program := "ytahlicbjbbpihaadoor", sum := "1c1293c9251ae378377a34582e3409dd388dfd46daee64c76e299970430d10f0", func := "loop.example/g01073/laws.FnExactImageOf", spec := "fnExactImageOf", unfollowed := true, recurses := true, named := ["loop.example/g01073/impl.smallPrimes"], apart := false, laid := [("loop.example/g01073/impl.smallPrimes", laid_loop_example_g01073_impl_smallPrimes)] }
def FnExactImageOfSaid : Prop := fnExactImageOfRow.holds Tryd.pinned (OpenSpec.ofChange fnExactImageOfSpec)

/-- ITS FALSE NEIGHBOUR: 'it returns false'. Refute it at one input. -/
def fnExactImageOfWrong : ChangeSpec := { name := "fnExactImageOf", vars := ["loop.example/g01073/impl.smallPrimes"], fn := fun _ => fun
  | [d1, d2, d3, g1] => { results := [.lit (.bool false)], args := [d1, d2, d3], vars := [g1] }
  | _ => none }
def FnExactImageOfWrongFalsely : Prop := fnExactImageOfRow.holds Tryd.pinned (OpenSpec.ofChange fnExactImageOfWrong)

/-- 'laws.FnExactPreimageOf': WHATEVER THE INPUT: true; the input reads as it did. -/
def fnExactPreimageOfSpec : ChangeSpec := { name := "fnExactPreimageOf", vars := ["loop.example/g01073/impl.smallPrimes"], fn := fun _ => fun
  | [d1, d2, d3, g1] => { results := [.lit (.bool true)], args := [d1, d2, d3], vars := [g1] }
  | _ => none }
def fnExactPreimageOfRow : OpenClaim := { program := "ytahlicbjbbpihaadoor", sum := "1c1293c9251ae378377a34582e3409dd388dfd46daee64c76e299970430d10f0", func := "loop.example/g01073/laws.FnExactPreimageOf", spec := "fnExactPreimageOf", unfollowed := true, recurses := true, named := ["loop.example/g01073/impl.smallPrimes"], apart := false, laid := [("loop.example/g01073/impl.smallPrimes", laid_loop_example_g01073_impl_smallPrimes)] }
def FnExactPreimageOfSaid : Prop := fnExactPreimageOfRow.holds Tryd.pinned (OpenSpec.ofChange fnExactPreimageOfSpec)

/-- ITS FALSE NEIGHBOUR: 'it returns false'. Refute it at one input. -/
def fnExactPreimageOfWrong : ChangeSpec := { name := "fnExactPreimageOf", vars := ["loop.example/g01073/impl.smallPrimes"], fn := fun _ => fun
  | [d1, d2, d3, g1] => { results := [.lit (.bool false)], args := [d1, d2, d3], vars := [g1] }
  | _ => none }
def FnExactPreimageOfWrongFalsely : Prop := fnExactPreimageOfRow.holds Tryd.pinned (OpenSpec.ofChange fnExactPreimageOfWrong)

/-- 'laws.FnExactProjectOf': WHATEVER THE INPUT: true; the input reads as it did. -/
def fnExactProjectOfSpec : ChangeSpec := { name := "fnExactProjectOf", vars := ["loop.example/g01073/impl.smallPrimes"], fn := fun _ => fun
  | [d1, d2, d3, g1] => { results := [.lit (.bool true)], args := [d1, d2, d3], vars := [g1] }
  | _ => none }
def fnExactProjectOfRow : OpenClaim := { program := "ytahlicbjbbpihaadoor", sum := "1c1293c9251ae378377a34582e3409dd388dfd46daee64c76e299970430d10f0", func := "loop.example/g01073/laws.FnExactProjectOf", spec := "fnExactProjectOf", unfollowed := true, recurses := true, named := ["loop.example/g01073/impl.smallPrimes"], apart := false, laid := [("loop.example/g01073/impl.smallPrimes", laid_loop_example_g01073_impl_smallPrimes)] }
def FnExactProjectOfSaid : Prop := fnExactProjectOfRow.holds Tryd.pinned (OpenSpec.ofChange fnExactProjectOfSpec)

/-- ITS FALSE NEIGHBOUR: 'it returns false'. Refute it at one input. -/
def fnExactProjectOfWrong : ChangeSpec := { name := "fnExactProjectOf", vars := ["loop.example/g01073/impl.smallPrimes"], fn := fun _ => fun
  | [d1, d2, d3, g1] => { results := [.lit (.bool false)], args := [d1, d2, d3], vars := [g1] }
  | _ => none }
def FnExactProjectOfWrongFalsely : Prop := fnExactProjectOfRow.holds Tryd.pinned (OpenSpec.ofChange fnExactProjectOfWrong)

/-- 'laws.FnExactIsRelation': WHATEVER THE INPUT: true; the input reads as it did. -/
def fnExactIsRelationSpec : ChangeSpec := { name := "fnExactIsRelation", vars := ["loop.example/g01073/impl.smallPrimes"], fn := fun _ => fun
  | [d1, d2, g1] => { results := [.lit (.bool true)], args := [d1, d2], vars := [g1] }
  | _ => none }
def fnExactIsRelationRow : OpenClaim := { program := "ytahlicbjbbpihaadoor", sum := "1c1293c9251ae378377a34582e3409dd388dfd46daee64c76e299970430d10f0", func := "loop.example/g01073/laws.FnExactIsRelation", spec := "fnExactIsRelation", unfollowed := true, recurses := true, named := ["loop.example/g01073/impl.smallPrimes"], apart := false, laid := [("loop.example/g01073/impl.smallPrimes", laid_loop_example_g01073_impl_smallPrimes)] }
def FnExactIsRelationSaid : Prop := fnExactIsRelationRow.holds Tryd.pinned (OpenSpec.ofChange fnExactIsRelationSpec)

/-- ITS FALSE NEIGHBOUR: 'it returns false'. Refute it at one input. -/
def fnExactIsRelationWrong : ChangeSpec := { name := "fnExactIsRelation", vars := ["loop.example/g01073/impl.smallPrimes"], fn := fun _ => fun
  | [d1, d2, g1] => { results := [.lit (.bool false)], args := [d1, d2], vars := [g1] }
  | _ => none }
def FnExactIsRelationWrongFalsely : Prop := fnExactIsRelationRow.holds Tryd.pinned (OpenSpec.ofChange fnExactIsRelationWrong)

/-- 'laws.FnExactDomainOf': WHATEVER THE INPUT: true; the input reads as it did. -/
def fnExactDomainOfSpec : ChangeSpec := { name := "fnExactDomainOf", vars := ["loop.example/g01073/impl.smallPrimes"], fn := fun _ => fun
  | [d1, d2, g1] => { results := [.lit (.bool true)], args := [d1, d2], vars := [g1] }
  | _ => none }
def fnExactDomainOfRow : OpenClaim := { program := "ytahlicbjbbpihaadoor", sum := "1c1293c9251ae378377a34582e3409dd388dfd46daee64c76e299970430d10f0", func := "loop.example/g01073/laws.FnExactDomainOf", spec := "fnExactDomainOf", unfollowed := true, recurses := true, named := ["loop.example/g01073/impl.smallPrimes"], apart := false, laid := [("loop.example/g01073/impl.smallPrimes", laid_loop_example_g01073_impl_smallPrimes)] }
def FnExactDomainOfSaid : Prop := fnExactDomainOfRow.holds Tryd.pinned (OpenSpec.ofChange fnExactDomainOfSpec)

/-- ITS FALSE NEIGHBOUR: 'it returns false'. Refute it at one input. -/
def fnExactDomainOfWrong : ChangeSpec := { name := "fnExactDomainOf", vars := ["loop.example/g01073/impl.smallPrimes"], fn := fun _ => fun
  | [d1, d2, g1] => { results := [.lit (.bool false)], args := [d1, d2], vars := [g1] }
  | _ => none }
def FnExactDomainOfWrongFalsely : Prop := fnExactDomainOfRow.holds Tryd.pinned (OpenSpec.ofChange fnExactDomainOfWrong)

/-- 'laws.FnExactRangeOf': WHATEVER THE INPUT: true; the input reads as it did. -/
def fnExactRangeOfSpec : ChangeSpec := { name := "fnExactRangeOf", vars := ["loop.example/g01073/impl.smallPrimes"], fn := fun _ => fun
  | [d1, d2, g1] => { results := [.lit (.bool true)], args := [d1, d2], vars := [g1] }
  | _ => none }
def fnExactRangeOfRow : OpenClaim := { program := "ytahlicbjbbpihaadoor", sum := "1c1293c9251ae378377a34582e3409dd388dfd46daee64c76e299970430d10f0", func := "loop.example/g01073/laws.FnExactRangeOf", spec := "fnExactRangeOf", unfollowed := true, recurses := true, named := ["loop.example/g01073/impl.smallPrimes"], apart := false, laid := [("loop.example/g01073/impl.smallPrimes", laid_loop_example_g01073_impl_smallPrimes)] }
def FnExactRangeOfSaid : Prop := fnExactRangeOfRow.holds Tryd.pinned (OpenSpec.ofChange fnExactRangeOfSpec)

/-- ITS FALSE NEIGHBOUR: 'it returns false'. Refute it at one input. -/
def fnExactRangeOfWrong : ChangeSpec := { name := "fnExactRangeOf", vars := ["loop.example/g01073/impl.smallPrimes"], fn := fun _ => fun
  | [d1, d2, g1] => { results := [.lit (.bool false)], args := [d1, d2], vars := [g1] }
  | _ => none }
def FnExactRangeOfWrongFalsely : Prop := fnExactRangeOfRow.holds Tryd.pinned (OpenSpec.ofChange fnExactRangeOfWrong)

/-- 'laws.FnExactIsTotal': WHATEVER THE INPUT: true; the input reads as it did. -/
def fnExactIsTotalSpec : ChangeSpec := { name := "fnExactIsTotal", vars := ["loop.example/g01073/impl.smallPrimes"], fn := fun _ => fun
  | [d1, d2, g1] => { results := [.lit (.bool true)], args := [d1, d2], vars := [g1] }
  | _ => none }
def fnExactIsTotalRow : OpenClaim := { program := "ytahlicbjbbpihaadoor", sum := "1c1293c9251ae378377a34582e3409dd388dfd46daee64c76e299970430d10f0", func := "loop.example/g01073/laws.FnExactIsTotal", spec := "fnExactIsTotal", unfollowed := true, recurses := true, named := ["loop.example/g01073/impl.smallPrimes"], apart := false, laid := [("loop.example/g01073/impl.smallPrimes", laid_loop_example_g01073_impl_smallPrimes)] }
def FnExactIsTotalSaid : Prop := fnExactIsTotalRow.holds Tryd.pinned (OpenSpec.ofChange fnExactIsTotalSpec)

/-- ITS FALSE NEIGHBOUR: 'it returns false'. Refute it at one input. -/
def fnExactIsTotalWrong : ChangeSpec := { name := "fnExactIsTotal", vars := ["loop.example/g01073/impl.smallPrimes"], fn := fun _ => fun
  | [d1, d2, g1] => { results := [.lit (.bool false)], args := [d1, d2], vars := [g1] }
  | _ => none }
def FnExactIsTotalWrongFalsely : Prop := fnExactIsTotalRow.holds Tryd.pinned (OpenSpec.ofChange fnExactIsTotalWrong)

/- THE SECOND FORM. 'bulk': how many values and letters a reading holds, each counted each time it is reached (what is shared counts as often as it is met; a slice's spare places count too). A statement '..UptoSaid' is the law's where the arguments, and the package variables that the reading takes, are together of bulk at most 1048576: NARROWER than '..Said'. Prove '..Said' where nothing that the law and all that it calls make is longer than what came in: it says more and counts as full. Else prove '..UptoSaid'. A law counts once. -/
mutual
def uptoBulk {H : Type} : DataW H → Nat
  | .lit (.string bytes) => bytes.length + 1
  | .lit _ => 1
  | .nil => 1
  | .ptr d => uptoBulk d + 1
  | .slice elems spare => uptoBulkAll elems + uptoBulkAll spare + 1
  | .agg parts => uptoBulkAll parts + 1
  | .iface _ d => uptoBulk d + 1
  | .map entries => uptoBulkEntries entries + 1
  | .held _ => 1
def uptoBulkAll {H : Type} : List (DataW H) → Nat
  | [] => 0
  | d :: r => uptoBulk d + uptoBulkAll r
def uptoBulkEntries {H : Type} : List (Lit × DataW H) → Nat
  | [] => 0
  | x :: r => uptoBulkEntry x + uptoBulkEntries r
def uptoBulkEntry {H : Type} : Lit × DataW H → Nat
  | (.string bytes, d) => bytes.length + uptoBulk d + 1
  | (_, d) => uptoBulk d + 1
 end
def uptoSmall : (H : Type) → List (DataW H) → Bool := fun _ ds => decide (uptoBulkAll ds ≤ 1048576)
def OpenSpec.upto (s : _root_.Go.ChangeSpec) : _root_.Go.OpenSpec := { _root_.Go.OpenSpec.ofChange s with cond := some uptoSmall }

/-- 'laws.FnExactSumOf', WHERE WHAT IT READS IS OF BULK AT MOST 1048576: true; the input reads as it did. -/
def fnExactSumOfUptoRow : OpenClaim := { program := "ytahlicbjbbpihaadoor", sum := "1c1293c9251ae378377a34582e3409dd388dfd46daee64c76e299970430d10f0", func := "loop.example/g01073/laws.FnExactSumOf", spec := "fnExactSumOf", unfollowed := true, recurses := true, named := ["loop.example/g01073/impl.smallPrimes"], apart := false, laid := [("loop.example/g01073/impl.smallPrimes", laid_loop_example_g01073_impl_smallPrimes)], narrowed := true }
def FnExactSumOfUptoSaid : Prop := fnExactSumOfUptoRow.holds Tryd.pinned (OpenSpec.upto fnExactSumOfSpec)

/-- 'laws.FnExactMeetOf', WHERE WHAT IT READS IS OF BULK AT MOST 1048576: true; the input reads as it did. -/
def fnExactMeetOfUptoRow : OpenClaim := { program := "ytahlicbjbbpihaadoor", sum := "1c1293c9251ae378377a34582e3409dd388dfd46daee64c76e299970430d10f0", func := "loop.example/g01073/laws.FnExactMeetOf", spec := "fnExactMeetOf", unfollowed := true, recurses := true, named := ["loop.example/g01073/impl.smallPrimes"], apart := false, laid := [("loop.example/g01073/impl.smallPrimes", laid_loop_example_g01073_impl_smallPrimes)], narrowed := true }
def FnExactMeetOfUptoSaid : Prop := fnExactMeetOfUptoRow.holds Tryd.pinned (OpenSpec.upto fnExactMeetOfSpec)

/-- 'laws.FnExactHasVector', WHERE WHAT IT READS IS OF BULK AT MOST 1048576: true; the input reads as it did. -/
def fnExactHasVectorUptoRow : OpenClaim := { program := "ytahlicbjbbpihaadoor", sum := "1c1293c9251ae378377a34582e3409dd388dfd46daee64c76e299970430d10f0", func := "loop.example/g01073/laws.FnExactHasVector", spec := "fnExactHasVector", unfollowed := true, recurses := true, named := ["loop.example/g01073/impl.smallPrimes"], apart := false, laid := [("loop.example/g01073/impl.smallPrimes", laid_loop_example_g01073_impl_smallPrimes)], narrowed := true }
def FnExactHasVectorUptoSaid : Prop := fnExactHasVectorUptoRow.holds Tryd.pinned (OpenSpec.upto fnExactHasVectorSpec)

/-- 'laws.FnExactCoordinatesOf', WHERE WHAT IT READS IS OF BULK AT MOST 1048576: true; the input reads as it did. -/
def fnExactCoordinatesOfUptoRow : OpenClaim := { program := "ytahlicbjbbpihaadoor", sum := "1c1293c9251ae378377a34582e3409dd388dfd46daee64c76e299970430d10f0", func := "loop.example/g01073/laws.FnExactCoordinatesOf", spec := "fnExactCoordinatesOf", unfollowed := true, recurses := true, named := ["loop.example/g01073/impl.smallPrimes"], apart := false, laid := [("loop.example/g01073/impl.smallPrimes", laid_loop_example_g01073_impl_smallPrimes)], narrowed := true }
def FnExactCoordinatesOfUptoSaid : Prop := fnExactCoordinatesOfUptoRow.holds Tryd.pinned (OpenSpec.upto fnExactCoordinatesOfSpec)

/-- 'laws.FnExactSeparatorOf', WHERE WHAT IT READS IS OF BULK AT MOST 1048576: true; the input reads as it did. -/
def fnExactSeparatorOfUptoRow : OpenClaim := { program := "ytahlicbjbbpihaadoor", sum := "1c1293c9251ae378377a34582e3409dd388dfd46daee64c76e299970430d10f0", func := "loop.example/g01073/laws.FnExactSeparatorOf", spec := "fnExactSeparatorOf", unfollowed := true, recurses := true, named := ["loop.example/g01073/impl.smallPrimes"], apart := false, laid := [("loop.example/g01073/impl.smallPrimes", laid_loop_example_g01073_impl_smallPrimes)], narrowed := true }
def FnExactSeparatorOfUptoSaid : Prop := fnExactSeparatorOfUptoRow.holds Tryd.pinned (OpenSpec.upto fnExactSeparatorOfSpec)

/-- 'laws.FnExactImageOf', WHERE WHAT IT READS IS OF BULK AT MOST 1048576: true; the input reads as it did. -/
def fnExactImageOfUptoRow : OpenClaim := { program := "ytahlicbjbbpihaadoor", sum := "1c1293c9251ae378377a34582e3409dd388dfd46daee64c76e299970430d10f0", func := "loop.example/g01073/laws.FnExactImageOf", spec := "fnExactImageOf", unfollowed := true, recurses := true, named := ["loop.example/g01073/impl.smallPrimes"], apart := false, laid := [("loop.example/g01073/impl.smallPrimes", laid_loop_example_g01073_impl_smallPrimes)], narrowed := true }
def FnExactImageOfUptoSaid : Prop := fnExactImageOfUptoRow.holds Tryd.pinned (OpenSpec.upto fnExactImageOfSpec)

/-- 'laws.FnExactPreimageOf', WHERE WHAT IT READS IS OF BULK AT MOST 1048576: true; the input reads as it did. -/
def fnExactPreimageOfUptoRow : OpenClaim := { program := "ytahlicbjbbpihaadoor", sum := "1c1293c9251ae378377a34582e3409dd388dfd46daee64c76e299970430d10f0", func := "loop.example/g01073/laws.FnExactPreimageOf", spec := "fnExactPreimageOf", unfollowed := true, recurses := true, named := ["loop.example/g01073/impl.smallPrimes"], apart := false, laid := [("loop.example/g01073/impl.smallPrimes", laid_loop_example_g01073_impl_smallPrimes)], narrowed := true }
def FnExactPreimageOfUptoSaid : Prop := fnExactPreimageOfUptoRow.holds Tryd.pinned (OpenSpec.upto fnExactPreimageOfSpec)

/-- 'laws.FnExactProjectOf', WHERE WHAT IT READS IS OF BULK AT MOST 1048576: true; the input reads as it did. -/
def fnExactProjectOfUptoRow : OpenClaim := { program := "ytahlicbjbbpihaadoor", sum := "1c1293c9251ae378377a34582e3409dd388dfd46daee64c76e299970430d10f0", func := "loop.example/g01073/laws.FnExactProjectOf", spec := "fnExactProjectOf", unfollowed := true, recurses := true, named := ["loop.example/g01073/impl.smallPrimes"], apart := false, laid := [("loop.example/g01073/impl.smallPrimes", laid_loop_example_g01073_impl_smallPrimes)], narrowed := true }
def FnExactProjectOfUptoSaid : Prop := fnExactProjectOfUptoRow.holds Tryd.pinned (OpenSpec.upto fnExactProjectOfSpec)

/-- 'laws.FnExactIsRelation', WHERE WHAT IT READS IS OF BULK AT MOST 1048576: true; the input reads as it did. -/
def fnExactIsRelationUptoRow : OpenClaim := { program := "ytahlicbjbbpihaadoor", sum := "1c1293c9251ae378377a34582e3409dd388dfd46daee64c76e299970430d10f0", func := "loop.example/g01073/laws.FnExactIsRelation", spec := "fnExactIsRelation", unfollowed := true, recurses := true, named := ["loop.example/g01073/impl.smallPrimes"], apart := false, laid := [("loop.example/g01073/impl.smallPrimes", laid_loop_example_g01073_impl_smallPrimes)], narrowed := true }
def FnExactIsRelationUptoSaid : Prop := fnExactIsRelationUptoRow.holds Tryd.pinned (OpenSpec.upto fnExactIsRelationSpec)

/-- 'laws.FnExactDomainOf', WHERE WHAT IT READS IS OF BULK AT MOST 1048576: true; the input reads as it did. -/
def fnExactDomainOfUptoRow : OpenClaim := { program := "ytahlicbjbbpihaadoor", sum := "1c1293c9251ae378377a34582e3409dd388dfd46daee64c76e299970430d10f0", func := "loop.example/g01073/laws.FnExactDomainOf", spec := "fnExactDomainOf", unfollowed := true, recurses := true, named := ["loop.example/g01073/impl.smallPrimes"], apart := false, laid := [("loop.example/g01073/impl.smallPrimes", laid_loop_example_g01073_impl_smallPrimes)], narrowed := true }
def FnExactDomainOfUptoSaid : Prop := fnExactDomainOfUptoRow.holds Tryd.pinned (OpenSpec.upto fnExactDomainOfSpec)

/-- 'laws.FnExactRangeOf', WHERE WHAT IT READS IS OF BULK AT MOST 1048576: true; the input reads as it did. -/
def fnExactRangeOfUptoRow : OpenClaim := { program := "ytahlicbjbbpihaadoor", sum := "1c1293c9251ae378377a34582e3409dd388dfd46daee64c76e299970430d10f0", func := "loop.example/g01073/laws.FnExactRangeOf", spec := "fnExactRangeOf", unfollowed := true, recurses := true, named := ["loop.example/g01073/impl.smallPrimes"], apart := false, laid := [("loop.example/g01073/impl.smallPrimes", laid_loop_example_g01073_impl_smallPrimes)], narrowed := true }
def FnExactRangeOfUptoSaid : Prop := fnExactRangeOfUptoRow.holds Tryd.pinned (OpenSpec.upto fnExactRangeOfSpec)

/-- 'laws.FnExactIsTotal', WHERE WHAT IT READS IS OF BULK AT MOST 1048576: true; the input reads as it did. -/
def fnExactIsTotalUptoRow : OpenClaim := { program := "ytahlicbjbbpihaadoor", sum := "1c1293c9251ae378377a34582e3409dd388dfd46daee64c76e299970430d10f0", func := "loop.example/g01073/laws.FnExactIsTotal", spec := "fnExactIsTotal", unfollowed := true, recurses := true, named := ["loop.example/g01073/impl.smallPrimes"], apart := false, laid := [("loop.example/g01073/impl.smallPrimes", laid_loop_example_g01073_impl_smallPrimes)], narrowed := true }
def FnExactIsTotalUptoSaid : Prop := fnExactIsTotalUptoRow.holds Tryd.pinned (OpenSpec.upto fnExactIsTotalSpec)

end Rows
end Go.Proofs.YtahlicbjbbpihaaDoor
