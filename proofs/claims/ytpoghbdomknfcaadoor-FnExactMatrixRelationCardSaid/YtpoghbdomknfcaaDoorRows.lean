/-
  NARROWER THAN 'FOR EVERY INPUT', by the rows' own cells (each row's printed sentence says how): FnExactMatrixRelation: laid · FnExactSolveLinear: laid · FnExactDomainOf: laid · FnExactRangeOf: laid · FnExactIsTotal: laid · FnExactIsSingleValued: laid · FnExactHasPair: laid · FnExactIncludesRelation: laid · FnExactOrthogonalRelation: laid · FnExactConverseRelation: laid · FnExactComposeRelations: laid · FnExactTensorRelations: laid.
  DERIVED. THE GIVEN ROWS OF THIS SEAT. 12 by the template 'for every input the law returns true; each argument reads behind the call as it read before'; 0 by the template 'total and deterministic' (their statements: YtpoghbdomknfcaaDoorTotals.lean).
  GIVEN WITH THE SEED: the statements are not yours to turn. If you find one false, say at which input.
  Laid BY PROGRAM, IN A SANDBOX (cutbox-rows.mjs): the forced cells as the released guide's own fill.sh prints them over the translation e032218292868614… (all of the seat's roots in one cut). By AI agents, Wed Nov 11 2026. No macro, syntax, notation, axiom, sorry.
-/
import Derived.Test.YtpoghbdomknfcaaDoorChecked
import GoSem.Claim
import GoSem.ClaimJoined
import GoSem.ClaimMapViews
import Derived.JoinedTies
import Derived.KernelRfl
namespace Go.Proofs.YtpoghbdomknfcaaDoor
/- THE CELL 'sum', in the pinned program and in every row, IS THE sha256 OF THE DUMP (.gsa) THAT YtpoghbdomknfcaaDoorProg.lean LOADS. Nothing in Lean hashes anything: it is a label: what it is worth is what the hold of that sum in a sandbox is worth. -/
noncomputable def Tryd.pinned : Pinned := { name := "ytpoghbdomknfcaadoor", sum := "e03221829286861413e51cf8b590ec08a9870f5a03ac71c7ad87619a62ff3529", checked := Tryd.checked }
namespace Rows
def none {H : Type} : Left H := { results := [], args := [] }

/- WHAT THE LISTED PACKAGE-LEVEL VARIABLES READ AS WHEN THE CALL BEGINS. Each datum BY PROGRAM (the guide's laid-datum.mjs) off the statement by which the dump's own 'gosem.cut.vars' lays the variable. In a bare row this is a premise. The card (YtpoghbdomknfcaaDoorCards.lean) ties it to the program's text. -/
def laid_loop_example_g01073_impl_smallPrimes {H : Type} : DataW H := .agg [.lit (.int .i64 2), .lit (.int .i64 3), .lit (.int .i64 5), .lit (.int .i64 7)]

/-- 'laws.FnExactMatrixRelation': WHATEVER THE INPUT: true; the input reads as it did. -/
def fnExactMatrixRelationSpec : ChangeSpec := { name := "fnExactMatrixRelation", vars := ["loop.example/g01073/impl.smallPrimes"], fn := fun _ => fun
  | [d1, d2, g1] => { results := [.lit (.bool true)], args := [d1, d2], vars := [g1] }
  | _ => none }
def fnExactMatrixRelationRow : OpenClaim := { program := "ytpoghbdomknfcaadoor", sum := "e03221829286861413e51cf8b590ec08a9870f5a03ac71c7ad87619a62ff3529", func := "loop.example/g01073/laws.FnExactMatrixRelation", spec := "fnExactMatrixRelation", named := ["loop.example/g01073/impl.smallPrimes"], apart := false, laid := [("loop.example/g01073/impl.smallPrimes", laid_loop_example_g01073_impl_smallPrimes)] }
def FnExactMatrixRelationSaid : Prop := fnExactMatrixRelationRow.holds Tryd.pinned (OpenSpec.ofChange fnExactMatrixRelationSpec)

/-- ITS FALSE NEIGHBOUR: 'it returns false'. Refute it at one input. -/
def fnExactMatrixRelationWrong : ChangeSpec := { name := "fnExactMatrixRelation", vars := ["loop.example/g01073/impl.smallPrimes"], fn := fun _ => fun
  | [d1, d2, g1] => { results := [.lit (.bool false)], args := [d1, d2], vars := [g1] }
  | _ => none }
def FnExactMatrixRelationWrongFalsely : Prop := fnExactMatrixRelationRow.holds Tryd.pinned (OpenSpec.ofChange fnExactMatrixRelationWrong)

/-- 'laws.FnExactSolveLinear': WHATEVER THE INPUT: true; the input reads as it did. -/
def fnExactSolveLinearSpec : ChangeSpec := { name := "fnExactSolveLinear", vars := ["loop.example/g01073/impl.smallPrimes"], fn := fun _ => fun
  | [d1, d2, d3, g1] => { results := [.lit (.bool true)], args := [d1, d2, d3], vars := [g1] }
  | _ => none }
def fnExactSolveLinearRow : OpenClaim := { program := "ytpoghbdomknfcaadoor", sum := "e03221829286861413e51cf8b590ec08a9870f5a03ac71c7ad87619a62ff3529", func := "loop.example/g01073/laws.FnExactSolveLinear", spec := "fnExactSolveLinear", named := ["loop.example/g01073/impl.smallPrimes"], apart := false, laid := [("loop.example/g01073/impl.smallPrimes", laid_loop_example_g01073_impl_smallPrimes)] }
def FnExactSolveLinearSaid : Prop := fnExactSolveLinearRow.holds Tryd.pinned (OpenSpec.ofChange fnExactSolveLinearSpec)

/-- ITS FALSE NEIGHBOUR: 'it returns false'. Refute it at one input. -/
def fnExactSolveLinearWrong : ChangeSpec := { name := "fnExactSolveLinear", vars := ["loop.example/g01073/impl.smallPrimes"], fn := fun _ => fun
  | [d1, d2, d3, g1] => { results := [.lit (.bool false)], args := [d1, d2, d3], vars := [g1] }
  | _ => none }
def FnExactSolveLinearWrongFalsely : Prop := fnExactSolveLinearRow.holds Tryd.pinned (OpenSpec.ofChange fnExactSolveLinearWrong)

/-- 'laws.FnExactDomainOf': WHATEVER THE INPUT: true; the input reads as it did. -/
def fnExactDomainOfSpec : ChangeSpec := { name := "fnExactDomainOf", vars := ["loop.example/g01073/impl.smallPrimes"], fn := fun _ => fun
  | [d1, d2, g1] => { results := [.lit (.bool true)], args := [d1, d2], vars := [g1] }
  | _ => none }
def fnExactDomainOfRow : OpenClaim := { program := "ytpoghbdomknfcaadoor", sum := "e03221829286861413e51cf8b590ec08a9870f5a03ac71c7ad87619a62ff3529", func := "loop.example/g01073/laws.FnExactDomainOf", spec := "fnExactDomainOf", unfollowed := true, recurses := true, named := ["loop.example/g01073/impl.smallPrimes"], apart := false, laid := [("loop.example/g01073/impl.smallPrimes", laid_loop_example_g01073_impl_smallPrimes)] }
def FnExactDomainOfSaid : Prop := fnExactDomainOfRow.holds Tryd.pinned (OpenSpec.ofChange fnExactDomainOfSpec)

/-- ITS FALSE NEIGHBOUR: 'it returns false'. Refute it at one input. -/
def fnExactDomainOfWrong : ChangeSpec := { name := "fnExactDomainOf", vars := ["loop.example/g01073/impl.smallPrimes"], fn := fun _ => fun
  | [d1, d2, g1] => { results := [.lit (.bool false)], args := [d1, d2], vars := [g1] }
  | _ => none }
def FnExactDomainOfWrongFalsely : Prop := fnExactDomainOfRow.holds Tryd.pinned (OpenSpec.ofChange fnExactDomainOfWrong)

/-- 'laws.FnExactRangeOf': WHATEVER THE INPUT: true; the input reads as it did. -/
def fnExactRangeOfSpec : ChangeSpec := { name := "fnExactRangeOf", vars := ["loop.example/g01073/impl.smallPrimes"], fn := fun _ => fun
  | [d1, d2, g1] => { results := [.lit (.bool true)], args := [d1, d2], vars := [g1] }
  | _ => none }
def fnExactRangeOfRow : OpenClaim := { program := "ytpoghbdomknfcaadoor", sum := "e03221829286861413e51cf8b590ec08a9870f5a03ac71c7ad87619a62ff3529", func := "loop.example/g01073/laws.FnExactRangeOf", spec := "fnExactRangeOf", unfollowed := true, recurses := true, named := ["loop.example/g01073/impl.smallPrimes"], apart := false, laid := [("loop.example/g01073/impl.smallPrimes", laid_loop_example_g01073_impl_smallPrimes)] }
def FnExactRangeOfSaid : Prop := fnExactRangeOfRow.holds Tryd.pinned (OpenSpec.ofChange fnExactRangeOfSpec)

/-- ITS FALSE NEIGHBOUR: 'it returns false'. Refute it at one input. -/
def fnExactRangeOfWrong : ChangeSpec := { name := "fnExactRangeOf", vars := ["loop.example/g01073/impl.smallPrimes"], fn := fun _ => fun
  | [d1, d2, g1] => { results := [.lit (.bool false)], args := [d1, d2], vars := [g1] }
  | _ => none }
def FnExactRangeOfWrongFalsely : Prop := fnExactRangeOfRow.holds Tryd.pinned (OpenSpec.ofChange fnExactRangeOfWrong)

/-- 'laws.FnExactIsTotal': WHATEVER THE INPUT: true; the input reads as it did. -/
def fnExactIsTotalSpec : ChangeSpec := { name := "fnExactIsTotal", vars := ["loop.example/g01073/impl.smallPrimes"], fn := fun _ => fun
  | [d1, d2, g1] => { results := [.lit (.bool true)], args := [d1, d2], vars := [g1] }
  | _ => none }
def fnExactIsTotalRow : OpenClaim := { program := "ytpoghbdomknfcaadoor", sum := "e03221829286861413e51cf8b590ec08a9870f5a03ac71c7ad87619a62ff3529", func := "loop.example/g01073/laws.FnExactIsTotal", spec := "fnExactIsTotal", unfollowed := true, recurses := true, named := ["loop.example/g01073/impl.smallPrimes"], apart := false, laid := [("loop.example/g01073/impl.smallPrimes", laid_loop_example_g01073_impl_smallPrimes)] }
def FnExactIsTotalSaid : Prop := fnExactIsTotalRow.holds Tryd.pinned (OpenSpec.ofChange fnExactIsTotalSpec)

/-- ITS FALSE NEIGHBOUR: 'it returns false'. Refute it at one input. -/
def fnExactIsTotalWrong : ChangeSpec := { name := "fnExactIsTotal", vars := ["loop.example/g01073/impl.smallPrimes"], fn := fun _ => fun
  | [d1, d2, g1] => { results := [.lit (.bool false)], args := [d1, d2], vars := [g1] }
  | _ => none }
def FnExactIsTotalWrongFalsely : Prop := fnExactIsTotalRow.holds Tryd.pinned (OpenSpec.ofChange fnExactIsTotalWrong)

/-- 'laws.FnExactIsSingleValued': WHATEVER THE INPUT: true; the input reads as it did. -/
def fnExactIsSingleValuedSpec : ChangeSpec := { name := "fnExactIsSingleValued", vars := ["loop.example/g01073/impl.smallPrimes"], fn := fun _ => fun
  | [d1, d2, g1] => { results := [.lit (.bool true)], args := [d1, d2], vars := [g1] }
  | _ => none }
def fnExactIsSingleValuedRow : OpenClaim := { program := "ytpoghbdomknfcaadoor", sum := "e03221829286861413e51cf8b590ec08a9870f5a03ac71c7ad87619a62ff3529", func := "loop.example/g01073/laws.FnExactIsSingleValued", spec := "fnExactIsSingleValued", unfollowed := true, recurses := true, named := ["loop.example/g01073/impl.smallPrimes"], apart := false, laid := [("loop.example/g01073/impl.smallPrimes", laid_loop_example_g01073_impl_smallPrimes)] }
def FnExactIsSingleValuedSaid : Prop := fnExactIsSingleValuedRow.holds Tryd.pinned (OpenSpec.ofChange fnExactIsSingleValuedSpec)

/-- ITS FALSE NEIGHBOUR: 'it returns false'. Refute it at one input. -/
def fnExactIsSingleValuedWrong : ChangeSpec := { name := "fnExactIsSingleValued", vars := ["loop.example/g01073/impl.smallPrimes"], fn := fun _ => fun
  | [d1, d2, g1] => { results := [.lit (.bool false)], args := [d1, d2], vars := [g1] }
  | _ => none }
def FnExactIsSingleValuedWrongFalsely : Prop := fnExactIsSingleValuedRow.holds Tryd.pinned (OpenSpec.ofChange fnExactIsSingleValuedWrong)

/-- 'laws.FnExactHasPair': WHATEVER THE INPUT: true; the input reads as it did. -/
def fnExactHasPairSpec : ChangeSpec := { name := "fnExactHasPair", vars := ["loop.example/g01073/impl.smallPrimes"], fn := fun _ => fun
  | [d1, d2, d3, d4, g1] => { results := [.lit (.bool true)], args := [d1, d2, d3, d4], vars := [g1] }
  | _ => none }
def fnExactHasPairRow : OpenClaim := { program := "ytpoghbdomknfcaadoor", sum := "e03221829286861413e51cf8b590ec08a9870f5a03ac71c7ad87619a62ff3529", func := "loop.example/g01073/laws.FnExactHasPair", spec := "fnExactHasPair", unfollowed := true, recurses := true, named := ["loop.example/g01073/impl.smallPrimes"], apart := false, laid := [("loop.example/g01073/impl.smallPrimes", laid_loop_example_g01073_impl_smallPrimes)] }
def FnExactHasPairSaid : Prop := fnExactHasPairRow.holds Tryd.pinned (OpenSpec.ofChange fnExactHasPairSpec)

/-- ITS FALSE NEIGHBOUR: 'it returns false'. Refute it at one input. -/
def fnExactHasPairWrong : ChangeSpec := { name := "fnExactHasPair", vars := ["loop.example/g01073/impl.smallPrimes"], fn := fun _ => fun
  | [d1, d2, d3, d4, g1] => { results := [.lit (.bool false)], args := [d1, d2, d3, d4], vars := [g1] }
  | _ => none }
def FnExactHasPairWrongFalsely : Prop := fnExactHasPairRow.holds Tryd.pinned (OpenSpec.ofChange fnExactHasPairWrong)

/-- 'laws.FnExactIncludesRelation': WHATEVER THE INPUT: true; the input reads as it did. -/
def fnExactIncludesRelationSpec : ChangeSpec := { name := "fnExactIncludesRelation", vars := ["loop.example/g01073/impl.smallPrimes"], fn := fun _ => fun
  | [d1, d2, d3, g1] => { results := [.lit (.bool true)], args := [d1, d2, d3], vars := [g1] }
  | _ => none }
def fnExactIncludesRelationRow : OpenClaim := { program := "ytpoghbdomknfcaadoor", sum := "e03221829286861413e51cf8b590ec08a9870f5a03ac71c7ad87619a62ff3529", func := "loop.example/g01073/laws.FnExactIncludesRelation", spec := "fnExactIncludesRelation", unfollowed := true, recurses := true, named := ["loop.example/g01073/impl.smallPrimes"], apart := false, laid := [("loop.example/g01073/impl.smallPrimes", laid_loop_example_g01073_impl_smallPrimes)] }
def FnExactIncludesRelationSaid : Prop := fnExactIncludesRelationRow.holds Tryd.pinned (OpenSpec.ofChange fnExactIncludesRelationSpec)

/-- ITS FALSE NEIGHBOUR: 'it returns false'. Refute it at one input. -/
def fnExactIncludesRelationWrong : ChangeSpec := { name := "fnExactIncludesRelation", vars := ["loop.example/g01073/impl.smallPrimes"], fn := fun _ => fun
  | [d1, d2, d3, g1] => { results := [.lit (.bool false)], args := [d1, d2, d3], vars := [g1] }
  | _ => none }
def FnExactIncludesRelationWrongFalsely : Prop := fnExactIncludesRelationRow.holds Tryd.pinned (OpenSpec.ofChange fnExactIncludesRelationWrong)

/-- 'laws.FnExactOrthogonalRelation': WHATEVER THE INPUT: true; the input reads as it did. -/
def fnExactOrthogonalRelationSpec : ChangeSpec := { name := "fnExactOrthogonalRelation", vars := ["loop.example/g01073/impl.smallPrimes"], fn := fun _ => fun
  | [d1, d2, g1] => { results := [.lit (.bool true)], args := [d1, d2], vars := [g1] }
  | _ => none }
def fnExactOrthogonalRelationRow : OpenClaim := { program := "ytpoghbdomknfcaadoor", sum := "e03221829286861413e51cf8b590ec08a9870f5a03ac71c7ad87619a62ff3529", func := "loop.example/g01073/laws.FnExactOrthogonalRelation", spec := "fnExactOrthogonalRelation", unfollowed := true, recurses := true, named := ["loop.example/g01073/impl.smallPrimes"], apart := false, laid := [("loop.example/g01073/impl.smallPrimes", laid_loop_example_g01073_impl_smallPrimes)] }
def FnExactOrthogonalRelationSaid : Prop := fnExactOrthogonalRelationRow.holds Tryd.pinned (OpenSpec.ofChange fnExactOrthogonalRelationSpec)

/-- ITS FALSE NEIGHBOUR: 'it returns false'. Refute it at one input. -/
def fnExactOrthogonalRelationWrong : ChangeSpec := { name := "fnExactOrthogonalRelation", vars := ["loop.example/g01073/impl.smallPrimes"], fn := fun _ => fun
  | [d1, d2, g1] => { results := [.lit (.bool false)], args := [d1, d2], vars := [g1] }
  | _ => none }
def FnExactOrthogonalRelationWrongFalsely : Prop := fnExactOrthogonalRelationRow.holds Tryd.pinned (OpenSpec.ofChange fnExactOrthogonalRelationWrong)

/-- 'laws.FnExactConverseRelation': WHATEVER THE INPUT: true; the input reads as it did. -/
def fnExactConverseRelationSpec : ChangeSpec := { name := "fnExactConverseRelation", vars := ["loop.example/g01073/impl.smallPrimes"], fn := fun _ => fun
  | [d1, d2, g1] => { results := [.lit (.bool true)], args := [d1, d2], vars := [g1] }
  | _ => none }
def fnExactConverseRelationRow : OpenClaim := { program := "ytpoghbdomknfcaadoor", sum := "e03221829286861413e51cf8b590ec08a9870f5a03ac71c7ad87619a62ff3529", func := "loop.example/g01073/laws.FnExactConverseRelation", spec := "fnExactConverseRelation", unfollowed := true, recurses := true, named := ["loop.example/g01073/impl.smallPrimes"], apart := false, laid := [("loop.example/g01073/impl.smallPrimes", laid_loop_example_g01073_impl_smallPrimes)] }
def FnExactConverseRelationSaid : Prop := fnExactConverseRelationRow.holds Tryd.pinned (OpenSpec.ofChange fnExactConverseRelationSpec)

/-- ITS FALSE NEIGHBOUR: 'it returns false'. Refute it at one input. -/
def fnExactConverseRelationWrong : ChangeSpec := { name := "fnExactConverseRelation", vars := ["loop.example/g01073/impl.smallPrimes"], fn := fun _ => fun
  | [d1, d2, g1] => { results := [.lit (.bool false)], args := [d1, d2], vars := [g1] }
  | _ => none }
def FnExactConverseRelationWrongFalsely : Prop := fnExactConverseRelationRow.holds Tryd.pinned (OpenSpec.ofChange fnExactConverseRelationWrong)

/-- 'laws.FnExactComposeRelations': WHATEVER THE INPUT: true; the input reads as it did. -/
def fnExactComposeRelationsSpec : ChangeSpec := { name := "fnExactComposeRelations", vars := ["loop.example/g01073/impl.smallPrimes"], fn := fun _ => fun
  | [d1, d2, d3, g1] => { results := [.lit (.bool true)], args := [d1, d2, d3], vars := [g1] }
  | _ => none }
def fnExactComposeRelationsRow : OpenClaim := { program := "ytpoghbdomknfcaadoor", sum := "e03221829286861413e51cf8b590ec08a9870f5a03ac71c7ad87619a62ff3529", func := "loop.example/g01073/laws.FnExactComposeRelations", spec := "fnExactComposeRelations", unfollowed := true, recurses := true, named := ["loop.example/g01073/impl.smallPrimes"], apart := false, laid := [("loop.example/g01073/impl.smallPrimes", laid_loop_example_g01073_impl_smallPrimes)] }
def FnExactComposeRelationsSaid : Prop := fnExactComposeRelationsRow.holds Tryd.pinned (OpenSpec.ofChange fnExactComposeRelationsSpec)

/-- ITS FALSE NEIGHBOUR: 'it returns false'. Refute it at one input. -/
def fnExactComposeRelationsWrong : ChangeSpec := { name := "fnExactComposeRelations", vars := ["loop.example/g01073/impl.smallPrimes"], fn := fun _ => fun
  | [d1, d2, d3, g1] => { results := [.lit (.bool false)], args := [d1, d2, d3], vars := [g1] }
  | _ => none }
def FnExactComposeRelationsWrongFalsely : Prop := fnExactComposeRelationsRow.holds Tryd.pinned (OpenSpec.ofChange fnExactComposeRelationsWrong)

/-- 'laws.FnExactTensorRelations': WHATEVER THE INPUT: true; the input reads as it did. -/
def fnExactTensorRelationsSpec : ChangeSpec := { name := "fnExactTensorRelations", vars := ["loop.example/g01073/impl.smallPrimes"], fn := fun _ => fun
  | [d1, d2, d3, g1] => { results := [.lit (.bool true)], args := [d1, d2, d3], vars := [g1] }
  | _ => none }
def fnExactTensorRelationsRow : OpenClaim := { program := "ytpoghbdomknfcaadoor", sum := "e03221829286861413e51cf8b590ec08a9870f5a03ac71c7ad87619a62ff3529", func := "loop.example/g01073/laws.FnExactTensorRelations", spec := "fnExactTensorRelations", unfollowed := true, recurses := true, named := ["loop.example/g01073/impl.smallPrimes"], apart := false, laid := [("loop.example/g01073/impl.smallPrimes", laid_loop_example_g01073_impl_smallPrimes)] }
def FnExactTensorRelationsSaid : Prop := fnExactTensorRelationsRow.holds Tryd.pinned (OpenSpec.ofChange fnExactTensorRelationsSpec)

/-- ITS FALSE NEIGHBOUR: 'it returns false'. Refute it at one input. -/
def fnExactTensorRelationsWrong : ChangeSpec := { name := "fnExactTensorRelations", vars := ["loop.example/g01073/impl.smallPrimes"], fn := fun _ => fun
  | [d1, d2, d3, g1] => { results := [.lit (.bool false)], args := [d1, d2, d3], vars := [g1] }
  | _ => none }
def FnExactTensorRelationsWrongFalsely : Prop := fnExactTensorRelationsRow.holds Tryd.pinned (OpenSpec.ofChange fnExactTensorRelationsWrong)

/- THE SECOND FORM. 'bulk': how many values and letters a reading holds, each counted each time it is reached (what is shared counts as often as it is met; a slice's spare places count too). A statement '..UptoSaid' is the law's where the arguments, and the package variables that the reading takes, are together of bulk at most 1048576: NARROWER than '..Said'. Prove '..Said' where nothing that the law and all that it calls make is longer than what came in: it says more and counts as full. Else prove '..UptoSaid'. A law counts once. -/
mutual
def uptoBulk {H : Type} : DataW H → Nat
  | .lit (.string bytes) => bytes.length + 1
  | .lit _ => 1
  | .nil => 1
  | .ptr d => uptoBulk d + 1
  | .slice elems spare => uptoBulkAll elems + uptoBulkAll spare + 1
  | .agg parts => uptoBulkAll parts + 1
  | .iface _ d => uptoBulk d + 1
  | .map entries => uptoBulkEntries entries + 1
  | .held _ => 1
def uptoBulkAll {H : Type} : List (DataW H) → Nat
  | [] => 0
  | d :: r => uptoBulk d + uptoBulkAll r
def uptoBulkEntries {H : Type} : List (Lit × DataW H) → Nat
  | [] => 0
  | x :: r => uptoBulkEntry x + uptoBulkEntries r
def uptoBulkEntry {H : Type} : Lit × DataW H → Nat
  | (.string bytes, d) => bytes.length + uptoBulk d + 1
  | (_, d) => uptoBulk d + 1
 end
def uptoSmall : (H : Type) → List (DataW H) → Bool := fun _ ds => decide (uptoBulkAll ds ≤ 1048576)
def OpenSpec.upto (s : _root_.Go.ChangeSpec) : _root_.Go.OpenSpec := { _root_.Go.OpenSpec.ofChange s with cond := some uptoSmall }

/-- 'laws.FnExactMatrixRelation', WHERE WHAT IT READS IS OF BULK AT MOST 1048576: true; the input reads as it did. -/
def fnExactMatrixRelationUptoRow : OpenClaim := { program := "ytpoghbdomknfcaadoor", sum := "e03221829286861413e51cf8b590ec08a9870f5a03ac71c7ad87619a62ff3529", func := "loop.example/g01073/laws.FnExactMatrixRelation", spec := "fnExactMatrixRelation", named := ["loop.example/g01073/impl.smallPrimes"], apart := false, laid := [("loop.example/g01073/impl.smallPrimes", laid_loop_example_g01073_impl_smallPrimes)], narrowed := true }
def FnExactMatrixRelationUptoSaid : Prop := fnExactMatrixRelationUptoRow.holds Tryd.pinned (OpenSpec.upto fnExactMatrixRelationSpec)

/-- 'laws.FnExactSolveLinear', WHERE WHAT IT READS IS OF BULK AT MOST 1048576: true; the input reads as it did. -/
def fnExactSolveLinearUptoRow : OpenClaim := { program := "ytpoghbdomknfcaadoor", sum := "e03221829286861413e51cf8b590ec08a9870f5a03ac71c7ad87619a62ff3529", func := "loop.example/g01073/laws.FnExactSolveLinear", spec := "fnExactSolveLinear", named := ["loop.example/g01073/impl.smallPrimes"], apart := false, laid := [("loop.example/g01073/impl.smallPrimes", laid_loop_example_g01073_impl_smallPrimes)], narrowed := true }
def FnExactSolveLinearUptoSaid : Prop := fnExactSolveLinearUptoRow.holds Tryd.pinned (OpenSpec.upto fnExactSolveLinearSpec)

/-- 'laws.FnExactDomainOf', WHERE WHAT IT READS IS OF BULK AT MOST 1048576: true; the input reads as it did. -/
def fnExactDomainOfUptoRow : OpenClaim := { program := "ytpoghbdomknfcaadoor", sum := "e03221829286861413e51cf8b590ec08a9870f5a03ac71c7ad87619a62ff3529", func := "loop.example/g01073/laws.FnExactDomainOf", spec := "fnExactDomainOf", unfollowed := true, recurses := true, named := ["loop.example/g01073/impl.smallPrimes"], apart := false, laid := [("loop.example/g01073/impl.smallPrimes", laid_loop_example_g01073_impl_smallPrimes)], narrowed := true }
def FnExactDomainOfUptoSaid : Prop := fnExactDomainOfUptoRow.holds Tryd.pinned (OpenSpec.upto fnExactDomainOfSpec)

/-- 'laws.FnExactRangeOf', WHERE WHAT IT READS IS OF BULK AT MOST 1048576: true; the input reads as it did. -/
def fnExactRangeOfUptoRow : OpenClaim := { program := "ytpoghbdomknfcaadoor", sum := "e03221829286861413e51cf8b590ec08a9870f5a03ac71c7ad87619a62ff3529", func := "loop.example/g01073/laws.FnExactRangeOf", spec := "fnExactRangeOf", unfollowed := true, recurses := true, named := ["loop.example/g01073/impl.smallPrimes"], apart := false, laid := [("loop.example/g01073/impl.smallPrimes", laid_loop_example_g01073_impl_smallPrimes)], narrowed := true }
def FnExactRangeOfUptoSaid : Prop := fnExactRangeOfUptoRow.holds Tryd.pinned (OpenSpec.upto fnExactRangeOfSpec)

/-- 'laws.FnExactIsTotal', WHERE WHAT IT READS IS OF BULK AT MOST 1048576: true; the input reads as it did. -/
def fnExactIsTotalUptoRow : OpenClaim := { program := "ytpoghbdomknfcaadoor", sum := "e03221829286861413e51cf8b590ec08a9870f5a03ac71c7ad87619a62ff3529", func := "loop.example/g01073/laws.FnExactIsTotal", spec := "fnExactIsTotal", unfollowed := true, recurses := true, named := ["loop.example/g01073/impl.smallPrimes"], apart := false, laid := [("loop.example/g01073/impl.smallPrimes", laid_loop_example_g01073_impl_smallPrimes)], narrowed := true }
def FnExactIsTotalUptoSaid : Prop := fnExactIsTotalUptoRow.holds Tryd.pinned (OpenSpec.upto fnExactIsTotalSpec)

/-- 'laws.FnExactIsSingleValued', WHERE WHAT IT READS IS OF BULK AT MOST 1048576: true; the input reads as it did. -/
def fnExactIsSingleValuedUptoRow : OpenClaim := { program := "ytpoghbdomknfcaadoor", sum := "e03221829286861413e51cf8b590ec08a9870f5a03ac71c7ad87619a62ff3529", func := "loop.example/g01073/laws.FnExactIsSingleValued", spec := "fnExactIsSingleValued", unfollowed := true, recurses := true, named := ["loop.example/g01073/impl.smallPrimes"], apart := false, laid := [("loop.example/g01073/impl.smallPrimes", laid_loop_example_g01073_impl_smallPrimes)], narrowed := true }
def FnExactIsSingleValuedUptoSaid : Prop := fnExactIsSingleValuedUptoRow.holds Tryd.pinned (OpenSpec.upto fnExactIsSingleValuedSpec)

/-- 'laws.FnExactHasPair', WHERE WHAT IT READS IS OF BULK AT MOST 1048576: true; the input reads as it did. -/
def fnExactHasPairUptoRow : OpenClaim := { program := "ytpoghbdomknfcaadoor", sum := "e03221829286861413e51cf8b590ec08a9870f5a03ac71c7ad87619a62ff3529", func := "loop.example/g01073/laws.FnExactHasPair", spec := "fnExactHasPair", unfollowed := true, recurses := true, named := ["loop.example/g01073/impl.smallPrimes"], apart := false, laid := [("loop.example/g01073/impl.smallPrimes", laid_loop_example_g01073_impl_smallPrimes)], narrowed := true }
def FnExactHasPairUptoSaid : Prop := fnExactHasPairUptoRow.holds Tryd.pinned (OpenSpec.upto fnExactHasPairSpec)

/-- 'laws.FnExactIncludesRelation', WHERE WHAT IT READS IS OF BULK AT MOST 1048576: true; the input reads as it did. -/
def fnExactIncludesRelationUptoRow : OpenClaim := { program := "ytpoghbdomknfcaadoor", sum := "e03221829286861413e51cf8b590ec08a9870f5a03ac71c7ad87619a62ff3529", func := "loop.example/g01073/laws.FnExactIncludesRelation", spec := "fnExactIncludesRelation", unfollowed := true, recurses := true, named := ["loop.example/g01073/impl.smallPrimes"], apart := false, laid := [("loop.example/g01073/impl.smallPrimes", laid_loop_example_g01073_impl_smallPrimes)], narrowed := true }
def FnExactIncludesRelationUptoSaid : Prop := fnExactIncludesRelationUptoRow.holds Tryd.pinned (OpenSpec.upto fnExactIncludesRelationSpec)

/-- 'laws.FnExactOrthogonalRelation', WHERE WHAT IT READS IS OF BULK AT MOST 1048576: true; the input reads as it did. -/
def fnExactOrthogonalRelationUptoRow : OpenClaim := { program := "ytpoghbdomknfcaadoor", sum := "e03221829286861413e51cf8b590ec08a9870f5a03ac71c7ad87619a62ff3529", func := "loop.example/g01073/laws.FnExactOrthogonalRelation", spec := "fnExactOrthogonalRelation", unfollowed := true, recurses := true, named := ["loop.example/g01073/impl.smallPrimes"], apart := false, laid := [("loop.example/g01073/impl.smallPrimes", laid_loop_example_g01073_impl_smallPrimes)], narrowed := true }
def FnExactOrthogonalRelationUptoSaid : Prop := fnExactOrthogonalRelationUptoRow.holds Tryd.pinned (OpenSpec.upto fnExactOrthogonalRelationSpec)

/-- 'laws.FnExactConverseRelation', WHERE WHAT IT READS IS OF BULK AT MOST 1048576: true; the input reads as it did. -/
def fnExactConverseRelationUptoRow : OpenClaim := { program := "ytpoghbdomknfcaadoor", sum := "e03221829286861413e51cf8b590ec08a9870f5a03ac71c7ad87619a62ff3529", func := "loop.example/g01073/laws.FnExactConverseRelation", spec := "fnExactConverseRelation", unfollowed := true, recurses := true, named := ["loop.example/g01073/impl.smallPrimes"], apart := false, laid := [("loop.example/g01073/impl.smallPrimes", laid_loop_example_g01073_impl_smallPrimes)], narrowed := true }
def FnExactConverseRelationUptoSaid : Prop := fnExactConverseRelationUptoRow.holds Tryd.pinned (OpenSpec.upto fnExactConverseRelationSpec)

/-- 'laws.FnExactComposeRelations', WHERE WHAT IT READS IS OF BULK AT MOST 1048576: true; the input reads as it did. -/
def fnExactComposeRelationsUptoRow : OpenClaim := { program := "ytpoghbdomknfcaadoor", sum := "e03221829286861413e51cf8b590ec08a9870f5a03ac71c7ad87619a62ff3529", func := "loop.example/g01073/laws.FnExactComposeRelations", spec := "fnExactComposeRelations", unfollowed := true, recurses := true, named := ["loop.example/g01073/impl.smallPrimes"], apart := false, laid := [("loop.example/g01073/impl.smallPrimes", laid_loop_example_g01073_impl_smallPrimes)], narrowed := true }
def FnExactComposeRelationsUptoSaid : Prop := fnExactComposeRelationsUptoRow.holds Tryd.pinned (OpenSpec.upto fnExactComposeRelationsSpec)

/-- 'laws.FnExactTensorRelations', WHERE WHAT IT READS IS OF BULK AT MOST 1048576: true; the input reads as it did. -/
def fnExactTensorRelationsUptoRow : OpenClaim := { program := "ytpoghbdomknfcaadoor", sum := "e03221829286861413e51cf8b590ec08a9870f5a03ac71c7ad87619a62ff3529", func := "loop.example/g01073/laws.FnExactTensorRelations", spec := "fnExactTensorRelations", unfollowed := true, recurses := true, named := ["loop.example/g01073/impl.smallPrimes"], apart := false, laid := [("loop.example/g01073/impl.smallPrimes", laid_loop_example_g01073_impl_smallPrimes)], narrowed := true }
def FnExactTensorRelationsUptoSaid : Prop := fnExactTensorRelationsUptoRow.holds Tryd.pinned (OpenSpec.upto fnExactTensorRelationsSpec)

end Rows
end Go.Proofs.YtpoghbdomknfcaaDoor
