/-
  NARROWER THAN 'FOR EVERY INPUT', by the rows' own cells (each row's printed sentence says how): FnExactRowReduce: laid · FnExactRankOf: laid · FnExactInverseOf: laid · FnExactDeterminantOf: laid · FnExactSolveLinear: laid · FnExactKernelOf: laid · FnExactIsSpace: laid · FnExactSpanOf: laid · FnExactMatrixRelation: laid · FnExactRelationFrom: laid · FnExactOrthogonalOf: laid.
  DERIVED. THE GIVEN ROWS OF THIS SEAT. 11 by the template 'for every input the law returns true; each argument reads behind the call as it read before'; 0 by the template 'total and deterministic' (their statements: YtgncgihneemmcaaDoorTotals.lean).
  GIVEN WITH THE SEED: the statements are not yours to turn. If you find one false, say at which input.
  Laid BY PROGRAM, IN A SANDBOX (cutbox-rows.mjs): the forced cells as the released guide's own fill.sh prints them over the translation 036d69ba9be4f56d… (all of the seat's roots in one cut). By AI agents, Wed Nov 11 2026. No macro, syntax, notation, axiom, sorry.
-/
import Derived.Test.YtgncgihneemmcaaDoorChecked
import GoSem.Claim
import GoSem.ClaimJoined
import GoSem.ClaimMapViews
import Derived.JoinedTies
import Derived.KernelRfl
namespace Go.Proofs.YtgncgihneemmcaaDoor
/- THE CELL 'sum', in the pinned program and in every row, IS THE sha256 OF THE DUMP (.gsa) THAT YtgncgihneemmcaaDoorProg.lean LOADS. Nothing in Lean hashes anything: it is a label: what it is worth is what the hold of that sum in a sandbox is worth. -/
noncomputable def Tryd.pinned : Pinned := { name := "ytgncgihneemmcaadoor", sum := "036d69ba9be4f56d879e7150379387f55d14ad400fd6ac66a92b38486f06ffda", checked := Tryd.checked }
namespace Rows
def none {H : Type} : Left H := { results := [], args := [] }

/- WHAT THE LISTED PACKAGE-LEVEL VARIABLES READ AS WHEN THE CALL BEGINS. Each datum BY PROGRAM (the guide's laid-datum.mjs) off the statement by which the dump's own 'gosem.cut.vars' lays the variable. In a bare row this is a premise. The card (YtgncgihneemmcaaDoorCards.lean) ties it to the program's text. -/
def laid_loop_example_g01073_impl_smallPrimes {H : Type} : DataW H := .agg [.lit (.int .i64 2), .lit (.int .i64 3), .lit (.int .i64 5), .lit (.int .i64 7)]

/-- 'laws.FnExactRowReduce': WHATEVER THE INPUT: true; the input reads as it did. -/
def fnExactRowReduceSpec : ChangeSpec := { name := "fnExactRowReduce", vars := ["loop.example/g01073/impl.smallPrimes"], fn := fun _ => fun
  | [d1, d2, g1] => { results := [.lit (.bool true)], args := [d1, d2], vars := [g1] }
  | _ => none }
def fnExactRowReduceRow : OpenClaim := { program := "ytgncgihneemmcaadoor", sum := "036d69ba9be4f56d879e7150379387f55d14ad400fd6ac66a92b38486f06ffda", func := "loop.example/g01073/laws.FnExactRowReduce", spec := "fnExactRowReduce", named := ["loop.example/g01073/impl.smallPrimes"], apart := false, laid := [("loop.example/g01073/impl.smallPrimes", laid_loop_example_g01073_impl_smallPrimes)] }
def FnExactRowReduceSaid : Prop := fnExactRowReduceRow.holds Tryd.pinned (OpenSpec.ofChange fnExactRowReduceSpec)

/-- ITS FALSE NEIGHBOUR: 'it returns false'. Refute it at one input. -/
def fnExactRowReduceWrong : ChangeSpec := { name := "fnExactRowReduce", vars := ["loop.example/g01073/impl.smallPrimes"], fn := fun _ => fun
  | [d1, d2, g1] => { results := [.lit (.bool false)], args := [d1, d2], vars := [g1] }
  | _ => none }
def FnExactRowReduceWrongFalsely : Prop := fnExactRowReduceRow.holds Tryd.pinned (OpenSpec.ofChange fnExactRowReduceWrong)

/-- 'laws.FnExactRankOf': WHATEVER THE INPUT: true; the input reads as it did. -/
def fnExactRankOfSpec : ChangeSpec := { name := "fnExactRankOf", vars := ["loop.example/g01073/impl.smallPrimes"], fn := fun _ => fun
  | [d1, d2, g1] => { results := [.lit (.bool true)], args := [d1, d2], vars := [g1] }
  | _ => none }
def fnExactRankOfRow : OpenClaim := { program := "ytgncgihneemmcaadoor", sum := "036d69ba9be4f56d879e7150379387f55d14ad400fd6ac66a92b38486f06ffda", func := "loop.example/g01073/laws.FnExactRankOf", spec := "fnExactRankOf", named := ["loop.example/g01073/impl.smallPrimes"], apart := false, laid := [("loop.example/g01073/impl.smallPrimes", laid_loop_example_g01073_impl_smallPrimes)] }
def FnExactRankOfSaid : Prop := fnExactRankOfRow.holds Tryd.pinned (OpenSpec.ofChange fnExactRankOfSpec)

/-- ITS FALSE NEIGHBOUR: 'it returns false'. Refute it at one input. -/
def fnExactRankOfWrong : ChangeSpec := { name := "fnExactRankOf", vars := ["loop.example/g01073/impl.smallPrimes"], fn := fun _ => fun
  | [d1, d2, g1] => { results := [.lit (.bool false)], args := [d1, d2], vars := [g1] }
  | _ => none }
def FnExactRankOfWrongFalsely : Prop := fnExactRankOfRow.holds Tryd.pinned (OpenSpec.ofChange fnExactRankOfWrong)

/-- 'laws.FnExactInverseOf': WHATEVER THE INPUT: true; the input reads as it did. -/
def fnExactInverseOfSpec : ChangeSpec := { name := "fnExactInverseOf", vars := ["loop.example/g01073/impl.smallPrimes"], fn := fun _ => fun
  | [d1, d2, g1] => { results := [.lit (.bool true)], args := [d1, d2], vars := [g1] }
  | _ => none }
def fnExactInverseOfRow : OpenClaim := { program := "ytgncgihneemmcaadoor", sum := "036d69ba9be4f56d879e7150379387f55d14ad400fd6ac66a92b38486f06ffda", func := "loop.example/g01073/laws.FnExactInverseOf", spec := "fnExactInverseOf", named := ["loop.example/g01073/impl.smallPrimes"], apart := false, laid := [("loop.example/g01073/impl.smallPrimes", laid_loop_example_g01073_impl_smallPrimes)] }
def FnExactInverseOfSaid : Prop := fnExactInverseOfRow.holds Tryd.pinned (OpenSpec.ofChange fnExactInverseOfSpec)

/-- ITS FALSE NEIGHBOUR: 'it returns false'. Refute it at one input. -/
def fnExactInverseOfWrong : ChangeSpec := { name := "fnExactInverseOf", vars := ["loop.example/g01073/impl.smallPrimes"], fn := fun _ => fun
  | [d1, d2, g1] => { results := [.lit (.bool false)], args := [d1, d2], vars := [g1] }
  | _ => none }
def FnExactInverseOfWrongFalsely : Prop := fnExactInverseOfRow.holds Tryd.pinned (OpenSpec.ofChange fnExactInverseOfWrong)

/-- 'laws.FnExactDeterminantOf': WHATEVER THE INPUT: true; the input reads as it did. -/
def fnExactDeterminantOfSpec : ChangeSpec := { name := "fnExactDeterminantOf", vars := ["loop.example/g01073/impl.smallPrimes"], fn := fun _ => fun
  | [d1, d2, g1] => { results := [.lit (.bool true)], args := [d1, d2], vars := [g1] }
  | _ => none }
def fnExactDeterminantOfRow : OpenClaim := { program := "ytgncgihneemmcaadoor", sum := "036d69ba9be4f56d879e7150379387f55d14ad400fd6ac66a92b38486f06ffda", func := "loop.example/g01073/laws.FnExactDeterminantOf", spec := "fnExactDeterminantOf", named := ["loop.example/g01073/impl.smallPrimes"], apart := false, laid := [("loop.example/g01073/impl.smallPrimes", laid_loop_example_g01073_impl_smallPrimes)] }
def FnExactDeterminantOfSaid : Prop := fnExactDeterminantOfRow.holds Tryd.pinned (OpenSpec.ofChange fnExactDeterminantOfSpec)

/-- ITS FALSE NEIGHBOUR: 'it returns false'. Refute it at one input. -/
def fnExactDeterminantOfWrong : ChangeSpec := { name := "fnExactDeterminantOf", vars := ["loop.example/g01073/impl.smallPrimes"], fn := fun _ => fun
  | [d1, d2, g1] => { results := [.lit (.bool false)], args := [d1, d2], vars := [g1] }
  | _ => none }
def FnExactDeterminantOfWrongFalsely : Prop := fnExactDeterminantOfRow.holds Tryd.pinned (OpenSpec.ofChange fnExactDeterminantOfWrong)

/-- 'laws.FnExactSolveLinear': WHATEVER THE INPUT: true; the input reads as it did. -/
def fnExactSolveLinearSpec : ChangeSpec := { name := "fnExactSolveLinear", vars := ["loop.example/g01073/impl.smallPrimes"], fn := fun _ => fun
  | [d1, d2, d3, g1] => { results := [.lit (.bool true)], args := [d1, d2, d3], vars := [g1] }
  | _ => none }
def fnExactSolveLinearRow : OpenClaim := { program := "ytgncgihneemmcaadoor", sum := "036d69ba9be4f56d879e7150379387f55d14ad400fd6ac66a92b38486f06ffda", func := "loop.example/g01073/laws.FnExactSolveLinear", spec := "fnExactSolveLinear", named := ["loop.example/g01073/impl.smallPrimes"], apart := false, laid := [("loop.example/g01073/impl.smallPrimes", laid_loop_example_g01073_impl_smallPrimes)] }
def FnExactSolveLinearSaid : Prop := fnExactSolveLinearRow.holds Tryd.pinned (OpenSpec.ofChange fnExactSolveLinearSpec)

/-- ITS FALSE NEIGHBOUR: 'it returns false'. Refute it at one input. -/
def fnExactSolveLinearWrong : ChangeSpec := { name := "fnExactSolveLinear", vars := ["loop.example/g01073/impl.smallPrimes"], fn := fun _ => fun
  | [d1, d2, d3, g1] => { results := [.lit (.bool false)], args := [d1, d2, d3], vars := [g1] }
  | _ => none }
def FnExactSolveLinearWrongFalsely : Prop := fnExactSolveLinearRow.holds Tryd.pinned (OpenSpec.ofChange fnExactSolveLinearWrong)

/-- 'laws.FnExactKernelOf': WHATEVER THE INPUT: true; the input reads as it did. -/
def fnExactKernelOfSpec : ChangeSpec := { name := "fnExactKernelOf", vars := ["loop.example/g01073/impl.smallPrimes"], fn := fun _ => fun
  | [d1, d2, g1] => { results := [.lit (.bool true)], args := [d1, d2], vars := [g1] }
  | _ => none }
def fnExactKernelOfRow : OpenClaim := { program := "ytgncgihneemmcaadoor", sum := "036d69ba9be4f56d879e7150379387f55d14ad400fd6ac66a92b38486f06ffda", func := "loop.example/g01073/laws.FnExactKernelOf", spec := "fnExactKernelOf", named := ["loop.example/g01073/impl.smallPrimes"], apart := false, laid := [("loop.example/g01073/impl.smallPrimes", laid_loop_example_g01073_impl_smallPrimes)] }
def FnExactKernelOfSaid : Prop := fnExactKernelOfRow.holds Tryd.pinned (OpenSpec.ofChange fnExactKernelOfSpec)

/-- ITS FALSE NEIGHBOUR: 'it returns false'. Refute it at one input. -/
def fnExactKernelOfWrong : ChangeSpec := { name := "fnExactKernelOf", vars := ["loop.example/g01073/impl.smallPrimes"], fn := fun _ => fun
  | [d1, d2, g1] => { results := [.lit (.bool false)], args := [d1, d2], vars := [g1] }
  | _ => none }
def FnExactKernelOfWrongFalsely : Prop := fnExactKernelOfRow.holds Tryd.pinned (OpenSpec.ofChange fnExactKernelOfWrong)

/-- 'laws.FnExactIsSpace': WHATEVER THE INPUT: true; the input reads as it did. -/
def fnExactIsSpaceSpec : ChangeSpec := { name := "fnExactIsSpace", vars := ["loop.example/g01073/impl.smallPrimes"], fn := fun _ => fun
  | [d1, d2, g1] => { results := [.lit (.bool true)], args := [d1, d2], vars := [g1] }
  | _ => none }
def fnExactIsSpaceRow : OpenClaim := { program := "ytgncgihneemmcaadoor", sum := "036d69ba9be4f56d879e7150379387f55d14ad400fd6ac66a92b38486f06ffda", func := "loop.example/g01073/laws.FnExactIsSpace", spec := "fnExactIsSpace", unfollowed := true, recurses := true, named := ["loop.example/g01073/impl.smallPrimes"], apart := false, laid := [("loop.example/g01073/impl.smallPrimes", laid_loop_example_g01073_impl_smallPrimes)] }
def FnExactIsSpaceSaid : Prop := fnExactIsSpaceRow.holds Tryd.pinned (OpenSpec.ofChange fnExactIsSpaceSpec)

/-- ITS FALSE NEIGHBOUR: 'it returns false'. Refute it at one input. -/
def fnExactIsSpaceWrong : ChangeSpec := { name := "fnExactIsSpace", vars := ["loop.example/g01073/impl.smallPrimes"], fn := fun _ => fun
  | [d1, d2, g1] => { results := [.lit (.bool false)], args := [d1, d2], vars := [g1] }
  | _ => none }
def FnExactIsSpaceWrongFalsely : Prop := fnExactIsSpaceRow.holds Tryd.pinned (OpenSpec.ofChange fnExactIsSpaceWrong)

/-- 'laws.FnExactSpanOf': WHATEVER THE INPUT: true; the input reads as it did. -/
def fnExactSpanOfSpec : ChangeSpec := { name := "fnExactSpanOf", vars := ["loop.example/g01073/impl.smallPrimes"], fn := fun _ => fun
  | [d1, d2, d3, g1] => { results := [.lit (.bool true)], args := [d1, d2, d3], vars := [g1] }
  | _ => none }
def fnExactSpanOfRow : OpenClaim := { program := "ytgncgihneemmcaadoor", sum := "036d69ba9be4f56d879e7150379387f55d14ad400fd6ac66a92b38486f06ffda", func := "loop.example/g01073/laws.FnExactSpanOf", spec := "fnExactSpanOf", named := ["loop.example/g01073/impl.smallPrimes"], apart := false, laid := [("loop.example/g01073/impl.smallPrimes", laid_loop_example_g01073_impl_smallPrimes)] }
def FnExactSpanOfSaid : Prop := fnExactSpanOfRow.holds Tryd.pinned (OpenSpec.ofChange fnExactSpanOfSpec)

/-- ITS FALSE NEIGHBOUR: 'it returns false'. Refute it at one input. -/
def fnExactSpanOfWrong : ChangeSpec := { name := "fnExactSpanOf", vars := ["loop.example/g01073/impl.smallPrimes"], fn := fun _ => fun
  | [d1, d2, d3, g1] => { results := [.lit (.bool false)], args := [d1, d2, d3], vars := [g1] }
  | _ => none }
def FnExactSpanOfWrongFalsely : Prop := fnExactSpanOfRow.holds Tryd.pinned (OpenSpec.ofChange fnExactSpanOfWrong)

/-- 'laws.FnExactMatrixRelation': WHATEVER THE INPUT: true; the input reads as it did. -/
def fnExactMatrixRelationSpec : ChangeSpec := { name := "fnExactMatrixRelation", vars := ["loop.example/g01073/impl.smallPrimes"], fn := fun _ => fun
  | [d1, d2, g1] => { results := [.lit (.bool true)], args := [d1, d2], vars := [g1] }
  | _ => none }
def fnExactMatrixRelationRow : OpenClaim := { program := "ytgncgihneemmcaadoor", sum := "036d69ba9be4f56d879e7150379387f55d14ad400fd6ac66a92b38486f06ffda", func := "loop.example/g01073/laws.FnExactMatrixRelation", spec := "fnExactMatrixRelation", named := ["loop.example/g01073/impl.smallPrimes"], apart := false, laid := [("loop.example/g01073/impl.smallPrimes", laid_loop_example_g01073_impl_smallPrimes)] }
def FnExactMatrixRelationSaid : Prop := fnExactMatrixRelationRow.holds Tryd.pinned (OpenSpec.ofChange fnExactMatrixRelationSpec)

/-- ITS FALSE NEIGHBOUR: 'it returns false'. Refute it at one input. -/
def fnExactMatrixRelationWrong : ChangeSpec := { name := "fnExactMatrixRelation", vars := ["loop.example/g01073/impl.smallPrimes"], fn := fun _ => fun
  | [d1, d2, g1] => { results := [.lit (.bool false)], args := [d1, d2], vars := [g1] }
  | _ => none }
def FnExactMatrixRelationWrongFalsely : Prop := fnExactMatrixRelationRow.holds Tryd.pinned (OpenSpec.ofChange fnExactMatrixRelationWrong)

/-- 'laws.FnExactRelationFrom': WHATEVER THE INPUT: true; the input reads as it did. -/
def fnExactRelationFromSpec : ChangeSpec := { name := "fnExactRelationFrom", vars := ["loop.example/g01073/impl.smallPrimes"], fn := fun _ => fun
  | [d1, d2, d3, d4, g1] => { results := [.lit (.bool true)], args := [d1, d2, d3, d4], vars := [g1] }
  | _ => none }
def fnExactRelationFromRow : OpenClaim := { program := "ytgncgihneemmcaadoor", sum := "036d69ba9be4f56d879e7150379387f55d14ad400fd6ac66a92b38486f06ffda", func := "loop.example/g01073/laws.FnExactRelationFrom", spec := "fnExactRelationFrom", named := ["loop.example/g01073/impl.smallPrimes"], apart := false, laid := [("loop.example/g01073/impl.smallPrimes", laid_loop_example_g01073_impl_smallPrimes)] }
def FnExactRelationFromSaid : Prop := fnExactRelationFromRow.holds Tryd.pinned (OpenSpec.ofChange fnExactRelationFromSpec)

/-- ITS FALSE NEIGHBOUR: 'it returns false'. Refute it at one input. -/
def fnExactRelationFromWrong : ChangeSpec := { name := "fnExactRelationFrom", vars := ["loop.example/g01073/impl.smallPrimes"], fn := fun _ => fun
  | [d1, d2, d3, d4, g1] => { results := [.lit (.bool false)], args := [d1, d2, d3, d4], vars := [g1] }
  | _ => none }
def FnExactRelationFromWrongFalsely : Prop := fnExactRelationFromRow.holds Tryd.pinned (OpenSpec.ofChange fnExactRelationFromWrong)

/-- 'laws.FnExactOrthogonalOf': WHATEVER THE INPUT: true; the input reads as it did. -/
def fnExactOrthogonalOfSpec : ChangeSpec := { name := "fnExactOrthogonalOf", vars := ["loop.example/g01073/impl.smallPrimes"], fn := fun _ => fun
  | [d1, d2, g1] => { results := [.lit (.bool true)], args := [d1, d2], vars := [g1] }
  | _ => none }
def fnExactOrthogonalOfRow : OpenClaim := { program := "ytgncgihneemmcaadoor", sum := "036d69ba9be4f56d879e7150379387f55d14ad400fd6ac66a92b38486f06ffda", func := "loop.example/g01073/laws.FnExactOrthogonalOf", spec := "fnExactOrthogonalOf", unfollowed := true, recurses := true, named := ["loop.example/g01073/impl.smallPrimes"], apart := false, laid := [("loop.example/g01073/impl.smallPrimes", laid_loop_example_g01073_impl_smallPrimes)] }
def FnExactOrthogonalOfSaid : Prop := fnExactOrthogonalOfRow.holds Tryd.pinned (OpenSpec.ofChange fnExactOrthogonalOfSpec)

/-- ITS FALSE NEIGHBOUR: 'it returns false'. Refute it at one input. -/
def fnExactOrthogonalOfWrong : ChangeSpec := { name := "fnExactOrthogonalOf", vars := ["loop.example/g01073/impl.smallPrimes"], fn := fun _ => fun
  | [d1, d2, g1] => { results := [.lit (.bool false)], args := [d1, d2], vars := [g1] }
  | _ => none }
def FnExactOrthogonalOfWrongFalsely : Prop := fnExactOrthogonalOfRow.holds Tryd.pinned (OpenSpec.ofChange fnExactOrthogonalOfWrong)

/- THE SECOND FORM. 'bulk': how many values and letters a reading holds, each counted each time it is reached (what is shared counts as often as it is met; a slice's spare places count too). A statement '..UptoSaid' is the law's where the arguments, and the package variables that the reading takes, are together of bulk at most 1048576: NARROWER than '..Said'. Prove '..Said' where nothing that the law and all that it calls make is longer than what came in: it says more and counts as full. Else prove '..UptoSaid'. A law counts once. -/
mutual
def uptoBulk {H : Type} : DataW H → Nat
  | .lit (.string bytes) => bytes.length + 1
  | .lit _ => 1
  | .nil => 1
  | .ptr d => uptoBulk d + 1
  | .slice elems spare => uptoBulkAll elems + uptoBulkAll spare + 1
  | .agg parts => uptoBulkAll parts + 1
  | .iface _ d => uptoBulk d + 1
  | .map entries => uptoBulkEntries entries + 1
  | .held _ => 1
def uptoBulkAll {H : Type} : List (DataW H) → Nat
  | [] => 0
  | d :: r => uptoBulk d + uptoBulkAll r
def uptoBulkEntries {H : Type} : List (Lit × DataW H) → Nat
  | [] => 0
  | x :: r => uptoBulkEntry x + uptoBulkEntries r
def uptoBulkEntry {H : Type} : Lit × DataW H → Nat
  | (.string bytes, d) => bytes.length + uptoBulk d + 1
  | (_, d) => uptoBulk d + 1
 end
def uptoSmall : (H : Type) → List (DataW H) → Bool := fun _ ds => decide (uptoBulkAll ds ≤ 1048576)
def OpenSpec.upto (s : _root_.Go.ChangeSpec) : _root_.Go.OpenSpec := { _root_.Go.OpenSpec.ofChange s with cond := some uptoSmall }

/-- 'laws.FnExactRowReduce', WHERE WHAT IT READS IS OF BULK AT MOST 1048576: true; the input reads as it did. -/
def fnExactRowReduceUptoRow : OpenClaim := { program := "ytgncgihneemmcaadoor", sum := "036d69ba9be4f56d879e7150379387f55d14ad400fd6ac66a92b38486f06ffda", func := "loop.example/g01073/laws.FnExactRowReduce", spec := "fnExactRowReduce", named := ["loop.example/g01073/impl.smallPrimes"], apart := false, laid := [("loop.example/g01073/impl.smallPrimes", laid_loop_example_g01073_impl_smallPrimes)], narrowed := true }
def FnExactRowReduceUptoSaid : Prop := fnExactRowReduceUptoRow.holds Tryd.pinned (OpenSpec.upto fnExactRowReduceSpec)

/-- 'laws.FnExactRankOf', WHERE WHAT IT READS IS OF BULK AT MOST 1048576: true; the input reads as it did. -/
def fnExactRankOfUptoRow : OpenClaim := { program := "ytgncgihneemmcaadoor", sum := "036d69ba9be4f56d879e7150379387f55d14ad400fd6ac66a92b38486f06ffda", func := "loop.example/g01073/laws.FnExactRankOf", spec := "fnExactRankOf", named := ["loop.example/g01073/impl.smallPrimes"], apart := false, laid := [("loop.example/g01073/impl.smallPrimes", laid_loop_example_g01073_impl_smallPrimes)], narrowed := true }
def FnExactRankOfUptoSaid : Prop := fnExactRankOfUptoRow.holds Tryd.pinned (OpenSpec.upto fnExactRankOfSpec)

/-- 'laws.FnExactInverseOf', WHERE WHAT IT READS IS OF BULK AT MOST 1048576: true; the input reads as it did. -/
def fnExactInverseOfUptoRow : OpenClaim := { program := "ytgncgihneemmcaadoor", sum := "036d69ba9be4f56d879e7150379387f55d14ad400fd6ac66a92b38486f06ffda", func := "loop.example/g01073/laws.FnExactInverseOf", spec := "fnExactInverseOf", named := ["loop.example/g01073/impl.smallPrimes"], apart := false, laid := [("loop.example/g01073/impl.smallPrimes", laid_loop_example_g01073_impl_smallPrimes)], narrowed := true }
def FnExactInverseOfUptoSaid : Prop := fnExactInverseOfUptoRow.holds Tryd.pinned (OpenSpec.upto fnExactInverseOfSpec)

/-- 'laws.FnExactDeterminantOf', WHERE WHAT IT READS IS OF BULK AT MOST 1048576: true; the input reads as it did. -/
def fnExactDeterminantOfUptoRow : OpenClaim := { program := "ytgncgihneemmcaadoor", sum := "036d69ba9be4f56d879e7150379387f55d14ad400fd6ac66a92b38486f06ffda", func := "loop.example/g01073/laws.FnExactDeterminantOf", spec := "fnExactDeterminantOf", named := ["loop.example/g01073/impl.smallPrimes"], apart := false, laid := [("loop.example/g01073/impl.smallPrimes", laid_loop_example_g01073_impl_smallPrimes)], narrowed := true }
def FnExactDeterminantOfUptoSaid : Prop := fnExactDeterminantOfUptoRow.holds Tryd.pinned (OpenSpec.upto fnExactDeterminantOfSpec)

/-- 'laws.FnExactSolveLinear', WHERE WHAT IT READS IS OF BULK AT MOST 1048576: true; the input reads as it did. -/
def fnExactSolveLinearUptoRow : OpenClaim := { program := "ytgncgihneemmcaadoor", sum := "036d69ba9be4f56d879e7150379387f55d14ad400fd6ac66a92b38486f06ffda", func := "loop.example/g01073/laws.FnExactSolveLinear", spec := "fnExactSolveLinear", named := ["loop.example/g01073/impl.smallPrimes"], apart := false, laid := [("loop.example/g01073/impl.smallPrimes", laid_loop_example_g01073_impl_smallPrimes)], narrowed := true }
def FnExactSolveLinearUptoSaid : Prop := fnExactSolveLinearUptoRow.holds Tryd.pinned (OpenSpec.upto fnExactSolveLinearSpec)

/-- 'laws.FnExactKernelOf', WHERE WHAT IT READS IS OF BULK AT MOST 1048576: true; the input reads as it did. -/
def fnExactKernelOfUptoRow : OpenClaim := { program := "ytgncgihneemmcaadoor", sum := "036d69ba9be4f56d879e7150379387f55d14ad400fd6ac66a92b38486f06ffda", func := "loop.example/g01073/laws.FnExactKernelOf", spec := "fnExactKernelOf", named := ["loop.example/g01073/impl.smallPrimes"], apart := false, laid := [("loop.example/g01073/impl.smallPrimes", laid_loop_example_g01073_impl_smallPrimes)], narrowed := true }
def FnExactKernelOfUptoSaid : Prop := fnExactKernelOfUptoRow.holds Tryd.pinned (OpenSpec.upto fnExactKernelOfSpec)

/-- 'laws.FnExactIsSpace', WHERE WHAT IT READS IS OF BULK AT MOST 1048576: true; the input reads as it did. -/
def fnExactIsSpaceUptoRow : OpenClaim := { program := "ytgncgihneemmcaadoor", sum := "036d69ba9be4f56d879e7150379387f55d14ad400fd6ac66a92b38486f06ffda", func := "loop.example/g01073/laws.FnExactIsSpace", spec := "fnExactIsSpace", unfollowed := true, recurses := true, named := ["loop.example/g01073/impl.smallPrimes"], apart := false, laid := [("loop.example/g01073/impl.smallPrimes", laid_loop_example_g01073_impl_smallPrimes)], narrowed := true }
def FnExactIsSpaceUptoSaid : Prop := fnExactIsSpaceUptoRow.holds Tryd.pinned (OpenSpec.upto fnExactIsSpaceSpec)

/-- 'laws.FnExactSpanOf', WHERE WHAT IT READS IS OF BULK AT MOST 1048576: true; the input reads as it did. -/
def fnExactSpanOfUptoRow : OpenClaim := { program := "ytgncgihneemmcaadoor", sum := "036d69ba9be4f56d879e7150379387f55d14ad400fd6ac66a92b38486f06ffda", func := "loop.example/g01073/laws.FnExactSpanOf", spec := "fnExactSpanOf", named := ["loop.example/g01073/impl.smallPrimes"], apart := false, laid := [("loop.example/g01073/impl.smallPrimes", laid_loop_example_g01073_impl_smallPrimes)], narrowed := true }
def FnExactSpanOfUptoSaid : Prop := fnExactSpanOfUptoRow.holds Tryd.pinned (OpenSpec.upto fnExactSpanOfSpec)

/-- 'laws.FnExactMatrixRelation', WHERE WHAT IT READS IS OF BULK AT MOST 1048576: true; the input reads as it did. -/
def fnExactMatrixRelationUptoRow : OpenClaim := { program := "ytgncgihneemmcaadoor", sum := "036d69ba9be4f56d879e7150379387f55d14ad400fd6ac66a92b38486f06ffda", func := "loop.example/g01073/laws.FnExactMatrixRelation", spec := "fnExactMatrixRelation", named := ["loop.example/g01073/impl.smallPrimes"], apart := false, laid := [("loop.example/g01073/impl.smallPrimes", laid_loop_example_g01073_impl_smallPrimes)], narrowed := true }
def FnExactMatrixRelationUptoSaid : Prop := fnExactMatrixRelationUptoRow.holds Tryd.pinned (OpenSpec.upto fnExactMatrixRelationSpec)

/-- 'laws.FnExactRelationFrom', WHERE WHAT IT READS IS OF BULK AT MOST 1048576: true; the input reads as it did. -/
def fnExactRelationFromUptoRow : OpenClaim := { program := "ytgncgihneemmcaadoor", sum := "036d69ba9be4f56d879e7150379387f55d14ad400fd6ac66a92b38486f06ffda", func := "loop.example/g01073/laws.FnExactRelationFrom", spec := "fnExactRelationFrom", named := ["loop.example/g01073/impl.smallPrimes"], apart := false, laid := [("loop.example/g01073/impl.smallPrimes", laid_loop_example_g01073_impl_smallPrimes)], narrowed := true }
def FnExactRelationFromUptoSaid : Prop := fnExactRelationFromUptoRow.holds Tryd.pinned (OpenSpec.upto fnExactRelationFromSpec)

/-- 'laws.FnExactOrthogonalOf', WHERE WHAT IT READS IS OF BULK AT MOST 1048576: true; the input reads as it did. -/
def fnExactOrthogonalOfUptoRow : OpenClaim := { program := "ytgncgihneemmcaadoor", sum := "036d69ba9be4f56d879e7150379387f55d14ad400fd6ac66a92b38486f06ffda", func := "loop.example/g01073/laws.FnExactOrthogonalOf", spec := "fnExactOrthogonalOf", unfollowed := true, recurses := true, named := ["loop.example/g01073/impl.smallPrimes"], apart := false, laid := [("loop.example/g01073/impl.smallPrimes", laid_loop_example_g01073_impl_smallPrimes)], narrowed := true }
def FnExactOrthogonalOfUptoSaid : Prop := fnExactOrthogonalOfUptoRow.holds Tryd.pinned (OpenSpec.upto fnExactOrthogonalOfSpec)

end Rows
end Go.Proofs.YtgncgihneemmcaaDoor
