/-
  NARROWER THAN 'FOR EVERY INPUT', by the rows' own cells (each row's printed sentence says how): FnExactOrthogonalRelation: laid · FnExactTensorRelations: laid · FnExactComposeRelations: laid · FnExactFunctionOf: laid · FnExactSolveLinear: laid.
  DERIVED. THE GIVEN ROWS OF THIS SEAT. 5 by the template 'for every input the law returns true; each argument reads behind the call as it read before'; 0 by the template 'total and deterministic' (their statements: YtiiloioobmkicaaDoorTotals.lean).
  GIVEN WITH THE SEED: the statements are not yours to turn. If you find one false, say at which input.
  Laid BY PROGRAM, IN A SANDBOX (cutbox-rows.mjs): the forced cells as the released guide's own fill.sh prints them over the translation 65cc3743e4ea74e2… (all of the seat's roots in one cut). By AI agents, Wed Nov 11 2026. No macro, syntax, notation, axiom, sorry.
-/
import Derived.Test.YtiiloioobmkicaaDoorChecked
import GoSem.Claim
import GoSem.ClaimJoined
import GoSem.ClaimMapViews
import Derived.JoinedTies
import Derived.KernelRfl
namespace Go.Proofs.YtiiloioobmkicaaDoor
/- THE CELL 'sum', in the pinned program and in every row, IS THE sha256 OF THE DUMP (.gsa) THAT YtiiloioobmkicaaDoorProg.lean LOADS. Nothing in Lean hashes anything: it is a label: what it is worth is what the hold of that sum in a sandbox is worth. -/
noncomputable def Tryd.pinned : Pinned := { name := "ytiiloioobmkicaadoor", sum := "65cc3743e4ea74e23557a1766cc290f89de87d05969648d3a5ac2f4c79c25310", checked := Tryd.checked }
namespace Rows
def none {H : Type} : Left H := { results := [], args := [] }

/- WHAT THE LISTED PACKAGE-LEVEL VARIABLES READ AS WHEN THE CALL BEGINS. Each datum BY PROGRAM (the guide's laid-datum.mjs) off the statement by which the dump's own 'gosem.cut.vars' lays the variable. In a bare row this is a premise. The card (YtiiloioobmkicaaDoorCards.lean) ties it to the program's text. -/
def laid_loop_example_g01073_impl_smallPrimes {H : Type} : DataW H := .agg [.lit (.int .i64 2), .lit (.int .i64 3), .lit (.int .i64 5), .lit (.int .i64 7)]

/-- 'laws.FnExactOrthogonalRelation': WHATEVER THE INPUT: true; the input reads as it did. -/
def fnExactOrthogonalRelationSpec : ChangeSpec := { name := "fnExactOrthogonalRelation", vars := ["loop.example/g01073/impl.smallPrimes"], fn := fun _ => fun
  | [d1, d2, g1] => { results := [.lit (.bool true)], args := [d1, d2], vars := [g1] }
  | _ => none }
def fnExactOrthogonalRelationRow : OpenClaim := { program := "ytiiloioobmkicaadoor", sum := "65cc3743e4ea74e23557a1766cc290f89de87d05969648d3a5ac2f4c79c25310", func := "loop.example/g01073/laws.FnExactOrthogonalRelation", spec := "fnExactOrthogonalRelation", unfollowed := true, recurses := true, named := ["loop.example/g01073/impl.smallPrimes"], apart := false, laid := [("loop.example/g01073/impl.smallPrimes", laid_loop_example_g01073_impl_smallPrimes)] }
def FnExactOrthogonalRelationSaid : Prop := fnExactOrthogonalRelationRow.holds Tryd.pinned (OpenSpec.ofChange fnExactOrthogonalRelationSpec)

/-- ITS FALSE NEIGHBOUR: 'it returns false'. Refute it at one input. -/
def fnExactOrthogonalRelationWrong : ChangeSpec := { name := "fnExactOrthogonalRelation", vars := ["loop.example/g01073/impl.smallPrimes"], fn := fun _ => fun
  | [d1, d2, g1] => { results := [.lit (.bool false)], args := [d1, d2], vars := [g1] }
  | _ => none }
def FnExactOrthogonalRelationWrongFalsely : Prop := fnExactOrthogonalRelationRow.holds Tryd.pinned (OpenSpec.ofChange fnExactOrthogonalRelationWrong)

/-- 'laws.FnExactTensorRelations': WHATEVER THE INPUT: true; the input reads as it did. -/
def fnExactTensorRelationsSpec : ChangeSpec := { name := "fnExactTensorRelations", vars := ["loop.example/g01073/impl.smallPrimes"], fn := fun _ => fun
  | [d1, d2, d3, g1] => { results := [.lit (.bool true)], args := [d1, d2, d3], vars := [g1] }
  | _ => none }
def fnExactTensorRelationsRow : OpenClaim := { program := "ytiiloioobmkicaadoor", sum := "65cc3743e4ea74e23557a1766cc290f89de87d05969648d3a5ac2f4c79c25310", func := "loop.example/g01073/laws.FnExactTensorRelations", spec := "fnExactTensorRelations", unfollowed := true, recurses := true, named := ["loop.example/g01073/impl.smallPrimes"], apart := false, laid := [("loop.example/g01073/impl.smallPrimes", laid_loop_example_g01073_impl_smallPrimes)] }
def FnExactTensorRelationsSaid : Prop := fnExactTensorRelationsRow.holds Tryd.pinned (OpenSpec.ofChange fnExactTensorRelationsSpec)

/-- ITS FALSE NEIGHBOUR: 'it returns false'. Refute it at one input. -/
def fnExactTensorRelationsWrong : ChangeSpec := { name := "fnExactTensorRelations", vars := ["loop.example/g01073/impl.smallPrimes"], fn := fun _ => fun
  | [d1, d2, d3, g1] => { results := [.lit (.bool false)], args := [d1, d2, d3], vars := [g1] }
  | _ => none }
def FnExactTensorRelationsWrongFalsely : Prop := fnExactTensorRelationsRow.holds Tryd.pinned (OpenSpec.ofChange fnExactTensorRelationsWrong)

/-- 'laws.FnExactComposeRelations': WHATEVER THE INPUT: true; the input reads as it did. -/
def fnExactComposeRelationsSpec : ChangeSpec := { name := "fnExactComposeRelations", vars := ["loop.example/g01073/impl.smallPrimes"], fn := fun _ => fun
  | [d1, d2, d3, g1] => { results := [.lit (.bool true)], args := [d1, d2, d3], vars := [g1] }
  | _ => none }
def fnExactComposeRelationsRow : OpenClaim := { program := "ytiiloioobmkicaadoor", sum := "65cc3743e4ea74e23557a1766cc290f89de87d05969648d3a5ac2f4c79c25310", func := "loop.example/g01073/laws.FnExactComposeRelations", spec := "fnExactComposeRelations", unfollowed := true, recurses := true, named := ["loop.example/g01073/impl.smallPrimes"], apart := false, laid := [("loop.example/g01073/impl.smallPrimes", laid_loop_example_g01073_impl_smallPrimes)] }
def FnExactComposeRelationsSaid : Prop := fnExactComposeRelationsRow.holds Tryd.pinned (OpenSpec.ofChange fnExactComposeRelationsSpec)

/-- ITS FALSE NEIGHBOUR: 'it returns false'. Refute it at one input. -/
def fnExactComposeRelationsWrong : ChangeSpec := { name := "fnExactComposeRelations", vars := ["loop.example/g01073/impl.smallPrimes"], fn := fun _ => fun
  | [d1, d2, d3, g1] => { results := [.lit (.bool false)], args := [d1, d2, d3], vars := [g1] }
  | _ => none }
def FnExactComposeRelationsWrongFalsely : Prop := fnExactComposeRelationsRow.holds Tryd.pinned (OpenSpec.ofChange fnExactComposeRelationsWrong)

/-- 'laws.FnExactFunctionOf': WHATEVER THE INPUT: true; the input reads as it did. -/
def fnExactFunctionOfSpec : ChangeSpec := { name := "fnExactFunctionOf", vars := ["loop.example/g01073/impl.smallPrimes"], fn := fun _ => fun
  | [d1, d2, g1] => { results := [.lit (.bool true)], args := [d1, d2], vars := [g1] }
  | _ => none }
def fnExactFunctionOfRow : OpenClaim := { program := "ytiiloioobmkicaadoor", sum := "65cc3743e4ea74e23557a1766cc290f89de87d05969648d3a5ac2f4c79c25310", func := "loop.example/g01073/laws.FnExactFunctionOf", spec := "fnExactFunctionOf", unfollowed := true, recurses := true, named := ["loop.example/g01073/impl.smallPrimes"], apart := false, laid := [("loop.example/g01073/impl.smallPrimes", laid_loop_example_g01073_impl_smallPrimes)] }
def FnExactFunctionOfSaid : Prop := fnExactFunctionOfRow.holds Tryd.pinned (OpenSpec.ofChange fnExactFunctionOfSpec)

/-- ITS FALSE NEIGHBOUR: 'it returns false'. Refute it at one input. -/
def fnExactFunctionOfWrong : ChangeSpec := { name := "fnExactFunctionOf", vars := ["loop.example/g01073/impl.smallPrimes"], fn := fun _ => fun
  | [d1, d2, g1] => { results := [.lit (.bool false)], args := [d1, d2], vars := [g1] }
  | _ => none }
def FnExactFunctionOfWrongFalsely : Prop := fnExactFunctionOfRow.holds Tryd.pinned (OpenSpec.ofChange fnExactFunctionOfWrong)

/-- 'laws.FnExactSolveLinear': WHATEVER THE INPUT: true; the input reads as it did. -/
def fnExactSolveLinearSpec : ChangeSpec := { name := "fnExactSolveLinear", vars := ["loop.example/g01073/impl.smallPrimes"], fn := fun _ => fun
  | [d1, d2, d3, g1] => { results := [.lit (.bool true)], args := [d1, d2, d3], vars := [g1] }
  | _ => none }
def fnExactSolveLinearRow : OpenClaim := { program := "ytiiloioobmkicaadoor", sum := "65cc3743e4ea74e23557a1766cc290f89de87d05969648d3a5ac2f4c79c25310", func := "loop.example/g01073/laws.FnExactSolveLinear", spec := "fnExactSolveLinear", named := ["loop.example/g01073/impl.smallPrimes"], apart := false, laid := [("loop.example/g01073/impl.smallPrimes", laid_loop_example_g01073_impl_smallPrimes)] }
def FnExactSolveLinearSaid : Prop := fnExactSolveLinearRow.holds Tryd.pinned (OpenSpec.ofChange fnExactSolveLinearSpec)

/-- ITS FALSE NEIGHBOUR: 'it returns false'. Refute it at one input. -/
def fnExactSolveLinearWrong : ChangeSpec := { name := "fnExactSolveLinear", vars := ["loop.example/g01073/impl.smallPrimes"], fn := fun _ => fun
  | [d1, d2, d3, g1] => { results := [.lit (.bool false)], args := [d1, d2, d3], vars := [g1] }
  | _ => none }
def FnExactSolveLinearWrongFalsely : Prop := fnExactSolveLinearRow.holds Tryd.pinned (OpenSpec.ofChange fnExactSolveLinearWrong)

/- THE SECOND FORM. 'bulk': how many values and letters a reading holds, each counted each time it is reached (what is shared counts as often as it is met; a slice's spare places count too). A statement '..UptoSaid' is the law's where the arguments, and the package variables that the reading takes, are together of bulk at most 1048576: NARROWER than '..Said'. Prove '..Said' where nothing that the law and all that it calls make is longer than what came in: it says more and counts as full. Else prove '..UptoSaid'. A law counts once. -/
mutual
def uptoBulk {H : Type} : DataW H → Nat
  | .lit (.string bytes) => bytes.length + 1
  | .lit _ => 1
  | .nil => 1
  | .ptr d => uptoBulk d + 1
  | .slice elems spare => uptoBulkAll elems + uptoBulkAll spare + 1
  | .agg parts => uptoBulkAll parts + 1
  | .iface _ d => uptoBulk d + 1
  | .map entries => uptoBulkEntries entries + 1
  | .held _ => 1
def uptoBulkAll {H : Type} : List (DataW H) → Nat
  | [] => 0
  | d :: r => uptoBulk d + uptoBulkAll r
def uptoBulkEntries {H : Type} : List (Lit × DataW H) → Nat
  | [] => 0
  | x :: r => uptoBulkEntry x + uptoBulkEntries r
def uptoBulkEntry {H : Type} : Lit × DataW H → Nat
  | (.string bytes, d) => bytes.length + uptoBulk d + 1
  | (_, d) => uptoBulk d + 1
 end
def uptoSmall : (H : Type) → List (DataW H) → Bool := fun _ ds => decide (uptoBulkAll ds ≤ 1048576)
def OpenSpec.upto (s : _root_.Go.ChangeSpec) : _root_.Go.OpenSpec := { _root_.Go.OpenSpec.ofChange s with cond := some uptoSmall }

/-- 'laws.FnExactOrthogonalRelation', WHERE WHAT IT READS IS OF BULK AT MOST 1048576: true; the input reads as it did. -/
def fnExactOrthogonalRelationUptoRow : OpenClaim := { program := "ytiiloioobmkicaadoor", sum := "65cc3743e4ea74e23557a1766cc290f89de87d05969648d3a5ac2f4c79c25310", func := "loop.example/g01073/laws.FnExactOrthogonalRelation", spec := "fnExactOrthogonalRelation", unfollowed := true, recurses := true, named := ["loop.example/g01073/impl.smallPrimes"], apart := false, laid := [("loop.example/g01073/impl.smallPrimes", laid_loop_example_g01073_impl_smallPrimes)], narrowed := true }
def FnExactOrthogonalRelationUptoSaid : Prop := fnExactOrthogonalRelationUptoRow.holds Tryd.pinned (OpenSpec.upto fnExactOrthogonalRelationSpec)

/-- 'laws.FnExactTensorRelations', WHERE WHAT IT READS IS OF BULK AT MOST 1048576: true; the input reads as it did. -/
def fnExactTensorRelationsUptoRow : OpenClaim := { program := "ytiiloioobmkicaadoor", sum := "65cc3743e4ea74e23557a1766cc290f89de87d05969648d3a5ac2f4c79c25310", func := "loop.example/g01073/laws.FnExactTensorRelations", spec := "fnExactTensorRelations", unfollowed := true, recurses := true, named := ["loop.example/g01073/impl.smallPrimes"], apart := false, laid := [("loop.example/g01073/impl.smallPrimes", laid_loop_example_g01073_impl_smallPrimes)], narrowed := true }
def FnExactTensorRelationsUptoSaid : Prop := fnExactTensorRelationsUptoRow.holds Tryd.pinned (OpenSpec.upto fnExactTensorRelationsSpec)

/-- 'laws.FnExactComposeRelations', WHERE WHAT IT READS IS OF BULK AT MOST 1048576: true; the input reads as it did. -/
def fnExactComposeRelationsUptoRow : OpenClaim := { program := "ytiiloioobmkicaadoor", sum := "65cc3743e4ea74e23557a1766cc290f89de87d05969648d3a5ac2f4c79c25310", func := "loop.example/g01073/laws.FnExactComposeRelations", spec := "fnExactComposeRelations", unfollowed := true, recurses := true, named := ["loop.example/g01073/impl.smallPrimes"], apart := false, laid := [("loop.example/g01073/impl.smallPrimes", laid_loop_example_g01073_impl_smallPrimes)], narrowed := true }
def FnExactComposeRelationsUptoSaid : Prop := fnExactComposeRelationsUptoRow.holds Tryd.pinned (OpenSpec.upto fnExactComposeRelationsSpec)

/-- 'laws.FnExactFunctionOf', WHERE WHAT IT READS IS OF BULK AT MOST 1048576: true; the input reads as it did. -/
def fnExactFunctionOfUptoRow : OpenClaim := { program := "ytiiloioobmkicaadoor", sum := "65cc3743e4ea74e23557a1766cc290f89de87d05969648d3a5ac2f4c79c25310", func := "loop.example/g01073/laws.FnExactFunctionOf", spec := "fnExactFunctionOf", unfollowed := true, recurses := true, named := ["loop.example/g01073/impl.smallPrimes"], apart := false, laid := [("loop.example/g01073/impl.smallPrimes", laid_loop_example_g01073_impl_smallPrimes)], narrowed := true }
def FnExactFunctionOfUptoSaid : Prop := fnExactFunctionOfUptoRow.holds Tryd.pinned (OpenSpec.upto fnExactFunctionOfSpec)

/-- 'laws.FnExactSolveLinear', WHERE WHAT IT READS IS OF BULK AT MOST 1048576: true; the input reads as it did. -/
def fnExactSolveLinearUptoRow : OpenClaim := { program := "ytiiloioobmkicaadoor", sum := "65cc3743e4ea74e23557a1766cc290f89de87d05969648d3a5ac2f4c79c25310", func := "loop.example/g01073/laws.FnExactSolveLinear", spec := "fnExactSolveLinear", named := ["loop.example/g01073/impl.smallPrimes"], apart := false, laid := [("loop.example/g01073/impl.smallPrimes", laid_loop_example_g01073_impl_smallPrimes)], narrowed := true }
def FnExactSolveLinearUptoSaid : Prop := fnExactSolveLinearUptoRow.holds Tryd.pinned (OpenSpec.upto fnExactSolveLinearSpec)

end Rows
end Go.Proofs.YtiiloioobmkicaaDoor
