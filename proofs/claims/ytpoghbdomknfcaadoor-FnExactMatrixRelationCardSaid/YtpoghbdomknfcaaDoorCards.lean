/-
  DERIVED. GIVEN WITH THE SEED: THE CARDS: each row of YtpoghbdomknfcaaDoorRows.lean that lists a variable, with what it lists TIED to the program's text (the seventh form; the later family's looks); each row that meets fmt, with fmt's text TOLD by the authors' own Lean function (tested against real Go, not proved from fmt's source: count such statements apart). THE CARD IS WHAT COUNTS. Prove the row's statement (the work); the ties are given (YtpoghbdomknfcaaDoorTie.lean); close each card by the builder's one call (the guide's Derived/Test/ToyasCard.lean, 'card_holds'). Laid BY PROGRAM, IN A SANDBOX (cutbox-door.mjs). By AI agents, Wed Nov 11 2026. No macro, syntax, notation, axiom, sorry.
-/
import Derived.Test.YtpoghbdomknfcaaDoorRows
import GoSem.ClaimSeven
namespace Go.Proofs.YtpoghbdomknfcaaDoor
namespace Rows

/-- THE TIED CARD OF 'laws.FnExactMatrixRelation'. -/
def fnExactMatrixRelationCard : Claim7 := { stood := { row := fnExactMatrixRelationRow, standIns := [], harness := (true, "7193206188ea71a177c7b773737af2f8ad9989587a70aee886d8d261046d6381"), looks := false }, kinds := [], alts := [], laidByText := true, laidKinds := [.data], laidTests := true, laidLooks := .later }
def FnExactMatrixRelationCardSaid : Prop := Claim7.holds Tryd.pinned (.plain (OpenSpec.ofChange fnExactMatrixRelationSpec)) fnExactMatrixRelationCard

/-- THE TIED CARD OF 'laws.FnExactSolveLinear'. -/
def fnExactSolveLinearCard : Claim7 := { stood := { row := fnExactSolveLinearRow, standIns := [], harness := (true, "7193206188ea71a177c7b773737af2f8ad9989587a70aee886d8d261046d6381"), looks := false }, kinds := [], alts := [], laidByText := true, laidKinds := [.data], laidTests := true, laidLooks := .later }
def FnExactSolveLinearCardSaid : Prop := Claim7.holds Tryd.pinned (.plain (OpenSpec.ofChange fnExactSolveLinearSpec)) fnExactSolveLinearCard

/-- THE TIED CARD OF 'laws.FnExactDomainOf'. -/
def fnExactDomainOfCard : Claim7 := { stood := { row := fnExactDomainOfRow, standIns := [], harness := (true, "7193206188ea71a177c7b773737af2f8ad9989587a70aee886d8d261046d6381"), looks := false }, kinds := [], alts := [], laidByText := true, laidKinds := [.data], laidTests := true, laidLooks := .later }
def FnExactDomainOfCardSaid : Prop := Claim7.holds Tryd.pinned (.plain (OpenSpec.ofChange fnExactDomainOfSpec)) fnExactDomainOfCard

/-- THE TIED CARD OF 'laws.FnExactRangeOf'. -/
def fnExactRangeOfCard : Claim7 := { stood := { row := fnExactRangeOfRow, standIns := [], harness := (true, "7193206188ea71a177c7b773737af2f8ad9989587a70aee886d8d261046d6381"), looks := false }, kinds := [], alts := [], laidByText := true, laidKinds := [.data], laidTests := true, laidLooks := .later }
def FnExactRangeOfCardSaid : Prop := Claim7.holds Tryd.pinned (.plain (OpenSpec.ofChange fnExactRangeOfSpec)) fnExactRangeOfCard

/-- THE TIED CARD OF 'laws.FnExactIsTotal'. -/
def fnExactIsTotalCard : Claim7 := { stood := { row := fnExactIsTotalRow, standIns := [], harness := (true, "7193206188ea71a177c7b773737af2f8ad9989587a70aee886d8d261046d6381"), looks := false }, kinds := [], alts := [], laidByText := true, laidKinds := [.data], laidTests := true, laidLooks := .later }
def FnExactIsTotalCardSaid : Prop := Claim7.holds Tryd.pinned (.plain (OpenSpec.ofChange fnExactIsTotalSpec)) fnExactIsTotalCard

/-- THE TIED CARD OF 'laws.FnExactIsSingleValued'. -/
def fnExactIsSingleValuedCard : Claim7 := { stood := { row := fnExactIsSingleValuedRow, standIns := [], harness := (true, "7193206188ea71a177c7b773737af2f8ad9989587a70aee886d8d261046d6381"), looks := false }, kinds := [], alts := [], laidByText := true, laidKinds := [.data], laidTests := true, laidLooks := .later }
def FnExactIsSingleValuedCardSaid : Prop := Claim7.holds Tryd.pinned (.plain (OpenSpec.ofChange fnExactIsSingleValuedSpec)) fnExactIsSingleValuedCard

/-- THE TIED CARD OF 'laws.FnExactHasPair'. -/
def fnExactHasPairCard : Claim7 := { stood := { row := fnExactHasPairRow, standIns := [], harness := (true, "7193206188ea71a177c7b773737af2f8ad9989587a70aee886d8d261046d6381"), looks := false }, kinds := [], alts := [], laidByText := true, laidKinds := [.data], laidTests := true, laidLooks := .later }
def FnExactHasPairCardSaid : Prop := Claim7.holds Tryd.pinned (.plain (OpenSpec.ofChange fnExactHasPairSpec)) fnExactHasPairCard

/-- THE TIED CARD OF 'laws.FnExactIncludesRelation'. -/
def fnExactIncludesRelationCard : Claim7 := { stood := { row := fnExactIncludesRelationRow, standIns := [], harness := (true, "7193206188ea71a177c7b773737af2f8ad9989587a70aee886d8d261046d6381"), looks := false }, kinds := [], alts := [], laidByText := true, laidKinds := [.data], laidTests := true, laidLooks := .later }
def FnExactIncludesRelationCardSaid : Prop := Claim7.holds Tryd.pinned (.plain (OpenSpec.ofChange fnExactIncludesRelationSpec)) fnExactIncludesRelationCard

/-- THE TIED CARD OF 'laws.FnExactOrthogonalRelation'. -/
def fnExactOrthogonalRelationCard : Claim7 := { stood := { row := fnExactOrthogonalRelationRow, standIns := [], harness := (true, "7193206188ea71a177c7b773737af2f8ad9989587a70aee886d8d261046d6381"), looks := false }, kinds := [], alts := [], laidByText := true, laidKinds := [.data], laidTests := true, laidLooks := .later }
def FnExactOrthogonalRelationCardSaid : Prop := Claim7.holds Tryd.pinned (.plain (OpenSpec.ofChange fnExactOrthogonalRelationSpec)) fnExactOrthogonalRelationCard

/-- THE TIED CARD OF 'laws.FnExactConverseRelation'. -/
def fnExactConverseRelationCard : Claim7 := { stood := { row := fnExactConverseRelationRow, standIns := [], harness := (true, "7193206188ea71a177c7b773737af2f8ad9989587a70aee886d8d261046d6381"), looks := false }, kinds := [], alts := [], laidByText := true, laidKinds := [.data], laidTests := true, laidLooks := .later }
def FnExactConverseRelationCardSaid : Prop := Claim7.holds Tryd.pinned (.plain (OpenSpec.ofChange fnExactConverseRelationSpec)) fnExactConverseRelationCard

/-- THE TIED CARD OF 'laws.FnExactComposeRelations'. -/
def fnExactComposeRelationsCard : Claim7 := { stood := { row := fnExactComposeRelationsRow, standIns := [], harness := (true, "7193206188ea71a177c7b773737af2f8ad9989587a70aee886d8d261046d6381"), looks := false }, kinds := [], alts := [], laidByText := true, laidKinds := [.data], laidTests := true, laidLooks := .later }
def FnExactComposeRelationsCardSaid : Prop := Claim7.holds Tryd.pinned (.plain (OpenSpec.ofChange fnExactComposeRelationsSpec)) fnExactComposeRelationsCard

/-- THE TIED CARD OF 'laws.FnExactTensorRelations'. -/
def fnExactTensorRelationsCard : Claim7 := { stood := { row := fnExactTensorRelationsRow, standIns := [], harness := (true, "7193206188ea71a177c7b773737af2f8ad9989587a70aee886d8d261046d6381"), looks := false }, kinds := [], alts := [], laidByText := true, laidKinds := [.data], laidTests := true, laidLooks := .later }
def FnExactTensorRelationsCardSaid : Prop := Claim7.holds Tryd.pinned (.plain (OpenSpec.ofChange fnExactTensorRelationsSpec)) fnExactTensorRelationsCard

/-- THE SECOND FORM's CARD OF 'laws.FnExactMatrixRelation'. -/
def fnExactMatrixRelationUptoCard : Claim7 := { stood := { row := fnExactMatrixRelationUptoRow, standIns := [], harness := (true, "7193206188ea71a177c7b773737af2f8ad9989587a70aee886d8d261046d6381"), looks := false }, kinds := [], alts := [], laidByText := true, laidKinds := [.data], laidTests := true, laidLooks := .later }
def FnExactMatrixRelationUptoCardSaid : Prop := Claim7.holds Tryd.pinned (.plain (OpenSpec.upto fnExactMatrixRelationSpec)) fnExactMatrixRelationUptoCard

/-- THE SECOND FORM's CARD OF 'laws.FnExactSolveLinear'. -/
def fnExactSolveLinearUptoCard : Claim7 := { stood := { row := fnExactSolveLinearUptoRow, standIns := [], harness := (true, "7193206188ea71a177c7b773737af2f8ad9989587a70aee886d8d261046d6381"), looks := false }, kinds := [], alts := [], laidByText := true, laidKinds := [.data], laidTests := true, laidLooks := .later }
def FnExactSolveLinearUptoCardSaid : Prop := Claim7.holds Tryd.pinned (.plain (OpenSpec.upto fnExactSolveLinearSpec)) fnExactSolveLinearUptoCard

/-- THE SECOND FORM's CARD OF 'laws.FnExactDomainOf'. -/
def fnExactDomainOfUptoCard : Claim7 := { stood := { row := fnExactDomainOfUptoRow, standIns := [], harness := (true, "7193206188ea71a177c7b773737af2f8ad9989587a70aee886d8d261046d6381"), looks := false }, kinds := [], alts := [], laidByText := true, laidKinds := [.data], laidTests := true, laidLooks := .later }
def FnExactDomainOfUptoCardSaid : Prop := Claim7.holds Tryd.pinned (.plain (OpenSpec.upto fnExactDomainOfSpec)) fnExactDomainOfUptoCard

/-- THE SECOND FORM's CARD OF 'laws.FnExactRangeOf'. -/
def fnExactRangeOfUptoCard : Claim7 := { stood := { row := fnExactRangeOfUptoRow, standIns := [], harness := (true, "7193206188ea71a177c7b773737af2f8ad9989587a70aee886d8d261046d6381"), looks := false }, kinds := [], alts := [], laidByText := true, laidKinds := [.data], laidTests := true, laidLooks := .later }
def FnExactRangeOfUptoCardSaid : Prop := Claim7.holds Tryd.pinned (.plain (OpenSpec.upto fnExactRangeOfSpec)) fnExactRangeOfUptoCard

/-- THE SECOND FORM's CARD OF 'laws.FnExactIsTotal'. -/
def fnExactIsTotalUptoCard : Claim7 := { stood := { row := fnExactIsTotalUptoRow, standIns := [], harness := (true, "7193206188ea71a177c7b773737af2f8ad9989587a70aee886d8d261046d6381"), looks := false }, kinds := [], alts := [], laidByText := true, laidKinds := [.data], laidTests := true, laidLooks := .later }
def FnExactIsTotalUptoCardSaid : Prop := Claim7.holds Tryd.pinned (.plain (OpenSpec.upto fnExactIsTotalSpec)) fnExactIsTotalUptoCard

/-- THE SECOND FORM's CARD OF 'laws.FnExactIsSingleValued'. -/
def fnExactIsSingleValuedUptoCard : Claim7 := { stood := { row := fnExactIsSingleValuedUptoRow, standIns := [], harness := (true, "7193206188ea71a177c7b773737af2f8ad9989587a70aee886d8d261046d6381"), looks := false }, kinds := [], alts := [], laidByText := true, laidKinds := [.data], laidTests := true, laidLooks := .later }
def FnExactIsSingleValuedUptoCardSaid : Prop := Claim7.holds Tryd.pinned (.plain (OpenSpec.upto fnExactIsSingleValuedSpec)) fnExactIsSingleValuedUptoCard

/-- THE SECOND FORM's CARD OF 'laws.FnExactHasPair'. -/
def fnExactHasPairUptoCard : Claim7 := { stood := { row := fnExactHasPairUptoRow, standIns := [], harness := (true, "7193206188ea71a177c7b773737af2f8ad9989587a70aee886d8d261046d6381"), looks := false }, kinds := [], alts := [], laidByText := true, laidKinds := [.data], laidTests := true, laidLooks := .later }
def FnExactHasPairUptoCardSaid : Prop := Claim7.holds Tryd.pinned (.plain (OpenSpec.upto fnExactHasPairSpec)) fnExactHasPairUptoCard

/-- THE SECOND FORM's CARD OF 'laws.FnExactIncludesRelation'. -/
def fnExactIncludesRelationUptoCard : Claim7 := { stood := { row := fnExactIncludesRelationUptoRow, standIns := [], harness := (true, "7193206188ea71a177c7b773737af2f8ad9989587a70aee886d8d261046d6381"), looks := false }, kinds := [], alts := [], laidByText := true, laidKinds := [.data], laidTests := true, laidLooks := .later }
def FnExactIncludesRelationUptoCardSaid : Prop := Claim7.holds Tryd.pinned (.plain (OpenSpec.upto fnExactIncludesRelationSpec)) fnExactIncludesRelationUptoCard

/-- THE SECOND FORM's CARD OF 'laws.FnExactOrthogonalRelation'. -/
def fnExactOrthogonalRelationUptoCard : Claim7 := { stood := { row := fnExactOrthogonalRelationUptoRow, standIns := [], harness := (true, "7193206188ea71a177c7b773737af2f8ad9989587a70aee886d8d261046d6381"), looks := false }, kinds := [], alts := [], laidByText := true, laidKinds := [.data], laidTests := true, laidLooks := .later }
def FnExactOrthogonalRelationUptoCardSaid : Prop := Claim7.holds Tryd.pinned (.plain (OpenSpec.upto fnExactOrthogonalRelationSpec)) fnExactOrthogonalRelationUptoCard

/-- THE SECOND FORM's CARD OF 'laws.FnExactConverseRelation'. -/
def fnExactConverseRelationUptoCard : Claim7 := { stood := { row := fnExactConverseRelationUptoRow, standIns := [], harness := (true, "7193206188ea71a177c7b773737af2f8ad9989587a70aee886d8d261046d6381"), looks := false }, kinds := [], alts := [], laidByText := true, laidKinds := [.data], laidTests := true, laidLooks := .later }
def FnExactConverseRelationUptoCardSaid : Prop := Claim7.holds Tryd.pinned (.plain (OpenSpec.upto fnExactConverseRelationSpec)) fnExactConverseRelationUptoCard

/-- THE SECOND FORM's CARD OF 'laws.FnExactComposeRelations'. -/
def fnExactComposeRelationsUptoCard : Claim7 := { stood := { row := fnExactComposeRelationsUptoRow, standIns := [], harness := (true, "7193206188ea71a177c7b773737af2f8ad9989587a70aee886d8d261046d6381"), looks := false }, kinds := [], alts := [], laidByText := true, laidKinds := [.data], laidTests := true, laidLooks := .later }
def FnExactComposeRelationsUptoCardSaid : Prop := Claim7.holds Tryd.pinned (.plain (OpenSpec.upto fnExactComposeRelationsSpec)) fnExactComposeRelationsUptoCard

/-- THE SECOND FORM's CARD OF 'laws.FnExactTensorRelations'. -/
def fnExactTensorRelationsUptoCard : Claim7 := { stood := { row := fnExactTensorRelationsUptoRow, standIns := [], harness := (true, "7193206188ea71a177c7b773737af2f8ad9989587a70aee886d8d261046d6381"), looks := false }, kinds := [], alts := [], laidByText := true, laidKinds := [.data], laidTests := true, laidLooks := .later }
def FnExactTensorRelationsUptoCardSaid : Prop := Claim7.holds Tryd.pinned (.plain (OpenSpec.upto fnExactTensorRelationsSpec)) fnExactTensorRelationsUptoCard
end Rows
end Go.Proofs.YtpoghbdomknfcaaDoor
