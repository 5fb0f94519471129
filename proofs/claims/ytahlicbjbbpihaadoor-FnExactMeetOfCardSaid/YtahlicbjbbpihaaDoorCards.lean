/-
  DERIVED. GIVEN WITH THE SEED: THE CARDS: each row of YtahlicbjbbpihaaDoorRows.lean that lists a variable, with what it lists TIED to the program's text (the seventh form; the later family's looks); each row that meets fmt, with fmt's text TOLD by the authors' own Lean function (tested against real Go, not proved from fmt's source: count such statements apart). THE CARD IS WHAT COUNTS. Prove the row's statement (the work); the ties are given (YtahlicbjbbpihaaDoorTie.lean); close each card by the builder's one call (the guide's Derived/Test/ToyasCard.lean, 'card_holds'). Laid BY PROGRAM, IN A SANDBOX (cutbox-door.mjs). By AI agents, Wed Nov 11 2026. No macro, syntax, notation, axiom, sorry.
-/
import Derived.Test.YtahlicbjbbpihaaDoorRows
import GoSem.ClaimSeven
namespace Go.Proofs.YtahlicbjbbpihaaDoor
namespace Rows

/-- THE TIED CARD OF 'laws.FnExactSumOf'. -/
def fnExactSumOfCard : Claim7 := { stood := { row := fnExactSumOfRow, standIns := [], harness := (true, "46db35cd27bdf17536eb4b5321a4589f2cd56766214f8b20d15e0c353f3251e8"), looks := false }, kinds := [], alts := [], laidByText := true, laidKinds := [.data], laidTests := true, laidLooks := .later }
def FnExactSumOfCardSaid : Prop := Claim7.holds Tryd.pinned (.plain (OpenSpec.ofChange fnExactSumOfSpec)) fnExactSumOfCard

/-- THE TIED CARD OF 'laws.FnExactMeetOf'. -/
def fnExactMeetOfCard : Claim7 := { stood := { row := fnExactMeetOfRow, standIns := [], harness := (true, "46db35cd27bdf17536eb4b5321a4589f2cd56766214f8b20d15e0c353f3251e8"), looks := false }, kinds := [], alts := [], laidByText := true, laidKinds := [.data], laidTests := true, laidLooks := .later }
def FnExactMeetOfCardSaid : Prop := Claim7.holds Tryd.pinned (.plain (OpenSpec.ofChange fnExactMeetOfSpec)) fnExactMeetOfCard

/-- THE TIED CARD OF 'laws.FnExactHasVector'. -/
def fnExactHasVectorCard : Claim7 := { stood := { row := fnExactHasVectorRow, standIns := [], harness := (true, "46db35cd27bdf17536eb4b5321a4589f2cd56766214f8b20d15e0c353f3251e8"), looks := false }, kinds := [], alts := [], laidByText := true, laidKinds := [.data], laidTests := true, laidLooks := .later }
def FnExactHasVectorCardSaid : Prop := Claim7.holds Tryd.pinned (.plain (OpenSpec.ofChange fnExactHasVectorSpec)) fnExactHasVectorCard

/-- THE TIED CARD OF 'laws.FnExactCoordinatesOf'. -/
def fnExactCoordinatesOfCard : Claim7 := { stood := { row := fnExactCoordinatesOfRow, standIns := [], harness := (true, "46db35cd27bdf17536eb4b5321a4589f2cd56766214f8b20d15e0c353f3251e8"), looks := false }, kinds := [], alts := [], laidByText := true, laidKinds := [.data], laidTests := true, laidLooks := .later }
def FnExactCoordinatesOfCardSaid : Prop := Claim7.holds Tryd.pinned (.plain (OpenSpec.ofChange fnExactCoordinatesOfSpec)) fnExactCoordinatesOfCard

/-- THE TIED CARD OF 'laws.FnExactSeparatorOf'. -/
def fnExactSeparatorOfCard : Claim7 := { stood := { row := fnExactSeparatorOfRow, standIns := [], harness := (true, "46db35cd27bdf17536eb4b5321a4589f2cd56766214f8b20d15e0c353f3251e8"), looks := false }, kinds := [], alts := [], laidByText := true, laidKinds := [.data], laidTests := true, laidLooks := .later }
def FnExactSeparatorOfCardSaid : Prop := Claim7.holds Tryd.pinned (.plain (OpenSpec.ofChange fnExactSeparatorOfSpec)) fnExactSeparatorOfCard

/-- THE TIED CARD OF 'laws.FnExactImageOf'. -/
def fnExactImageOfCard : Claim7 := { stood := { row := fnExactImageOfRow, standIns := [], harness := (true, "46db35cd27bdf17536eb4b5321a4589f2cd56766214f8b20d15e0c353f3251e8"), looks := false }, kinds := [], alts := [], laidByText := true, laidKinds := [.data], laidTests := true, laidLooks := .later }
def FnExactImageOfCardSaid : Prop := Claim7.holds Tryd.pinned (.plain (OpenSpec.ofChange fnExactImageOfSpec)) fnExactImageOfCard

/-- THE TIED CARD OF 'laws.FnExactPreimageOf'. -/
def fnExactPreimageOfCard : Claim7 := { stood := { row := fnExactPreimageOfRow, standIns := [], harness := (true, "46db35cd27bdf17536eb4b5321a4589f2cd56766214f8b20d15e0c353f3251e8"), looks := false }, kinds := [], alts := [], laidByText := true, laidKinds := [.data], laidTests := true, laidLooks := .later }
def FnExactPreimageOfCardSaid : Prop := Claim7.holds Tryd.pinned (.plain (OpenSpec.ofChange fnExactPreimageOfSpec)) fnExactPreimageOfCard

/-- THE TIED CARD OF 'laws.FnExactProjectOf'. -/
def fnExactProjectOfCard : Claim7 := { stood := { row := fnExactProjectOfRow, standIns := [], harness := (true, "46db35cd27bdf17536eb4b5321a4589f2cd56766214f8b20d15e0c353f3251e8"), looks := false }, kinds := [], alts := [], laidByText := true, laidKinds := [.data], laidTests := true, laidLooks := .later }
def FnExactProjectOfCardSaid : Prop := Claim7.holds Tryd.pinned (.plain (OpenSpec.ofChange fnExactProjectOfSpec)) fnExactProjectOfCard

/-- THE TIED CARD OF 'laws.FnExactIsRelation'. -/
def fnExactIsRelationCard : Claim7 := { stood := { row := fnExactIsRelationRow, standIns := [], harness := (true, "46db35cd27bdf17536eb4b5321a4589f2cd56766214f8b20d15e0c353f3251e8"), looks := false }, kinds := [], alts := [], laidByText := true, laidKinds := [.data], laidTests := true, laidLooks := .later }
def FnExactIsRelationCardSaid : Prop := Claim7.holds Tryd.pinned (.plain (OpenSpec.ofChange fnExactIsRelationSpec)) fnExactIsRelationCard

/-- THE TIED CARD OF 'laws.FnExactDomainOf'. -/
def fnExactDomainOfCard : Claim7 := { stood := { row := fnExactDomainOfRow, standIns := [], harness := (true, "46db35cd27bdf17536eb4b5321a4589f2cd56766214f8b20d15e0c353f3251e8"), looks := false }, kinds := [], alts := [], laidByText := true, laidKinds := [.data], laidTests := true, laidLooks := .later }
def FnExactDomainOfCardSaid : Prop := Claim7.holds Tryd.pinned (.plain (OpenSpec.ofChange fnExactDomainOfSpec)) fnExactDomainOfCard

/-- THE TIED CARD OF 'laws.FnExactRangeOf'. -/
def fnExactRangeOfCard : Claim7 := { stood := { row := fnExactRangeOfRow, standIns := [], harness := (true, "46db35cd27bdf17536eb4b5321a4589f2cd56766214f8b20d15e0c353f3251e8"), looks := false }, kinds := [], alts := [], laidByText := true, laidKinds := [.data], laidTests := true, laidLooks := .later }
def FnExactRangeOfCardSaid : Prop := Claim7.holds Tryd.pinned (.plain (OpenSpec.ofChange fnExactRangeOfSpec)) fnExactRangeOfCard

/-- THE TIED CARD OF 'laws.FnExactIsTotal'. -/
def fnExactIsTotalCard : Claim7 := { stood := { row := fnExactIsTotalRow, standIns := [], harness := (true, "46db35cd27bdf17536eb4b5321a4589f2cd56766214f8b20d15e0c353f3251e8"), looks := false }, kinds := [], alts := [], laidByText := true, laidKinds := [.data], laidTests := true, laidLooks := .later }
def FnExactIsTotalCardSaid : Prop := Claim7.holds Tryd.pinned (.plain (OpenSpec.ofChange fnExactIsTotalSpec)) fnExactIsTotalCard

/-- THE SECOND FORM's CARD OF 'laws.FnExactSumOf'. -/
def fnExactSumOfUptoCard : Claim7 := { stood := { row := fnExactSumOfUptoRow, standIns := [], harness := (true, "46db35cd27bdf17536eb4b5321a4589f2cd56766214f8b20d15e0c353f3251e8"), looks := false }, kinds := [], alts := [], laidByText := true, laidKinds := [.data], laidTests := true, laidLooks := .later }
def FnExactSumOfUptoCardSaid : Prop := Claim7.holds Tryd.pinned (.plain (OpenSpec.upto fnExactSumOfSpec)) fnExactSumOfUptoCard

/-- THE SECOND FORM's CARD OF 'laws.FnExactMeetOf'. -/
def fnExactMeetOfUptoCard : Claim7 := { stood := { row := fnExactMeetOfUptoRow, standIns := [], harness := (true, "46db35cd27bdf17536eb4b5321a4589f2cd56766214f8b20d15e0c353f3251e8"), looks := false }, kinds := [], alts := [], laidByText := true, laidKinds := [.data], laidTests := true, laidLooks := .later }
def FnExactMeetOfUptoCardSaid : Prop := Claim7.holds Tryd.pinned (.plain (OpenSpec.upto fnExactMeetOfSpec)) fnExactMeetOfUptoCard

/-- THE SECOND FORM's CARD OF 'laws.FnExactHasVector'. -/
def fnExactHasVectorUptoCard : Claim7 := { stood := { row := fnExactHasVectorUptoRow, standIns := [], harness := (true, "46db35cd27bdf17536eb4b5321a4589f2cd56766214f8b20d15e0c353f3251e8"), looks := false }, kinds := [], alts := [], laidByText := true, laidKinds := [.data], laidTests := true, laidLooks := .later }
def FnExactHasVectorUptoCardSaid : Prop := Claim7.holds Tryd.pinned (.plain (OpenSpec.upto fnExactHasVectorSpec)) fnExactHasVectorUptoCard

/-- THE SECOND FORM's CARD OF 'laws.FnExactCoordinatesOf'. -/
def fnExactCoordinatesOfUptoCard : Claim7 := { stood := { row := fnExactCoordinatesOfUptoRow, standIns := [], harness := (true, "46db35cd27bdf17536eb4b5321a4589f2cd56766214f8b20d15e0c353f3251e8"), looks := false }, kinds := [], alts := [], laidByText := true, laidKinds := [.data], laidTests := true, laidLooks := .later }
def FnExactCoordinatesOfUptoCardSaid : Prop := Claim7.holds Tryd.pinned (.plain (OpenSpec.upto fnExactCoordinatesOfSpec)) fnExactCoordinatesOfUptoCard

/-- THE SECOND FORM's CARD OF 'laws.FnExactSeparatorOf'. -/
def fnExactSeparatorOfUptoCard : Claim7 := { stood := { row := fnExactSeparatorOfUptoRow, standIns := [], harness := (true, "46db35cd27bdf17536eb4b5321a4589f2cd56766214f8b20d15e0c353f3251e8"), looks := false }, kinds := [], alts := [], laidByText := true, laidKinds := [.data], laidTests := true, laidLooks := .later }
def FnExactSeparatorOfUptoCardSaid : Prop := Claim7.holds Tryd.pinned (.plain (OpenSpec.upto fnExactSeparatorOfSpec)) fnExactSeparatorOfUptoCard

/-- THE SECOND FORM's CARD OF 'laws.FnExactImageOf'. -/
def fnExactImageOfUptoCard : Claim7 := { stood := { row := fnExactImageOfUptoRow, standIns := [], harness := (true, "46db35cd27bdf17536eb4b5321a4589f2cd56766214f8b20d15e0c353f3251e8"), looks := false }, kinds := [], alts := [], laidByText := true, laidKinds := [.data], laidTests := true, laidLooks := .later }
def FnExactImageOfUptoCardSaid : Prop := Claim7.holds Tryd.pinned (.plain (OpenSpec.upto fnExactImageOfSpec)) fnExactImageOfUptoCard

/-- THE SECOND FORM's CARD OF 'laws.FnExactPreimageOf'. -/
def fnExactPreimageOfUptoCard : Claim7 := { stood := { row := fnExactPreimageOfUptoRow, standIns := [], harness := (true, "46db35cd27bdf17536eb4b5321a4589f2cd56766214f8b20d15e0c353f3251e8"), looks := false }, kinds := [], alts := [], laidByText := true, laidKinds := [.data], laidTests := true, laidLooks := .later }
def FnExactPreimageOfUptoCardSaid : Prop := Claim7.holds Tryd.pinned (.plain (OpenSpec.upto fnExactPreimageOfSpec)) fnExactPreimageOfUptoCard

/-- THE SECOND FORM's CARD OF 'laws.FnExactProjectOf'. -/
def fnExactProjectOfUptoCard : Claim7 := { stood := { row := fnExactProjectOfUptoRow, standIns := [], harness := (true, "46db35cd27bdf17536eb4b5321a4589f2cd56766214f8b20d15e0c353f3251e8"), looks := false }, kinds := [], alts := [], laidByText := true, laidKinds := [.data], laidTests := true, laidLooks := .later }
def FnExactProjectOfUptoCardSaid : Prop := Claim7.holds Tryd.pinned (.plain (OpenSpec.upto fnExactProjectOfSpec)) fnExactProjectOfUptoCard

/-- THE SECOND FORM's CARD OF 'laws.FnExactIsRelation'. -/
def fnExactIsRelationUptoCard : Claim7 := { stood := { row := fnExactIsRelationUptoRow, standIns := [], harness := (true, "46db35cd27bdf17536eb4b5321a4589f2cd56766214f8b20d15e0c353f3251e8"), looks := false }, kinds := [], alts := [], laidByText := true, laidKinds := [.data], laidTests := true, laidLooks := .later }
def FnExactIsRelationUptoCardSaid : Prop := Claim7.holds Tryd.pinned (.plain (OpenSpec.upto fnExactIsRelationSpec)) fnExactIsRelationUptoCard

/-- THE SECOND FORM's CARD OF 'laws.FnExactDomainOf'. -/
def fnExactDomainOfUptoCard : Claim7 := { stood := { row := fnExactDomainOfUptoRow, standIns := [], harness := (true, "46db35cd27bdf17536eb4b5321a4589f2cd56766214f8b20d15e0c353f3251e8"), looks := false }, kinds := [], alts := [], laidByText := true, laidKinds := [.data], laidTests := true, laidLooks := .later }
def FnExactDomainOfUptoCardSaid : Prop := Claim7.holds Tryd.pinned (.plain (OpenSpec.upto fnExactDomainOfSpec)) fnExactDomainOfUptoCard

/-- THE SECOND FORM's CARD OF 'laws.FnExactRangeOf'. -/
def fnExactRangeOfUptoCard : Claim7 := { stood := { row := fnExactRangeOfUptoRow, standIns := [], harness := (true, "46db35cd27bdf17536eb4b5321a4589f2cd56766214f8b20d15e0c353f3251e8"), looks := false }, kinds := [], alts := [], laidByText := true, laidKinds := [.data], laidTests := true, laidLooks := .later }
def FnExactRangeOfUptoCardSaid : Prop := Claim7.holds Tryd.pinned (.plain (OpenSpec.upto fnExactRangeOfSpec)) fnExactRangeOfUptoCard

/-- THE SECOND FORM's CARD OF 'laws.FnExactIsTotal'. -/
def fnExactIsTotalUptoCard : Claim7 := { stood := { row := fnExactIsTotalUptoRow, standIns := [], harness := (true, "46db35cd27bdf17536eb4b5321a4589f2cd56766214f8b20d15e0c353f3251e8"), looks := false }, kinds := [], alts := [], laidByText := true, laidKinds := [.data], laidTests := true, laidLooks := .later }
def FnExactIsTotalUptoCardSaid : Prop := Claim7.holds Tryd.pinned (.plain (OpenSpec.upto fnExactIsTotalSpec)) fnExactIsTotalUptoCard
end Rows
end Go.Proofs.YtahlicbjbbpihaaDoor
