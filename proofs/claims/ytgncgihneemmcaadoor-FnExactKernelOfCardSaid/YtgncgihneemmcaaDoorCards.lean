/-
  DERIVED. GIVEN WITH THE SEED: THE CARDS: each row of YtgncgihneemmcaaDoorRows.lean that lists a variable, with what it lists TIED to the program's text (the seventh form; the later family's looks); each row that meets fmt, with fmt's text TOLD by the authors' own Lean function (tested against real Go, not proved from fmt's source: count such statements apart). THE CARD IS WHAT COUNTS. Prove the row's statement (the work); the ties are given (YtgncgihneemmcaaDoorTie.lean); close each card by the builder's one call (the guide's Derived/Test/ToyasCard.lean, 'card_holds'). Laid BY PROGRAM, IN A SANDBOX (cutbox-door.mjs). By AI agents, Wed Nov 11 2026. No macro, syntax, notation, axiom, sorry.
-/
import Derived.Test.YtgncgihneemmcaaDoorRows
import GoSem.ClaimSeven
namespace Go.Proofs.YtgncgihneemmcaaDoor
namespace Rows

/-- THE TIED CARD OF 'laws.FnExactRowReduce'. -/
def fnExactRowReduceCard : Claim7 := { stood := { row := fnExactRowReduceRow, standIns := [], harness := (true, "7d3c16c898cbcffe717d6ec0bc3b105b4840bcebc08fe1771fc7789d10b843c9"), looks := false }, kinds := [], alts := [], laidByText := true, laidKinds := [.data], laidTests := true, laidLooks := .later }
def FnExactRowReduceCardSaid : Prop := Claim7.holds Tryd.pinned (.plain (OpenSpec.ofChange fnExactRowReduceSpec)) fnExactRowReduceCard

/-- THE TIED CARD OF 'laws.FnExactRankOf'. -/
def fnExactRankOfCard : Claim7 := { stood := { row := fnExactRankOfRow, standIns := [], harness := (true, "7d3c16c898cbcffe717d6ec0bc3b105b4840bcebc08fe1771fc7789d10b843c9"), looks := false }, kinds := [], alts := [], laidByText := true, laidKinds := [.data], laidTests := true, laidLooks := .later }
def FnExactRankOfCardSaid : Prop := Claim7.holds Tryd.pinned (.plain (OpenSpec.ofChange fnExactRankOfSpec)) fnExactRankOfCard

/-- THE TIED CARD OF 'laws.FnExactInverseOf'. -/
def fnExactInverseOfCard : Claim7 := { stood := { row := fnExactInverseOfRow, standIns := [], harness := (true, "7d3c16c898cbcffe717d6ec0bc3b105b4840bcebc08fe1771fc7789d10b843c9"), looks := false }, kinds := [], alts := [], laidByText := true, laidKinds := [.data], laidTests := true, laidLooks := .later }
def FnExactInverseOfCardSaid : Prop := Claim7.holds Tryd.pinned (.plain (OpenSpec.ofChange fnExactInverseOfSpec)) fnExactInverseOfCard

/-- THE TIED CARD OF 'laws.FnExactDeterminantOf'. -/
def fnExactDeterminantOfCard : Claim7 := { stood := { row := fnExactDeterminantOfRow, standIns := [], harness := (true, "7d3c16c898cbcffe717d6ec0bc3b105b4840bcebc08fe1771fc7789d10b843c9"), looks := false }, kinds := [], alts := [], laidByText := true, laidKinds := [.data], laidTests := true, laidLooks := .later }
def FnExactDeterminantOfCardSaid : Prop := Claim7.holds Tryd.pinned (.plain (OpenSpec.ofChange fnExactDeterminantOfSpec)) fnExactDeterminantOfCard

/-- THE TIED CARD OF 'laws.FnExactSolveLinear'. -/
def fnExactSolveLinearCard : Claim7 := { stood := { row := fnExactSolveLinearRow, standIns := [], harness := (true, "7d3c16c898cbcffe717d6ec0bc3b105b4840bcebc08fe1771fc7789d10b843c9"), looks := false }, kinds := [], alts := [], laidByText := true, laidKinds := [.data], laidTests := true, laidLooks := .later }
def FnExactSolveLinearCardSaid : Prop := Claim7.holds Tryd.pinned (.plain (OpenSpec.ofChange fnExactSolveLinearSpec)) fnExactSolveLinearCard

/-- THE TIED CARD OF 'laws.FnExactKernelOf'. -/
def fnExactKernelOfCard : Claim7 := { stood := { row := fnExactKernelOfRow, standIns := [], harness := (true, "7d3c16c898cbcffe717d6ec0bc3b105b4840bcebc08fe1771fc7789d10b843c9"), looks := false }, kinds := [], alts := [], laidByText := true, laidKinds := [.data], laidTests := true, laidLooks := .later }
def FnExactKernelOfCardSaid : Prop := Claim7.holds Tryd.pinned (.plain (OpenSpec.ofChange fnExactKernelOfSpec)) fnExactKernelOfCard

/-- THE TIED CARD OF 'laws.FnExactIsSpace'. -/
def fnExactIsSpaceCard : Claim7 := { stood := { row := fnExactIsSpaceRow, standIns := [], harness := (true, "7d3c16c898cbcffe717d6ec0bc3b105b4840bcebc08fe1771fc7789d10b843c9"), looks := false }, kinds := [], alts := [], laidByText := true, laidKinds := [.data], laidTests := true, laidLooks := .later }
def FnExactIsSpaceCardSaid : Prop := Claim7.holds Tryd.pinned (.plain (OpenSpec.ofChange fnExactIsSpaceSpec)) fnExactIsSpaceCard

/-- THE TIED CARD OF 'laws.FnExactSpanOf'. -/
def fnExactSpanOfCard : Claim7 := { stood := { row := fnExactSpanOfRow, standIns := [], harness := (true, "7d3c16c898cbcffe717d6ec0bc3b105b4840bcebc08fe1771fc7789d10b843c9"), looks := false }, kinds := [], alts := [], laidByText := true, laidKinds := [.data], laidTests := true, laidLooks := .later }
def FnExactSpanOfCardSaid : Prop := Claim7.holds Tryd.pinned (.plain (OpenSpec.ofChange fnExactSpanOfSpec)) fnExactSpanOfCard

/-- THE TIED CARD OF 'laws.FnExactMatrixRelation'. -/
def fnExactMatrixRelationCard : Claim7 := { stood := { row := fnExactMatrixRelationRow, standIns := [], harness := (true, "7d3c16c898cbcffe717d6ec0bc3b105b4840bcebc08fe1771fc7789d10b843c9"), looks := false }, kinds := [], alts := [], laidByText := true, laidKinds := [.data], laidTests := true, laidLooks := .later }
def FnExactMatrixRelationCardSaid : Prop := Claim7.holds Tryd.pinned (.plain (OpenSpec.ofChange fnExactMatrixRelationSpec)) fnExactMatrixRelationCard

/-- THE TIED CARD OF 'laws.FnExactRelationFrom'. -/
def fnExactRelationFromCard : Claim7 := { stood := { row := fnExactRelationFromRow, standIns := [], harness := (true, "7d3c16c898cbcffe717d6ec0bc3b105b4840bcebc08fe1771fc7789d10b843c9"), looks := false }, kinds := [], alts := [], laidByText := true, laidKinds := [.data], laidTests := true, laidLooks := .later }
def FnExactRelationFromCardSaid : Prop := Claim7.holds Tryd.pinned (.plain (OpenSpec.ofChange fnExactRelationFromSpec)) fnExactRelationFromCard

/-- THE TIED CARD OF 'laws.FnExactOrthogonalOf'. -/
def fnExactOrthogonalOfCard : Claim7 := { stood := { row := fnExactOrthogonalOfRow, standIns := [], harness := (true, "7d3c16c898cbcffe717d6ec0bc3b105b4840bcebc08fe1771fc7789d10b843c9"), looks := false }, kinds := [], alts := [], laidByText := true, laidKinds := [.data], laidTests := true, laidLooks := .later }
def FnExactOrthogonalOfCardSaid : Prop := Claim7.holds Tryd.pinned (.plain (OpenSpec.ofChange fnExactOrthogonalOfSpec)) fnExactOrthogonalOfCard

/-- THE SECOND FORM's CARD OF 'laws.FnExactRowReduce'. -/
def fnExactRowReduceUptoCard : Claim7 := { stood := { row := fnExactRowReduceUptoRow, standIns := [], harness := (true, "7d3c16c898cbcffe717d6ec0bc3b105b4840bcebc08fe1771fc7789d10b843c9"), looks := false }, kinds := [], alts := [], laidByText := true, laidKinds := [.data], laidTests := true, laidLooks := .later }
def FnExactRowReduceUptoCardSaid : Prop := Claim7.holds Tryd.pinned (.plain (OpenSpec.upto fnExactRowReduceSpec)) fnExactRowReduceUptoCard

/-- THE SECOND FORM's CARD OF 'laws.FnExactRankOf'. -/
def fnExactRankOfUptoCard : Claim7 := { stood := { row := fnExactRankOfUptoRow, standIns := [], harness := (true, "7d3c16c898cbcffe717d6ec0bc3b105b4840bcebc08fe1771fc7789d10b843c9"), looks := false }, kinds := [], alts := [], laidByText := true, laidKinds := [.data], laidTests := true, laidLooks := .later }
def FnExactRankOfUptoCardSaid : Prop := Claim7.holds Tryd.pinned (.plain (OpenSpec.upto fnExactRankOfSpec)) fnExactRankOfUptoCard

/-- THE SECOND FORM's CARD OF 'laws.FnExactInverseOf'. -/
def fnExactInverseOfUptoCard : Claim7 := { stood := { row := fnExactInverseOfUptoRow, standIns := [], harness := (true, "7d3c16c898cbcffe717d6ec0bc3b105b4840bcebc08fe1771fc7789d10b843c9"), looks := false }, kinds := [], alts := [], laidByText := true, laidKinds := [.data], laidTests := true, laidLooks := .later }
def FnExactInverseOfUptoCardSaid : Prop := Claim7.holds Tryd.pinned (.plain (OpenSpec.upto fnExactInverseOfSpec)) fnExactInverseOfUptoCard

/-- THE SECOND FORM's CARD OF 'laws.FnExactDeterminantOf'. -/
def fnExactDeterminantOfUptoCard : Claim7 := { stood := { row := fnExactDeterminantOfUptoRow, standIns := [], harness := (true, "7d3c16c898cbcffe717d6ec0bc3b105b4840bcebc08fe1771fc7789d10b843c9"), looks := false }, kinds := [], alts := [], laidByText := true, laidKinds := [.data], laidTests := true, laidLooks := .later }
def FnExactDeterminantOfUptoCardSaid : Prop := Claim7.holds Tryd.pinned (.plain (OpenSpec.upto fnExactDeterminantOfSpec)) fnExactDeterminantOfUptoCard

/-- THE SECOND FORM's CARD OF 'laws.FnExactSolveLinear'. -/
def fnExactSolveLinearUptoCard : Claim7 := { stood := { row := fnExactSolveLinearUptoRow, standIns := [], harness := (true, "7d3c16c898cbcffe717d6ec0bc3b105b4840bcebc08fe1771fc7789d10b843c9"), looks := false }, kinds := [], alts := [], laidByText := true, laidKinds := [.data], laidTests := true, laidLooks := .later }
def FnExactSolveLinearUptoCardSaid : Prop := Claim7.holds Tryd.pinned (.plain (OpenSpec.upto fnExactSolveLinearSpec)) fnExactSolveLinearUptoCard

/-- THE SECOND FORM's CARD OF 'laws.FnExactKernelOf'. -/
def fnExactKernelOfUptoCard : Claim7 := { stood := { row := fnExactKernelOfUptoRow, standIns := [], harness := (true, "7d3c16c898cbcffe717d6ec0bc3b105b4840bcebc08fe1771fc7789d10b843c9"), looks := false }, kinds := [], alts := [], laidByText := true, laidKinds := [.data], laidTests := true, laidLooks := .later }
def FnExactKernelOfUptoCardSaid : Prop := Claim7.holds Tryd.pinned (.plain (OpenSpec.upto fnExactKernelOfSpec)) fnExactKernelOfUptoCard

/-- THE SECOND FORM's CARD OF 'laws.FnExactIsSpace'. -/
def fnExactIsSpaceUptoCard : Claim7 := { stood := { row := fnExactIsSpaceUptoRow, standIns := [], harness := (true, "7d3c16c898cbcffe717d6ec0bc3b105b4840bcebc08fe1771fc7789d10b843c9"), looks := false }, kinds := [], alts := [], laidByText := true, laidKinds := [.data], laidTests := true, laidLooks := .later }
def FnExactIsSpaceUptoCardSaid : Prop := Claim7.holds Tryd.pinned (.plain (OpenSpec.upto fnExactIsSpaceSpec)) fnExactIsSpaceUptoCard

/-- THE SECOND FORM's CARD OF 'laws.FnExactSpanOf'. -/
def fnExactSpanOfUptoCard : Claim7 := { stood := { row := fnExactSpanOfUptoRow, standIns := [], harness := (true, "7d3c16c898cbcffe717d6ec0bc3b105b4840bcebc08fe1771fc7789d10b843c9"), looks := false }, kinds := [], alts := [], laidByText := true, laidKinds := [.data], laidTests := true, laidLooks := .later }
def FnExactSpanOfUptoCardSaid : Prop := Claim7.holds Tryd.pinned (.plain (OpenSpec.upto fnExactSpanOfSpec)) fnExactSpanOfUptoCard

/-- THE SECOND FORM's CARD OF 'laws.FnExactMatrixRelation'. -/
def fnExactMatrixRelationUptoCard : Claim7 := { stood := { row := fnExactMatrixRelationUptoRow, standIns := [], harness := (true, "7d3c16c898cbcffe717d6ec0bc3b105b4840bcebc08fe1771fc7789d10b843c9"), looks := false }, kinds := [], alts := [], laidByText := true, laidKinds := [.data], laidTests := true, laidLooks := .later }
def FnExactMatrixRelationUptoCardSaid : Prop := Claim7.holds Tryd.pinned (.plain (OpenSpec.upto fnExactMatrixRelationSpec)) fnExactMatrixRelationUptoCard

/-- THE SECOND FORM's CARD OF 'laws.FnExactRelationFrom'. -/
def fnExactRelationFromUptoCard : Claim7 := { stood := { row := fnExactRelationFromUptoRow, standIns := [], harness := (true, "7d3c16c898cbcffe717d6ec0bc3b105b4840bcebc08fe1771fc7789d10b843c9"), looks := false }, kinds := [], alts := [], laidByText := true, laidKinds := [.data], laidTests := true, laidLooks := .later }
def FnExactRelationFromUptoCardSaid : Prop := Claim7.holds Tryd.pinned (.plain (OpenSpec.upto fnExactRelationFromSpec)) fnExactRelationFromUptoCard

/-- THE SECOND FORM's CARD OF 'laws.FnExactOrthogonalOf'. -/
def fnExactOrthogonalOfUptoCard : Claim7 := { stood := { row := fnExactOrthogonalOfUptoRow, standIns := [], harness := (true, "7d3c16c898cbcffe717d6ec0bc3b105b4840bcebc08fe1771fc7789d10b843c9"), looks := false }, kinds := [], alts := [], laidByText := true, laidKinds := [.data], laidTests := true, laidLooks := .later }
def FnExactOrthogonalOfUptoCardSaid : Prop := Claim7.holds Tryd.pinned (.plain (OpenSpec.upto fnExactOrthogonalOfSpec)) fnExactOrthogonalOfUptoCard
end Rows
end Go.Proofs.YtgncgihneemmcaaDoor
