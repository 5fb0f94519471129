/-
  DERIVED. GIVEN WITH THE SEED: THE CARDS: each row of YtdeabimojadgaaaDoorRows.lean that lists a variable, with what it lists TIED to the program's text (the seventh form; the later family's looks); each row that meets fmt, with fmt's text TOLD by the authors' own Lean function (tested against real Go, not proved from fmt's source: count such statements apart). THE CARD IS WHAT COUNTS. Prove the row's statement (the work); the ties are given (YtdeabimojadgaaaDoorTie.lean); close each card by the builder's one call (the guide's Derived/Test/ToyasCard.lean, 'card_holds'). Laid BY PROGRAM, IN A SANDBOX (cutbox-door.mjs). By AI agents, Wed Nov 11 2026. No macro, syntax, notation, axiom, sorry.
-/
import Derived.Test.YtdeabimojadgaaaDoorRows
import GoSem.ClaimSeven
namespace Go.Proofs.YtdeabimojadgaaaDoor
namespace Rows

/-- THE TIED CARD OF 'laws.FnExactIsMatrix'. -/
def fnExactIsMatrixCard : Claim7 := { stood := { row := fnExactIsMatrixRow, standIns := [], harness := (true, "4f61df36e9f827228b82b3e761dadf2ce42ac25e7a92e2279c71b4754411e234"), looks := false }, kinds := [], alts := [], laidByText := true, laidKinds := [.data], laidTests := true, laidLooks := .later }
def FnExactIsMatrixCardSaid : Prop := Claim7.holds Tryd.pinned (.plain (OpenSpec.ofChange fnExactIsMatrixSpec)) fnExactIsMatrixCard

/-- THE TIED CARD OF 'laws.FnExactAddMatrices'. -/
def fnExactAddMatricesCard : Claim7 := { stood := { row := fnExactAddMatricesRow, standIns := [], harness := (true, "4f61df36e9f827228b82b3e761dadf2ce42ac25e7a92e2279c71b4754411e234"), looks := false }, kinds := [], alts := [], laidByText := true, laidKinds := [.data], laidTests := true, laidLooks := .later }
def FnExactAddMatricesCardSaid : Prop := Claim7.holds Tryd.pinned (.plain (OpenSpec.ofChange fnExactAddMatricesSpec)) fnExactAddMatricesCard

/-- THE TIED CARD OF 'laws.FnExactMulMatrices'. -/
def fnExactMulMatricesCard : Claim7 := { stood := { row := fnExactMulMatricesRow, standIns := [], harness := (true, "4f61df36e9f827228b82b3e761dadf2ce42ac25e7a92e2279c71b4754411e234"), looks := false }, kinds := [], alts := [], laidByText := true, laidKinds := [.data], laidTests := true, laidLooks := .later }
def FnExactMulMatricesCardSaid : Prop := Claim7.holds Tryd.pinned (.plain (OpenSpec.ofChange fnExactMulMatricesSpec)) fnExactMulMatricesCard

/-- THE TIED CARD OF 'laws.FnExactMatrixPower'. -/
def fnExactMatrixPowerCard : Claim7 := { stood := { row := fnExactMatrixPowerRow, standIns := [], harness := (true, "4f61df36e9f827228b82b3e761dadf2ce42ac25e7a92e2279c71b4754411e234"), looks := false }, kinds := [], alts := [], laidByText := true, laidKinds := [.data], laidTests := true, laidLooks := .later }
def FnExactMatrixPowerCardSaid : Prop := Claim7.holds Tryd.pinned (.plain (OpenSpec.ofChange fnExactMatrixPowerSpec)) fnExactMatrixPowerCard

/-- THE TIED CARD OF 'laws.FnExactTranspose'. -/
def fnExactTransposeCard : Claim7 := { stood := { row := fnExactTransposeRow, standIns := [], harness := (true, "4f61df36e9f827228b82b3e761dadf2ce42ac25e7a92e2279c71b4754411e234"), looks := false }, kinds := [], alts := [], laidByText := true, laidKinds := [.data], laidTests := true, laidLooks := .later }
def FnExactTransposeCardSaid : Prop := Claim7.holds Tryd.pinned (.plain (OpenSpec.ofChange fnExactTransposeSpec)) fnExactTransposeCard

/-- THE TIED CARD OF 'laws.FnExactRowReduce'. -/
def fnExactRowReduceCard : Claim7 := { stood := { row := fnExactRowReduceRow, standIns := [], harness := (true, "4f61df36e9f827228b82b3e761dadf2ce42ac25e7a92e2279c71b4754411e234"), looks := false }, kinds := [], alts := [], laidByText := true, laidKinds := [.data], laidTests := true, laidLooks := .later }
def FnExactRowReduceCardSaid : Prop := Claim7.holds Tryd.pinned (.plain (OpenSpec.ofChange fnExactRowReduceSpec)) fnExactRowReduceCard

/-- THE TIED CARD OF 'laws.FnExactRankOf'. -/
def fnExactRankOfCard : Claim7 := { stood := { row := fnExactRankOfRow, standIns := [], harness := (true, "4f61df36e9f827228b82b3e761dadf2ce42ac25e7a92e2279c71b4754411e234"), looks := false }, kinds := [], alts := [], laidByText := true, laidKinds := [.data], laidTests := true, laidLooks := .later }
def FnExactRankOfCardSaid : Prop := Claim7.holds Tryd.pinned (.plain (OpenSpec.ofChange fnExactRankOfSpec)) fnExactRankOfCard

/-- THE TIED CARD OF 'laws.FnExactInverseOf'. -/
def fnExactInverseOfCard : Claim7 := { stood := { row := fnExactInverseOfRow, standIns := [], harness := (true, "4f61df36e9f827228b82b3e761dadf2ce42ac25e7a92e2279c71b4754411e234"), looks := false }, kinds := [], alts := [], laidByText := true, laidKinds := [.data], laidTests := true, laidLooks := .later }
def FnExactInverseOfCardSaid : Prop := Claim7.holds Tryd.pinned (.plain (OpenSpec.ofChange fnExactInverseOfSpec)) fnExactInverseOfCard

/-- THE TIED CARD OF 'laws.FnExactDeterminantOf'. -/
def fnExactDeterminantOfCard : Claim7 := { stood := { row := fnExactDeterminantOfRow, standIns := [], harness := (true, "4f61df36e9f827228b82b3e761dadf2ce42ac25e7a92e2279c71b4754411e234"), looks := false }, kinds := [], alts := [], laidByText := true, laidKinds := [.data], laidTests := true, laidLooks := .later }
def FnExactDeterminantOfCardSaid : Prop := Claim7.holds Tryd.pinned (.plain (OpenSpec.ofChange fnExactDeterminantOfSpec)) fnExactDeterminantOfCard

/-- THE TIED CARD OF 'laws.FnExactSolveLinear'. -/
def fnExactSolveLinearCard : Claim7 := { stood := { row := fnExactSolveLinearRow, standIns := [], harness := (true, "4f61df36e9f827228b82b3e761dadf2ce42ac25e7a92e2279c71b4754411e234"), looks := false }, kinds := [], alts := [], laidByText := true, laidKinds := [.data], laidTests := true, laidLooks := .later }
def FnExactSolveLinearCardSaid : Prop := Claim7.holds Tryd.pinned (.plain (OpenSpec.ofChange fnExactSolveLinearSpec)) fnExactSolveLinearCard

/-- THE TIED CARD OF 'laws.FnExactKernelOf'. -/
def fnExactKernelOfCard : Claim7 := { stood := { row := fnExactKernelOfRow, standIns := [], harness := (true, "4f61df36e9f827228b82b3e761dadf2ce42ac25e7a92e2279c71b4754411e234"), looks := false }, kinds := [], alts := [], laidByText := true, laidKinds := [.data], laidTests := true, laidLooks := .later }
def FnExactKernelOfCardSaid : Prop := Claim7.holds Tryd.pinned (.plain (OpenSpec.ofChange fnExactKernelOfSpec)) fnExactKernelOfCard

/-- THE SECOND FORM's CARD OF 'laws.FnExactIsMatrix'. -/
def fnExactIsMatrixUptoCard : Claim7 := { stood := { row := fnExactIsMatrixUptoRow, standIns := [], harness := (true, "4f61df36e9f827228b82b3e761dadf2ce42ac25e7a92e2279c71b4754411e234"), looks := false }, kinds := [], alts := [], laidByText := true, laidKinds := [.data], laidTests := true, laidLooks := .later }
def FnExactIsMatrixUptoCardSaid : Prop := Claim7.holds Tryd.pinned (.plain (OpenSpec.upto fnExactIsMatrixSpec)) fnExactIsMatrixUptoCard

/-- THE SECOND FORM's CARD OF 'laws.FnExactAddMatrices'. -/
def fnExactAddMatricesUptoCard : Claim7 := { stood := { row := fnExactAddMatricesUptoRow, standIns := [], harness := (true, "4f61df36e9f827228b82b3e761dadf2ce42ac25e7a92e2279c71b4754411e234"), looks := false }, kinds := [], alts := [], laidByText := true, laidKinds := [.data], laidTests := true, laidLooks := .later }
def FnExactAddMatricesUptoCardSaid : Prop := Claim7.holds Tryd.pinned (.plain (OpenSpec.upto fnExactAddMatricesSpec)) fnExactAddMatricesUptoCard

/-- THE SECOND FORM's CARD OF 'laws.FnExactMulMatrices'. -/
def fnExactMulMatricesUptoCard : Claim7 := { stood := { row := fnExactMulMatricesUptoRow, standIns := [], harness := (true, "4f61df36e9f827228b82b3e761dadf2ce42ac25e7a92e2279c71b4754411e234"), looks := false }, kinds := [], alts := [], laidByText := true, laidKinds := [.data], laidTests := true, laidLooks := .later }
def FnExactMulMatricesUptoCardSaid : Prop := Claim7.holds Tryd.pinned (.plain (OpenSpec.upto fnExactMulMatricesSpec)) fnExactMulMatricesUptoCard

/-- THE SECOND FORM's CARD OF 'laws.FnExactMatrixPower'. -/
def fnExactMatrixPowerUptoCard : Claim7 := { stood := { row := fnExactMatrixPowerUptoRow, standIns := [], harness := (true, "4f61df36e9f827228b82b3e761dadf2ce42ac25e7a92e2279c71b4754411e234"), looks := false }, kinds := [], alts := [], laidByText := true, laidKinds := [.data], laidTests := true, laidLooks := .later }
def FnExactMatrixPowerUptoCardSaid : Prop := Claim7.holds Tryd.pinned (.plain (OpenSpec.upto fnExactMatrixPowerSpec)) fnExactMatrixPowerUptoCard

/-- THE SECOND FORM's CARD OF 'laws.FnExactTranspose'. -/
def fnExactTransposeUptoCard : Claim7 := { stood := { row := fnExactTransposeUptoRow, standIns := [], harness := (true, "4f61df36e9f827228b82b3e761dadf2ce42ac25e7a92e2279c71b4754411e234"), looks := false }, kinds := [], alts := [], laidByText := true, laidKinds := [.data], laidTests := true, laidLooks := .later }
def FnExactTransposeUptoCardSaid : Prop := Claim7.holds Tryd.pinned (.plain (OpenSpec.upto fnExactTransposeSpec)) fnExactTransposeUptoCard

/-- THE SECOND FORM's CARD OF 'laws.FnExactRowReduce'. -/
def fnExactRowReduceUptoCard : Claim7 := { stood := { row := fnExactRowReduceUptoRow, standIns := [], harness := (true, "4f61df36e9f827228b82b3e761dadf2ce42ac25e7a92e2279c71b4754411e234"), looks := false }, kinds := [], alts := [], laidByText := true, laidKinds := [.data], laidTests := true, laidLooks := .later }
def FnExactRowReduceUptoCardSaid : Prop := Claim7.holds Tryd.pinned (.plain (OpenSpec.upto fnExactRowReduceSpec)) fnExactRowReduceUptoCard

/-- THE SECOND FORM's CARD OF 'laws.FnExactRankOf'. -/
def fnExactRankOfUptoCard : Claim7 := { stood := { row := fnExactRankOfUptoRow, standIns := [], harness := (true, "4f61df36e9f827228b82b3e761dadf2ce42ac25e7a92e2279c71b4754411e234"), looks := false }, kinds := [], alts := [], laidByText := true, laidKinds := [.data], laidTests := true, laidLooks := .later }
def FnExactRankOfUptoCardSaid : Prop := Claim7.holds Tryd.pinned (.plain (OpenSpec.upto fnExactRankOfSpec)) fnExactRankOfUptoCard

/-- THE SECOND FORM's CARD OF 'laws.FnExactInverseOf'. -/
def fnExactInverseOfUptoCard : Claim7 := { stood := { row := fnExactInverseOfUptoRow, standIns := [], harness := (true, "4f61df36e9f827228b82b3e761dadf2ce42ac25e7a92e2279c71b4754411e234"), looks := false }, kinds := [], alts := [], laidByText := true, laidKinds := [.data], laidTests := true, laidLooks := .later }
def FnExactInverseOfUptoCardSaid : Prop := Claim7.holds Tryd.pinned (.plain (OpenSpec.upto fnExactInverseOfSpec)) fnExactInverseOfUptoCard

/-- THE SECOND FORM's CARD OF 'laws.FnExactDeterminantOf'. -/
def fnExactDeterminantOfUptoCard : Claim7 := { stood := { row := fnExactDeterminantOfUptoRow, standIns := [], harness := (true, "4f61df36e9f827228b82b3e761dadf2ce42ac25e7a92e2279c71b4754411e234"), looks := false }, kinds := [], alts := [], laidByText := true, laidKinds := [.data], laidTests := true, laidLooks := .later }
def FnExactDeterminantOfUptoCardSaid : Prop := Claim7.holds Tryd.pinned (.plain (OpenSpec.upto fnExactDeterminantOfSpec)) fnExactDeterminantOfUptoCard

/-- THE SECOND FORM's CARD OF 'laws.FnExactSolveLinear'. -/
def fnExactSolveLinearUptoCard : Claim7 := { stood := { row := fnExactSolveLinearUptoRow, standIns := [], harness := (true, "4f61df36e9f827228b82b3e761dadf2ce42ac25e7a92e2279c71b4754411e234"), looks := false }, kinds := [], alts := [], laidByText := true, laidKinds := [.data], laidTests := true, laidLooks := .later }
def FnExactSolveLinearUptoCardSaid : Prop := Claim7.holds Tryd.pinned (.plain (OpenSpec.upto fnExactSolveLinearSpec)) fnExactSolveLinearUptoCard

/-- THE SECOND FORM's CARD OF 'laws.FnExactKernelOf'. -/
def fnExactKernelOfUptoCard : Claim7 := { stood := { row := fnExactKernelOfUptoRow, standIns := [], harness := (true, "4f61df36e9f827228b82b3e761dadf2ce42ac25e7a92e2279c71b4754411e234"), looks := false }, kinds := [], alts := [], laidByText := true, laidKinds := [.data], laidTests := true, laidLooks := .later }
def FnExactKernelOfUptoCardSaid : Prop := Claim7.holds Tryd.pinned (.plain (OpenSpec.upto fnExactKernelOfSpec)) fnExactKernelOfUptoCard
end Rows
end Go.Proofs.YtdeabimojadgaaaDoor
