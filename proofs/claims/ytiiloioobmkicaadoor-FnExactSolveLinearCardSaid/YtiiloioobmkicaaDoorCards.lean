/-
  DERIVED. GIVEN WITH THE SEED: THE CARDS: each row of YtiiloioobmkicaaDoorRows.lean that lists a variable, with what it lists TIED to the program's text (the seventh form; the later family's looks); each row that meets fmt, with fmt's text TOLD by the authors' own Lean function (tested against real Go, not proved from fmt's source: count such statements apart). THE CARD IS WHAT COUNTS. Prove the row's statement (the work); the ties are given (YtiiloioobmkicaaDoorTie.lean); close each card by the builder's one call (the guide's Derived/Test/ToyasCard.lean, 'card_holds'). Laid BY PROGRAM, IN A SANDBOX (cutbox-door.mjs). By AI agents, Wed Nov 11 2026. No macro, syntax, notation, axiom, sorry.
-/
import Derived.Test.YtiiloioobmkicaaDoorRows
import GoSem.ClaimSeven
namespace Go.Proofs.YtiiloioobmkicaaDoor
namespace Rows

/-- THE TIED CARD OF 'laws.FnExactOrthogonalRelation'. -/
def fnExactOrthogonalRelationCard : Claim7 := { stood := { row := fnExactOrthogonalRelationRow, standIns := [], harness := (true, "9ba3a129b4699daf6b224df4113a0e9a272336283229aadfffdf77450ddbd9d0"), looks := false }, kinds := [], alts := [], laidByText := true, laidKinds := [.data], laidTests := true, laidLooks := .later }
def FnExactOrthogonalRelationCardSaid : Prop := Claim7.holds Tryd.pinned (.plain (OpenSpec.ofChange fnExactOrthogonalRelationSpec)) fnExactOrthogonalRelationCard

/-- THE TIED CARD OF 'laws.FnExactTensorRelations'. -/
def fnExactTensorRelationsCard : Claim7 := { stood := { row := fnExactTensorRelationsRow, standIns := [], harness := (true, "9ba3a129b4699daf6b224df4113a0e9a272336283229aadfffdf77450ddbd9d0"), looks := false }, kinds := [], alts := [], laidByText := true, laidKinds := [.data], laidTests := true, laidLooks := .later }
def FnExactTensorRelationsCardSaid : Prop := Claim7.holds Tryd.pinned (.plain (OpenSpec.ofChange fnExactTensorRelationsSpec)) fnExactTensorRelationsCard

/-- THE TIED CARD OF 'laws.FnExactComposeRelations'. -/
def fnExactComposeRelationsCard : Claim7 := { stood := { row := fnExactComposeRelationsRow, standIns := [], harness := (true, "9ba3a129b4699daf6b224df4113a0e9a272336283229aadfffdf77450ddbd9d0"), looks := false }, kinds := [], alts := [], laidByText := true, laidKinds := [.data], laidTests := true, laidLooks := .later }
def FnExactComposeRelationsCardSaid : Prop := Claim7.holds Tryd.pinned (.plain (OpenSpec.ofChange fnExactComposeRelationsSpec)) fnExactComposeRelationsCard

/-- THE TIED CARD OF 'laws.FnExactFunctionOf'. -/
def fnExactFunctionOfCard : Claim7 := { stood := { row := fnExactFunctionOfRow, standIns := [], harness := (true, "9ba3a129b4699daf6b224df4113a0e9a272336283229aadfffdf77450ddbd9d0"), looks := false }, kinds := [], alts := [], laidByText := true, laidKinds := [.data], laidTests := true, laidLooks := .later }
def FnExactFunctionOfCardSaid : Prop := Claim7.holds Tryd.pinned (.plain (OpenSpec.ofChange fnExactFunctionOfSpec)) fnExactFunctionOfCard

/-- THE TIED CARD OF 'laws.FnExactSolveLinear'. -/
def fnExactSolveLinearCard : Claim7 := { stood := { row := fnExactSolveLinearRow, standIns := [], harness := (true, "9ba3a129b4699daf6b224df4113a0e9a272336283229aadfffdf77450ddbd9d0"), looks := false }, kinds := [], alts := [], laidByText := true, laidKinds := [.data], laidTests := true, laidLooks := .later }
def FnExactSolveLinearCardSaid : Prop := Claim7.holds Tryd.pinned (.plain (OpenSpec.ofChange fnExactSolveLinearSpec)) fnExactSolveLinearCard

/-- THE SECOND FORM's CARD OF 'laws.FnExactOrthogonalRelation'. -/
def fnExactOrthogonalRelationUptoCard : Claim7 := { stood := { row := fnExactOrthogonalRelationUptoRow, standIns := [], harness := (true, "9ba3a129b4699daf6b224df4113a0e9a272336283229aadfffdf77450ddbd9d0"), looks := false }, kinds := [], alts := [], laidByText := true, laidKinds := [.data], laidTests := true, laidLooks := .later }
def FnExactOrthogonalRelationUptoCardSaid : Prop := Claim7.holds Tryd.pinned (.plain (OpenSpec.upto fnExactOrthogonalRelationSpec)) fnExactOrthogonalRelationUptoCard

/-- THE SECOND FORM's CARD OF 'laws.FnExactTensorRelations'. -/
def fnExactTensorRelationsUptoCard : Claim7 := { stood := { row := fnExactTensorRelationsUptoRow, standIns := [], harness := (true, "9ba3a129b4699daf6b224df4113a0e9a272336283229aadfffdf77450ddbd9d0"), looks := false }, kinds := [], alts := [], laidByText := true, laidKinds := [.data], laidTests := true, laidLooks := .later }
def FnExactTensorRelationsUptoCardSaid : Prop := Claim7.holds Tryd.pinned (.plain (OpenSpec.upto fnExactTensorRelationsSpec)) fnExactTensorRelationsUptoCard

/-- THE SECOND FORM's CARD OF 'laws.FnExactComposeRelations'. -/
def fnExactComposeRelationsUptoCard : Claim7 := { stood := { row := fnExactComposeRelationsUptoRow, standIns := [], harness := (true, "9ba3a129b4699daf6b224df4113a0e9a272336283229aadfffdf77450ddbd9d0"), looks := false }, kinds := [], alts := [], laidByText := true, laidKinds := [.data], laidTests := true, laidLooks := .later }
def FnExactComposeRelationsUptoCardSaid : Prop := Claim7.holds Tryd.pinned (.plain (OpenSpec.upto fnExactComposeRelationsSpec)) fnExactComposeRelationsUptoCard

/-- THE SECOND FORM's CARD OF 'laws.FnExactFunctionOf'. -/
def fnExactFunctionOfUptoCard : Claim7 := { stood := { row := fnExactFunctionOfUptoRow, standIns := [], harness := (true, "9ba3a129b4699daf6b224df4113a0e9a272336283229aadfffdf77450ddbd9d0"), looks := false }, kinds := [], alts := [], laidByText := true, laidKinds := [.data], laidTests := true, laidLooks := .later }
def FnExactFunctionOfUptoCardSaid : Prop := Claim7.holds Tryd.pinned (.plain (OpenSpec.upto fnExactFunctionOfSpec)) fnExactFunctionOfUptoCard

/-- THE SECOND FORM's CARD OF 'laws.FnExactSolveLinear'. -/
def fnExactSolveLinearUptoCard : Claim7 := { stood := { row := fnExactSolveLinearUptoRow, standIns := [], harness := (true, "9ba3a129b4699daf6b224df4113a0e9a272336283229aadfffdf77450ddbd9d0"), looks := false }, kinds := [], alts := [], laidByText := true, laidKinds := [.data], laidTests := true, laidLooks := .later }
def FnExactSolveLinearUptoCardSaid : Prop := Claim7.holds Tryd.pinned (.plain (OpenSpec.upto fnExactSolveLinearSpec)) fnExactSolveLinearUptoCard
end Rows
end Go.Proofs.YtiiloioobmkicaaDoor
