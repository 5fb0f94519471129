/-
  DERIVED. GIVEN WITH THE SEED: THE CARDS: each row of YtoajbnkpognoiaaDoorRows.lean that lists a variable, with what it lists TIED to the program's text (the seventh form; the later family's looks); each row that meets fmt, with fmt's text TOLD by the authors' own Lean function (tested against real Go, not proved from fmt's source: count such statements apart). THE CARD IS WHAT COUNTS. Prove the row's statement (the work); the ties are given (YtoajbnkpognoiaaDoorTie.lean); close each card by the builder's one call (the guide's Derived/Test/ToyasCard.lean, 'card_holds'). Laid BY PROGRAM, IN A SANDBOX (cutbox-door.mjs). By AI agents, Wed Nov 11 2026. No macro, syntax, notation, axiom, sorry.
-/
import Derived.Test.YtoajbnkpognoiaaDoorRows
import GoSem.ClaimSeven
namespace Go.Proofs.YtoajbnkpognoiaaDoor
namespace Rows

/-- THE TIED CARD OF 'laws.FnFields'. -/
def fnFieldsCard : Claim7 := { stood := { row := fnFieldsRow, standIns := [], harness := (true, "4907707c0647108cef6dd3e39486f4fd5a80c3c34f045cc0924155ab15ec4401"), looks := false }, kinds := [], alts := [], laidByText := true, laidKinds := [.data], laidTests := true, laidLooks := .later }
def FnFieldsCardSaid : Prop := Claim7.holds Tryd.pinned (.plain (OpenSpec.ofChange fnFieldsSpec)) fnFieldsCard

/-- THE TIED CARD OF 'laws.FnFieldRoots'. -/
def fnFieldRootsCard : Claim7 := { stood := { row := fnFieldRootsRow, standIns := [], harness := (true, "4907707c0647108cef6dd3e39486f4fd5a80c3c34f045cc0924155ab15ec4401"), looks := false }, kinds := [], alts := [], laidByText := true, laidKinds := [.data], laidTests := true, laidLooks := .later }
def FnFieldRootsCardSaid : Prop := Claim7.holds Tryd.pinned (.plain (OpenSpec.ofChange fnFieldRootsSpec)) fnFieldRootsCard

/-- THE SECOND FORM's CARD OF 'laws.FnFields'. -/
def fnFieldsUptoCard : Claim7 := { stood := { row := fnFieldsUptoRow, standIns := [], harness := (true, "4907707c0647108cef6dd3e39486f4fd5a80c3c34f045cc0924155ab15ec4401"), looks := false }, kinds := [], alts := [], laidByText := true, laidKinds := [.data], laidTests := true, laidLooks := .later }
def FnFieldsUptoCardSaid : Prop := Claim7.holds Tryd.pinned (.plain (OpenSpec.upto fnFieldsSpec)) fnFieldsUptoCard

/-- THE SECOND FORM's CARD OF 'laws.FnFieldRoots'. -/
def fnFieldRootsUptoCard : Claim7 := { stood := { row := fnFieldRootsUptoRow, standIns := [], harness := (true, "4907707c0647108cef6dd3e39486f4fd5a80c3c34f045cc0924155ab15ec4401"), looks := false }, kinds := [], alts := [], laidByText := true, laidKinds := [.data], laidTests := true, laidLooks := .later }
def FnFieldRootsUptoCardSaid : Prop := Claim7.holds Tryd.pinned (.plain (OpenSpec.upto fnFieldRootsSpec)) fnFieldRootsUptoCard
end Rows
end Go.Proofs.YtoajbnkpognoiaaDoor
