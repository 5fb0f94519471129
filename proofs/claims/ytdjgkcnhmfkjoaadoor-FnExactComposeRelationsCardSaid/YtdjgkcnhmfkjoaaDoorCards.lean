/-
  DERIVED. GIVEN WITH THE SEED: THE CARDS: each row of YtdjgkcnhmfkjoaaDoorRows.lean that lists a variable, with what it lists TIED to the program's text (the seventh form; the later family's looks); each row that meets fmt, with fmt's text TOLD by the authors' own Lean function (tested against real Go, not proved from fmt's source: count such statements apart). THE CARD IS WHAT COUNTS. Prove the row's statement (the work); the ties are given (YtdjgkcnhmfkjoaaDoorTie.lean); close each card by the builder's one call (the guide's Derived/Test/ToyasCard.lean, 'card_holds'). Laid BY PROGRAM, IN A SANDBOX (cutbox-door.mjs). By AI agents, Wed Nov 11 2026. No macro, syntax, notation, axiom, sorry.
-/
import Derived.Test.YtdjgkcnhmfkjoaaDoorRows
import GoSem.ClaimSeven
namespace Go.Proofs.YtdjgkcnhmfkjoaaDoor
namespace Rows

/-- THE TIED CARD OF 'laws.FnExactComposeRelations'. -/
def fnExactComposeRelationsCard : Claim7 := { stood := { row := fnExactComposeRelationsRow, standIns := [], harness := (true, "5bf5b583648940d47c10f80db33c4e302a69605619f3aa299f505b5648f75400"), looks := false }, kinds := [], alts := [], laidByText := true, laidKinds := [.data], laidTests := true, laidLooks := .later }
def FnExactComposeRelationsCardSaid : Prop := Claim7.holds Tryd.pinned (.plain (OpenSpec.ofChange fnExactComposeRelationsSpec)) fnExactComposeRelationsCard

/-- THE SECOND FORM's CARD OF 'laws.FnExactComposeRelations'. -/
def fnExactComposeRelationsUptoCard : Claim7 := { stood := { row := fnExactComposeRelationsUptoRow, standIns := [], harness := (true, "5bf5b583648940d47c10f80db33c4e302a69605619f3aa299f505b5648f75400"), looks := false }, kinds := [], alts := [], laidByText := true, laidKinds := [.data], laidTests := true, laidLooks := .later }
def FnExactComposeRelationsUptoCardSaid : Prop := Claim7.holds Tryd.pinned (.plain (OpenSpec.upto fnExactComposeRelationsSpec)) fnExactComposeRelationsUptoCard
end Rows
end Go.Proofs.YtdjgkcnhmfkjoaaDoor
