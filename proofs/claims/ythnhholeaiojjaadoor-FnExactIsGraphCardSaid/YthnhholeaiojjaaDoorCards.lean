/-
  DERIVED. GIVEN WITH THE SEED: THE CARDS: each row of YthnhholeaiojjaaDoorRows.lean that lists a variable, with what it lists TIED to the program's text (the seventh form; the later family's looks); each row that meets fmt, with fmt's text TOLD by the authors' own Lean function (tested against real Go, not proved from fmt's source: count such statements apart). THE CARD IS WHAT COUNTS. Prove the row's statement (the work); the ties are given (YthnhholeaiojjaaDoorTie.lean); close each card by the builder's one call (the guide's Derived/Test/ToyasCard.lean, 'card_holds'). Laid BY PROGRAM, IN A SANDBOX (cutbox-door.mjs). By AI agents, Wed Nov 11 2026. No macro, syntax, notation, axiom, sorry.
-/
import Derived.Test.YthnhholeaiojjaaDoorRows
import GoSem.ClaimSeven
namespace Go.Proofs.YthnhholeaiojjaaDoor
namespace Rows

/-- THE TIED CARD OF 'laws.FnExactIsGraph'. -/
def fnExactIsGraphCard : Claim7 := { stood := { row := fnExactIsGraphRow, standIns := [], harness := (true, "9bc557b96e0086087f6fad08587b86ca28eb15c9df7a0eff72b2238c88dd46e2"), looks := false }, kinds := [], alts := [], laidByText := true, laidKinds := [.data], laidTests := true, laidLooks := .later }
def FnExactIsGraphCardSaid : Prop := Claim7.holds Tryd.pinned (.plain (OpenSpec.ofChange fnExactIsGraphSpec)) fnExactIsGraphCard

/-- THE SECOND FORM's CARD OF 'laws.FnExactIsGraph'. -/
def fnExactIsGraphUptoCard : Claim7 := { stood := { row := fnExactIsGraphUptoRow, standIns := [], harness := (true, "9bc557b96e0086087f6fad08587b86ca28eb15c9df7a0eff72b2238c88dd46e2"), looks := false }, kinds := [], alts := [], laidByText := true, laidKinds := [.data], laidTests := true, laidLooks := .later }
def FnExactIsGraphUptoCardSaid : Prop := Claim7.holds Tryd.pinned (.plain (OpenSpec.upto fnExactIsGraphSpec)) fnExactIsGraphUptoCard
end Rows
end Go.Proofs.YthnhholeaiojjaaDoor
