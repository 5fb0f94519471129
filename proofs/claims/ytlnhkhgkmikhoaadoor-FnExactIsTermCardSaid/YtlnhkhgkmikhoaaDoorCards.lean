/-
  DERIVED. GIVEN WITH THE SEED: THE CARDS: each row of YtlnhkhgkmikhoaaDoorRows.lean that lists a variable, with what it lists TIED to the program's text (the seventh form; the later family's looks); each row that meets fmt, with fmt's text TOLD by the authors' own Lean function (tested against real Go, not proved from fmt's source: count such statements apart). THE CARD IS WHAT COUNTS. Prove the row's statement (the work); the ties are given (YtlnhkhgkmikhoaaDoorTie.lean); close each card by the builder's one call (the guide's Derived/Test/ToyasCard.lean, 'card_holds'). Laid BY PROGRAM, IN A SANDBOX (cutbox-door.mjs). By AI agents, Wed Nov 11 2026. No macro, syntax, notation, axiom, sorry.
-/
import Derived.Test.YtlnhkhgkmikhoaaDoorRows
import GoSem.ClaimSeven
namespace Go.Proofs.YtlnhkhgkmikhoaaDoor
namespace Rows

/-- THE TIED CARD OF 'laws.FnExactIsTerm'. -/
def fnExactIsTermCard : Claim7 := { stood := { row := fnExactIsTermRow, standIns := [], harness := (true, "3398536fa454f16f5f89d1b55bd2f63ac76bf741511c933d8d21a9fe8d1fd2e9"), looks := false }, kinds := [], alts := [], laidByText := true, laidKinds := [.data], laidTests := true, laidLooks := .later }
def FnExactIsTermCardSaid : Prop := Claim7.holds Tryd.pinned (.plain (OpenSpec.ofChange fnExactIsTermSpec)) fnExactIsTermCard

/-- THE SECOND FORM's CARD OF 'laws.FnExactIsTerm'. -/
def fnExactIsTermUptoCard : Claim7 := { stood := { row := fnExactIsTermUptoRow, standIns := [], harness := (true, "3398536fa454f16f5f89d1b55bd2f63ac76bf741511c933d8d21a9fe8d1fd2e9"), looks := false }, kinds := [], alts := [], laidByText := true, laidKinds := [.data], laidTests := true, laidLooks := .later }
def FnExactIsTermUptoCardSaid : Prop := Claim7.holds Tryd.pinned (.plain (OpenSpec.upto fnExactIsTermSpec)) fnExactIsTermUptoCard
end Rows
end Go.Proofs.YtlnhkhgkmikhoaaDoor
