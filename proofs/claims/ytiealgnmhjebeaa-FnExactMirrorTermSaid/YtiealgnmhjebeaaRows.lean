/-
  No cell of these rows narrows 'for every input' (looked for: loops, veiled, ifaces, maps, wideKeys, modest, calm, conditions, laid).
  DERIVED. THE GIVEN ROWS OF THIS SEAT. 5 by the template 'for every input the law returns true; each argument reads behind the call as it read before'; 0 by the template 'total and deterministic' (their statements: YtiealgnmhjebeaaTotals.lean).
  GIVEN WITH THE SEED: the statements are not yours to turn. If you find one false, say at which input.
  Laid BY PROGRAM, IN A SANDBOX (cutbox-rows.mjs): the forced cells as the released guide's own fill.sh prints them over the translation 98fcc7690cc33687… (all of the seat's roots in one cut). By AI agents, Wed Nov 11 2026. No macro, syntax, notation, axiom, sorry.
-/
import Derived.Test.YtiealgnmhjebeaaChecked
import GoSem.Claim
import GoSem.ClaimJoined
import GoSem.ClaimMapViews
import Derived.JoinedTies
import Derived.KernelRfl
namespace Go.Proofs.Ytiealgnmhjebeaa
/- THE CELL 'sum', in the pinned program and in every row, IS THE sha256 OF THE DUMP (.gsa) THAT YtiealgnmhjebeaaProg.lean LOADS. Nothing in Lean hashes anything: it is a label: what it is worth is what the hold of that sum in a sandbox is worth. -/
noncomputable def Try.pinned : Pinned := { name := "ytiealgnmhjebeaa", sum := "98fcc7690cc3368724280572ff0c238427eac39ecb3471c3ee66fdc7193af84c", checked := Try.checked }
namespace Rows
def none {H : Type} : Left H := { results := [], args := [] }

/-- 'laws.FnExactMirrorTerm': WHATEVER THE INPUT: true; the input reads as it did. -/
def fnExactMirrorTermSpec : ChangeSpec := { name := "fnExactMirrorTerm", fn := fun _ => fun
  | [d] => { results := [.lit (.bool true)], args := [d] }
  | _ => none }
def fnExactMirrorTermRow : OpenClaim := { program := "ytiealgnmhjebeaa", sum := "98fcc7690cc3368724280572ff0c238427eac39ecb3471c3ee66fdc7193af84c", func := "loop.example/g01073/laws.FnExactMirrorTerm", spec := "fnExactMirrorTerm", unfollowed := true, recurses := true, apart := false }
def FnExactMirrorTermSaid : Prop := fnExactMirrorTermRow.holds Try.pinned (OpenSpec.ofChange fnExactMirrorTermSpec)

/-- ITS FALSE NEIGHBOUR: 'it returns false'. Refute it at one input. -/
def fnExactMirrorTermWrong : ChangeSpec := { name := "fnExactMirrorTerm", fn := fun _ => fun
  | [d] => { results := [.lit (.bool false)], args := [d] }
  | _ => none }
def FnExactMirrorTermWrongFalsely : Prop := fnExactMirrorTermRow.holds Try.pinned (OpenSpec.ofChange fnExactMirrorTermWrong)

/-- 'laws.FnExactMergeWires': WHATEVER THE INPUT: true; the input reads as it did. -/
def fnExactMergeWiresSpec : ChangeSpec := { name := "fnExactMergeWires", fn := fun _ => fun
  | [d1, d2, d3] => { results := [.lit (.bool true)], args := [d1, d2, d3] }
  | _ => none }
def fnExactMergeWiresRow : OpenClaim := { program := "ytiealgnmhjebeaa", sum := "98fcc7690cc3368724280572ff0c238427eac39ecb3471c3ee66fdc7193af84c", func := "loop.example/g01073/laws.FnExactMergeWires", spec := "fnExactMergeWires", unfollowed := true, recurses := true, apart := false }
def FnExactMergeWiresSaid : Prop := fnExactMergeWiresRow.holds Try.pinned (OpenSpec.ofChange fnExactMergeWiresSpec)

/-- ITS FALSE NEIGHBOUR: 'it returns false'. Refute it at one input. -/
def fnExactMergeWiresWrong : ChangeSpec := { name := "fnExactMergeWires", fn := fun _ => fun
  | [d1, d2, d3] => { results := [.lit (.bool false)], args := [d1, d2, d3] }
  | _ => none }
def FnExactMergeWiresWrongFalsely : Prop := fnExactMergeWiresRow.holds Try.pinned (OpenSpec.ofChange fnExactMergeWiresWrong)

/-- 'laws.FnExactMirrorGraph': WHATEVER THE INPUT: true; the input reads as it did. -/
def fnExactMirrorGraphSpec : ChangeSpec := { name := "fnExactMirrorGraph", fn := fun _ => fun
  | [d] => { results := [.lit (.bool true)], args := [d] }
  | _ => none }
def fnExactMirrorGraphRow : OpenClaim := { program := "ytiealgnmhjebeaa", sum := "98fcc7690cc3368724280572ff0c238427eac39ecb3471c3ee66fdc7193af84c", func := "loop.example/g01073/laws.FnExactMirrorGraph", spec := "fnExactMirrorGraph", unfollowed := true, recurses := true, apart := false }
def FnExactMirrorGraphSaid : Prop := fnExactMirrorGraphRow.holds Try.pinned (OpenSpec.ofChange fnExactMirrorGraphSpec)

/-- ITS FALSE NEIGHBOUR: 'it returns false'. Refute it at one input. -/
def fnExactMirrorGraphWrong : ChangeSpec := { name := "fnExactMirrorGraph", fn := fun _ => fun
  | [d] => { results := [.lit (.bool false)], args := [d] }
  | _ => none }
def FnExactMirrorGraphWrongFalsely : Prop := fnExactMirrorGraphRow.holds Try.pinned (OpenSpec.ofChange fnExactMirrorGraphWrong)

/-- 'laws.FnExactIsMonogamous': WHATEVER THE INPUT: true; the input reads as it did. -/
def fnExactIsMonogamousSpec : ChangeSpec := { name := "fnExactIsMonogamous", fn := fun _ => fun
  | [d] => { results := [.lit (.bool true)], args := [d] }
  | _ => none }
def fnExactIsMonogamousRow : OpenClaim := { program := "ytiealgnmhjebeaa", sum := "98fcc7690cc3368724280572ff0c238427eac39ecb3471c3ee66fdc7193af84c", func := "loop.example/g01073/laws.FnExactIsMonogamous", spec := "fnExactIsMonogamous", unfollowed := true, recurses := true, apart := false }
def FnExactIsMonogamousSaid : Prop := fnExactIsMonogamousRow.holds Try.pinned (OpenSpec.ofChange fnExactIsMonogamousSpec)

/-- ITS FALSE NEIGHBOUR: 'it returns false'. Refute it at one input. -/
def fnExactIsMonogamousWrong : ChangeSpec := { name := "fnExactIsMonogamous", fn := fun _ => fun
  | [d] => { results := [.lit (.bool false)], args := [d] }
  | _ => none }
def FnExactIsMonogamousWrongFalsely : Prop := fnExactIsMonogamousRow.holds Try.pinned (OpenSpec.ofChange fnExactIsMonogamousWrong)

/-- 'laws.FnExactRenumberGraph': WHATEVER THE INPUT: true; the input reads as it did. -/
def fnExactRenumberGraphSpec : ChangeSpec := { name := "fnExactRenumberGraph", fn := fun _ => fun
  | [d1, d2, d3] => { results := [.lit (.bool true)], args := [d1, d2, d3] }
  | _ => none }
def fnExactRenumberGraphRow : OpenClaim := { program := "ytiealgnmhjebeaa", sum := "98fcc7690cc3368724280572ff0c238427eac39ecb3471c3ee66fdc7193af84c", func := "loop.example/g01073/laws.FnExactRenumberGraph", spec := "fnExactRenumberGraph", unfollowed := true, recurses := true, apart := false }
def FnExactRenumberGraphSaid : Prop := fnExactRenumberGraphRow.holds Try.pinned (OpenSpec.ofChange fnExactRenumberGraphSpec)

/-- ITS FALSE NEIGHBOUR: 'it returns false'. Refute it at one input. -/
def fnExactRenumberGraphWrong : ChangeSpec := { name := "fnExactRenumberGraph", fn := fun _ => fun
  | [d1, d2, d3] => { results := [.lit (.bool false)], args := [d1, d2, d3] }
  | _ => none }
def FnExactRenumberGraphWrongFalsely : Prop := fnExactRenumberGraphRow.holds Try.pinned (OpenSpec.ofChange fnExactRenumberGraphWrong)

/- THE SECOND FORM. 'bulk': how many values and letters a reading holds, each counted each time it is reached (what is shared counts as often as it is met; a slice's spare places count too). A statement '..UptoSaid' is the law's where the arguments, and the package variables that the reading takes, are together of bulk at most 1048576: NARROWER than '..Said'. Prove '..Said' where nothing that the law and all that it calls make is longer than what came in: it says more and counts as full. Else prove '..UptoSaid'. A law counts once. -/
mutual
def uptoBulk {H : Type} : DataW H → Nat
  | .lit (.string bytes) => bytes.length + 1
  | .lit _ => 1
  | .nil => 1
  | .ptr d => uptoBulk d + 1
  | .slice elems spare => uptoBulkAll elems + uptoBulkAll spare + 1
  | .agg parts => uptoBulkAll parts + 1
  | .iface _ d => uptoBulk d + 1
  | .map entries => uptoBulkEntries entries + 1
  | .held _ => 1
def uptoBulkAll {H : Type} : List (DataW H) → Nat
  | [] => 0
  | d :: r => uptoBulk d + uptoBulkAll r
def uptoBulkEntries {H : Type} : List (Lit × DataW H) → Nat
  | [] => 0
  | x :: r => uptoBulkEntry x + uptoBulkEntries r
def uptoBulkEntry {H : Type} : Lit × DataW H → Nat
  | (.string bytes, d) => bytes.length + uptoBulk d + 1
  | (_, d) => uptoBulk d + 1
 end
def uptoSmall : (H : Type) → List (DataW H) → Bool := fun _ ds => decide (uptoBulkAll ds ≤ 1048576)
def OpenSpec.upto (s : _root_.Go.ChangeSpec) : _root_.Go.OpenSpec := { _root_.Go.OpenSpec.ofChange s with cond := some uptoSmall }

/-- 'laws.FnExactMirrorTerm', WHERE WHAT IT READS IS OF BULK AT MOST 1048576: true; the input reads as it did. -/
def fnExactMirrorTermUptoRow : OpenClaim := { program := "ytiealgnmhjebeaa", sum := "98fcc7690cc3368724280572ff0c238427eac39ecb3471c3ee66fdc7193af84c", func := "loop.example/g01073/laws.FnExactMirrorTerm", spec := "fnExactMirrorTerm", unfollowed := true, recurses := true, apart := false, narrowed := true }
def FnExactMirrorTermUptoSaid : Prop := fnExactMirrorTermUptoRow.holds Try.pinned (OpenSpec.upto fnExactMirrorTermSpec)

/-- 'laws.FnExactMergeWires', WHERE WHAT IT READS IS OF BULK AT MOST 1048576: true; the input reads as it did. -/
def fnExactMergeWiresUptoRow : OpenClaim := { program := "ytiealgnmhjebeaa", sum := "98fcc7690cc3368724280572ff0c238427eac39ecb3471c3ee66fdc7193af84c", func := "loop.example/g01073/laws.FnExactMergeWires", spec := "fnExactMergeWires", unfollowed := true, recurses := true, apart := false, narrowed := true }
def FnExactMergeWiresUptoSaid : Prop := fnExactMergeWiresUptoRow.holds Try.pinned (OpenSpec.upto fnExactMergeWiresSpec)

/-- 'laws.FnExactMirrorGraph', WHERE WHAT IT READS IS OF BULK AT MOST 1048576: true; the input reads as it did. -/
def fnExactMirrorGraphUptoRow : OpenClaim := { program := "ytiealgnmhjebeaa", sum := "98fcc7690cc3368724280572ff0c238427eac39ecb3471c3ee66fdc7193af84c", func := "loop.example/g01073/laws.FnExactMirrorGraph", spec := "fnExactMirrorGraph", unfollowed := true, recurses := true, apart := false, narrowed := true }
def FnExactMirrorGraphUptoSaid : Prop := fnExactMirrorGraphUptoRow.holds Try.pinned (OpenSpec.upto fnExactMirrorGraphSpec)

/-- 'laws.FnExactIsMonogamous', WHERE WHAT IT READS IS OF BULK AT MOST 1048576: true; the input reads as it did. -/
def fnExactIsMonogamousUptoRow : OpenClaim := { program := "ytiealgnmhjebeaa", sum := "98fcc7690cc3368724280572ff0c238427eac39ecb3471c3ee66fdc7193af84c", func := "loop.example/g01073/laws.FnExactIsMonogamous", spec := "fnExactIsMonogamous", unfollowed := true, recurses := true, apart := false, narrowed := true }
def FnExactIsMonogamousUptoSaid : Prop := fnExactIsMonogamousUptoRow.holds Try.pinned (OpenSpec.upto fnExactIsMonogamousSpec)

/-- 'laws.FnExactRenumberGraph', WHERE WHAT IT READS IS OF BULK AT MOST 1048576: true; the input reads as it did. -/
def fnExactRenumberGraphUptoRow : OpenClaim := { program := "ytiealgnmhjebeaa", sum := "98fcc7690cc3368724280572ff0c238427eac39ecb3471c3ee66fdc7193af84c", func := "loop.example/g01073/laws.FnExactRenumberGraph", spec := "fnExactRenumberGraph", unfollowed := true, recurses := true, apart := false, narrowed := true }
def FnExactRenumberGraphUptoSaid : Prop := fnExactRenumberGraphUptoRow.holds Try.pinned (OpenSpec.upto fnExactRenumberGraphSpec)

end Rows
end Go.Proofs.Ytiealgnmhjebeaa
