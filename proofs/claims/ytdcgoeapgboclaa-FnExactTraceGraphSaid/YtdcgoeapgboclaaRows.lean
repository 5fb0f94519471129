/-
  No cell of these rows narrows 'for every input' (looked for: loops, veiled, ifaces, maps, wideKeys, modest, calm, conditions, laid).
  DERIVED. THE GIVEN ROWS OF THIS SEAT. 5 by the template 'for every input the law returns true; each argument reads behind the call as it read before'; 0 by the template 'total and deterministic' (their statements: YtdcgoeapgboclaaTotals.lean).
  GIVEN WITH THE SEED: the statements are not yours to turn. If you find one false, say at which input.
  Laid BY PROGRAM, IN A SANDBOX (cutbox-rows.mjs): the forced cells as the released guide's own fill.sh prints them over the translation 1320e57c514cdd96… (all of the seat's roots in one cut). By AI agents, Wed Nov 11 2026. No macro, syntax, notation, axiom, sorry.
-/
import Derived.Test.YtdcgoeapgboclaaChecked
import GoSem.Claim
import GoSem.ClaimJoined
import GoSem.ClaimMapViews
import Derived.JoinedTies
import Derived.KernelRfl
namespace Go.Proofs.Ytdcgoeapgboclaa
/- THE CELL 'sum', in the pinned program and in every row, IS THE sha256 OF THE DUMP (.gsa) THAT YtdcgoeapgboclaaProg.lean LOADS. Nothing in Lean hashes anything: it is a label: what it is worth is what the hold of that sum in a sandbox is worth. -/
noncomputable def Try.pinned : Pinned := { name := "ytdcgoeapgboclaa", sum := "1320e57c514cdd96139dcc501ecf063c91e394bae3235afa80d1bfb8ca724806", checked := Try.checked }
namespace Rows
def none {H : Type} : Left H := { results := [], args := [] }

/-- 'laws.FnExactSeqGraphs': WHATEVER THE INPUT: true; the input reads as it did. -/
def fnExactSeqGraphsSpec : ChangeSpec := { name := "fnExactSeqGraphs", fn := fun _ => fun
  | [d1, d2] => { results := [.lit (.bool true)], args := [d1, d2] }
  | _ => none }
def fnExactSeqGraphsRow : OpenClaim := { program := "ytdcgoeapgboclaa", sum := "1320e57c514cdd96139dcc501ecf063c91e394bae3235afa80d1bfb8ca724806", func := "loop.example/g01073/laws.FnExactSeqGraphs", spec := "fnExactSeqGraphs", unfollowed := true, recurses := true, apart := false }
def FnExactSeqGraphsSaid : Prop := fnExactSeqGraphsRow.holds Try.pinned (OpenSpec.ofChange fnExactSeqGraphsSpec)

/-- ITS FALSE NEIGHBOUR: 'it returns false'. Refute it at one input. -/
def fnExactSeqGraphsWrong : ChangeSpec := { name := "fnExactSeqGraphs", fn := fun _ => fun
  | [d1, d2] => { results := [.lit (.bool false)], args := [d1, d2] }
  | _ => none }
def FnExactSeqGraphsWrongFalsely : Prop := fnExactSeqGraphsRow.holds Try.pinned (OpenSpec.ofChange fnExactSeqGraphsWrong)

/-- 'laws.FnExactParGraphs': WHATEVER THE INPUT: true; the input reads as it did. -/
def fnExactParGraphsSpec : ChangeSpec := { name := "fnExactParGraphs", fn := fun _ => fun
  | [d1, d2] => { results := [.lit (.bool true)], args := [d1, d2] }
  | _ => none }
def fnExactParGraphsRow : OpenClaim := { program := "ytdcgoeapgboclaa", sum := "1320e57c514cdd96139dcc501ecf063c91e394bae3235afa80d1bfb8ca724806", func := "loop.example/g01073/laws.FnExactParGraphs", spec := "fnExactParGraphs", unfollowed := true, recurses := true, apart := false }
def FnExactParGraphsSaid : Prop := fnExactParGraphsRow.holds Try.pinned (OpenSpec.ofChange fnExactParGraphsSpec)

/-- ITS FALSE NEIGHBOUR: 'it returns false'. Refute it at one input. -/
def fnExactParGraphsWrong : ChangeSpec := { name := "fnExactParGraphs", fn := fun _ => fun
  | [d1, d2] => { results := [.lit (.bool false)], args := [d1, d2] }
  | _ => none }
def FnExactParGraphsWrongFalsely : Prop := fnExactParGraphsRow.holds Try.pinned (OpenSpec.ofChange fnExactParGraphsWrong)

/-- 'laws.FnExactTraceGraph': WHATEVER THE INPUT: true; the input reads as it did. -/
def fnExactTraceGraphSpec : ChangeSpec := { name := "fnExactTraceGraph", fn := fun _ => fun
  | [d1, d2] => { results := [.lit (.bool true)], args := [d1, d2] }
  | _ => none }
def fnExactTraceGraphRow : OpenClaim := { program := "ytdcgoeapgboclaa", sum := "1320e57c514cdd96139dcc501ecf063c91e394bae3235afa80d1bfb8ca724806", func := "loop.example/g01073/laws.FnExactTraceGraph", spec := "fnExactTraceGraph", unfollowed := true, recurses := true, apart := false }
def FnExactTraceGraphSaid : Prop := fnExactTraceGraphRow.holds Try.pinned (OpenSpec.ofChange fnExactTraceGraphSpec)

/-- ITS FALSE NEIGHBOUR: 'it returns false'. Refute it at one input. -/
def fnExactTraceGraphWrong : ChangeSpec := { name := "fnExactTraceGraph", fn := fun _ => fun
  | [d1, d2] => { results := [.lit (.bool false)], args := [d1, d2] }
  | _ => none }
def FnExactTraceGraphWrongFalsely : Prop := fnExactTraceGraphRow.holds Try.pinned (OpenSpec.ofChange fnExactTraceGraphWrong)

/-- 'laws.FnExactIsAcyclic': WHATEVER THE INPUT: true; the input reads as it did. -/
def fnExactIsAcyclicSpec : ChangeSpec := { name := "fnExactIsAcyclic", fn := fun _ => fun
  | [d] => { results := [.lit (.bool true)], args := [d] }
  | _ => none }
def fnExactIsAcyclicRow : OpenClaim := { program := "ytdcgoeapgboclaa", sum := "1320e57c514cdd96139dcc501ecf063c91e394bae3235afa80d1bfb8ca724806", func := "loop.example/g01073/laws.FnExactIsAcyclic", spec := "fnExactIsAcyclic", unfollowed := true, recurses := true, apart := false }
def FnExactIsAcyclicSaid : Prop := fnExactIsAcyclicRow.holds Try.pinned (OpenSpec.ofChange fnExactIsAcyclicSpec)

/-- ITS FALSE NEIGHBOUR: 'it returns false'. Refute it at one input. -/
def fnExactIsAcyclicWrong : ChangeSpec := { name := "fnExactIsAcyclic", fn := fun _ => fun
  | [d] => { results := [.lit (.bool false)], args := [d] }
  | _ => none }
def FnExactIsAcyclicWrongFalsely : Prop := fnExactIsAcyclicRow.holds Try.pinned (OpenSpec.ofChange fnExactIsAcyclicWrong)

/-- 'laws.FnExactComponentsOf': WHATEVER THE INPUT: true; the input reads as it did. -/
def fnExactComponentsOfSpec : ChangeSpec := { name := "fnExactComponentsOf", fn := fun _ => fun
  | [d] => { results := [.lit (.bool true)], args := [d] }
  | _ => none }
def fnExactComponentsOfRow : OpenClaim := { program := "ytdcgoeapgboclaa", sum := "1320e57c514cdd96139dcc501ecf063c91e394bae3235afa80d1bfb8ca724806", func := "loop.example/g01073/laws.FnExactComponentsOf", spec := "fnExactComponentsOf", unfollowed := true, recurses := true, apart := false }
def FnExactComponentsOfSaid : Prop := fnExactComponentsOfRow.holds Try.pinned (OpenSpec.ofChange fnExactComponentsOfSpec)

/-- ITS FALSE NEIGHBOUR: 'it returns false'. Refute it at one input. -/
def fnExactComponentsOfWrong : ChangeSpec := { name := "fnExactComponentsOf", fn := fun _ => fun
  | [d] => { results := [.lit (.bool false)], args := [d] }
  | _ => none }
def FnExactComponentsOfWrongFalsely : Prop := fnExactComponentsOfRow.holds Try.pinned (OpenSpec.ofChange fnExactComponentsOfWrong)

/- THE SECOND FORM. 'bulk': how many values and letters a reading holds, each counted each time it is reached (what is shared counts as often as it is met; a slice's spare places count too). A statement '..UptoSaid' is the law's where the arguments, and the package variables that the reading takes, are together of bulk at most 1048576: NARROWER than '..Said'. Prove '..Said' where nothing that the law and all that it calls make is longer than what came in: it says more and counts as full. Else prove '..UptoSaid'. A law counts once. -/
mutual
def uptoBulk {H : Type} : DataW H → Nat
  | .lit (.string bytes) => bytes.length + 1
  | .lit _ => 1
  | .nil => 1
  | .ptr d => uptoBulk d + 1
  | .slice elems spare => uptoBulkAll elems + uptoBulkAll spare + 1
  | .agg parts => uptoBulkAll parts + 1
  | .iface _ d => uptoBulk d + 1
  | .map entries => uptoBulkEntries entries + 1
  | .held _ => 1
def uptoBulkAll {H : Type} : List (DataW H) → Nat
  | [] => 0
  | d :: r => uptoBulk d + uptoBulkAll r
def uptoBulkEntries {H : Type} : List (Lit × DataW H) → Nat
  | [] => 0
  | x :: r => uptoBulkEntry x + uptoBulkEntries r
def uptoBulkEntry {H : Type} : Lit × DataW H → Nat
  | (.string bytes, d) => bytes.length + uptoBulk d + 1
  | (_, d) => uptoBulk d + 1
 end
def uptoSmall : (H : Type) → List (DataW H) → Bool := fun _ ds => decide (uptoBulkAll ds ≤ 1048576)
def OpenSpec.upto (s : _root_.Go.ChangeSpec) : _root_.Go.OpenSpec := { _root_.Go.OpenSpec.ofChange s with cond := some uptoSmall }

/-- 'laws.FnExactSeqGraphs', WHERE WHAT IT READS IS OF BULK AT MOST 1048576: true; the input reads as it did. -/
def fnExactSeqGraphsUptoRow : OpenClaim := { program := "ytdcgoeapgboclaa", sum := "1320e57c514cdd96139dcc501ecf063c91e394bae3235afa80d1bfb8ca724806", func := "loop.example/g01073/laws.FnExactSeqGraphs", spec := "fnExactSeqGraphs", unfollowed := true, recurses := true, apart := false, narrowed := true }
def FnExactSeqGraphsUptoSaid : Prop := fnExactSeqGraphsUptoRow.holds Try.pinned (OpenSpec.upto fnExactSeqGraphsSpec)

/-- 'laws.FnExactParGraphs', WHERE WHAT IT READS IS OF BULK AT MOST 1048576: true; the input reads as it did. -/
def fnExactParGraphsUptoRow : OpenClaim := { program := "ytdcgoeapgboclaa", sum := "1320e57c514cdd96139dcc501ecf063c91e394bae3235afa80d1bfb8ca724806", func := "loop.example/g01073/laws.FnExactParGraphs", spec := "fnExactParGraphs", unfollowed := true, recurses := true, apart := false, narrowed := true }
def FnExactParGraphsUptoSaid : Prop := fnExactParGraphsUptoRow.holds Try.pinned (OpenSpec.upto fnExactParGraphsSpec)

/-- 'laws.FnExactTraceGraph', WHERE WHAT IT READS IS OF BULK AT MOST 1048576: true; the input reads as it did. -/
def fnExactTraceGraphUptoRow : OpenClaim := { program := "ytdcgoeapgboclaa", sum := "1320e57c514cdd96139dcc501ecf063c91e394bae3235afa80d1bfb8ca724806", func := "loop.example/g01073/laws.FnExactTraceGraph", spec := "fnExactTraceGraph", unfollowed := true, recurses := true, apart := false, narrowed := true }
def FnExactTraceGraphUptoSaid : Prop := fnExactTraceGraphUptoRow.holds Try.pinned (OpenSpec.upto fnExactTraceGraphSpec)

/-- 'laws.FnExactIsAcyclic', WHERE WHAT IT READS IS OF BULK AT MOST 1048576: true; the input reads as it did. -/
def fnExactIsAcyclicUptoRow : OpenClaim := { program := "ytdcgoeapgboclaa", sum := "1320e57c514cdd96139dcc501ecf063c91e394bae3235afa80d1bfb8ca724806", func := "loop.example/g01073/laws.FnExactIsAcyclic", spec := "fnExactIsAcyclic", unfollowed := true, recurses := true, apart := false, narrowed := true }
def FnExactIsAcyclicUptoSaid : Prop := fnExactIsAcyclicUptoRow.holds Try.pinned (OpenSpec.upto fnExactIsAcyclicSpec)

/-- 'laws.FnExactComponentsOf', WHERE WHAT IT READS IS OF BULK AT MOST 1048576: true; the input reads as it did. -/
def fnExactComponentsOfUptoRow : OpenClaim := { program := "ytdcgoeapgboclaa", sum := "1320e57c514cdd96139dcc501ecf063c91e394bae3235afa80d1bfb8ca724806", func := "loop.example/g01073/laws.FnExactComponentsOf", spec := "fnExactComponentsOf", unfollowed := true, recurses := true, apart := false, narrowed := true }
def FnExactComponentsOfUptoSaid : Prop := fnExactComponentsOfUptoRow.holds Try.pinned (OpenSpec.upto fnExactComponentsOfSpec)

end Rows
end Go.Proofs.Ytdcgoeapgboclaa
