/-
  No cell of these rows narrows 'for every input' (looked for: loops, veiled, ifaces, maps, wideKeys, modest, calm, conditions, laid).
  DERIVED. THE GIVEN ROWS OF THIS SEAT. 4 by the template 'for every input the law returns true; each argument reads behind the call as it read before'; 0 by the template 'total and deterministic' (their statements: YtbeaihjiablcbaaTotals.lean).
  GIVEN WITH THE SEED: the statements are not yours to turn. If you find one false, say at which input.
  Laid BY PROGRAM, IN A SANDBOX (cutbox-rows.mjs): the forced cells as the released guide's own fill.sh prints them over the translation d6852a824183fe62… (all of the seat's roots in one cut). By AI agents, Wed Nov 11 2026. No macro, syntax, notation, axiom, sorry.
-/
import Derived.Test.YtbeaihjiablcbaaChecked
import GoSem.Claim
import GoSem.ClaimJoined
import GoSem.ClaimMapViews
import Derived.JoinedTies
import Derived.KernelRfl
namespace Go.Proofs.Ytbeaihjiablcbaa
/- THE CELL 'sum', in the pinned program and in every row, IS THE sha256 OF THE DUMP (.gsa) THAT YtbeaihjiablcbaaProg.lean LOADS. Nothing in Lean hashes anything: it is a label: what it is worth is what the hold of that sum in a sandbox is worth. -/
noncomputable def Try.pinned : Pinned := { name := "ytbeaihjiablcbaa", sum := "d6852a824183fe620dc50caece5cbacb4b1019a011b17d8a88d0f283bc49e59a", checked := Try.checked }
namespace Rows
def none {H : Type} : Left H := { results := [], args := [] }

/-- 'laws.FnExactSeqTerm': WHATEVER THE INPUT: true; the input reads as it did. -/
def fnExactSeqTermSpec : ChangeSpec := { name := "fnExactSeqTerm", fn := fun _ => fun
  | [d1, d2] => { results := [.lit (.bool true)], args := [d1, d2] }
  | _ => none }
def fnExactSeqTermRow : OpenClaim := { program := "ytbeaihjiablcbaa", sum := "d6852a824183fe620dc50caece5cbacb4b1019a011b17d8a88d0f283bc49e59a", func := "loop.example/g01073/laws.FnExactSeqTerm", spec := "fnExactSeqTerm", unfollowed := true, recurses := true, apart := false }
def FnExactSeqTermSaid : Prop := fnExactSeqTermRow.holds Try.pinned (OpenSpec.ofChange fnExactSeqTermSpec)

/-- ITS FALSE NEIGHBOUR: 'it returns false'. Refute it at one input. -/
def fnExactSeqTermWrong : ChangeSpec := { name := "fnExactSeqTerm", fn := fun _ => fun
  | [d1, d2] => { results := [.lit (.bool false)], args := [d1, d2] }
  | _ => none }
def FnExactSeqTermWrongFalsely : Prop := fnExactSeqTermRow.holds Try.pinned (OpenSpec.ofChange fnExactSeqTermWrong)

/-- 'laws.FnExactParTerm': WHATEVER THE INPUT: true; the input reads as it did. -/
def fnExactParTermSpec : ChangeSpec := { name := "fnExactParTerm", fn := fun _ => fun
  | [d1, d2] => { results := [.lit (.bool true)], args := [d1, d2] }
  | _ => none }
def fnExactParTermRow : OpenClaim := { program := "ytbeaihjiablcbaa", sum := "d6852a824183fe620dc50caece5cbacb4b1019a011b17d8a88d0f283bc49e59a", func := "loop.example/g01073/laws.FnExactParTerm", spec := "fnExactParTerm", unfollowed := true, recurses := true, apart := false }
def FnExactParTermSaid : Prop := fnExactParTermRow.holds Try.pinned (OpenSpec.ofChange fnExactParTermSpec)

/-- ITS FALSE NEIGHBOUR: 'it returns false'. Refute it at one input. -/
def fnExactParTermWrong : ChangeSpec := { name := "fnExactParTerm", fn := fun _ => fun
  | [d1, d2] => { results := [.lit (.bool false)], args := [d1, d2] }
  | _ => none }
def FnExactParTermWrongFalsely : Prop := fnExactParTermRow.holds Try.pinned (OpenSpec.ofChange fnExactParTermWrong)

/-- 'laws.FnExactReplaceAt': WHATEVER THE INPUT: true; the input reads as it did. -/
def fnExactReplaceAtSpec : ChangeSpec := { name := "fnExactReplaceAt", fn := fun _ => fun
  | [d1, d2, d3] => { results := [.lit (.bool true)], args := [d1, d2, d3] }
  | _ => none }
def fnExactReplaceAtRow : OpenClaim := { program := "ytbeaihjiablcbaa", sum := "d6852a824183fe620dc50caece5cbacb4b1019a011b17d8a88d0f283bc49e59a", func := "loop.example/g01073/laws.FnExactReplaceAt", spec := "fnExactReplaceAt", unfollowed := true, recurses := true, apart := false }
def FnExactReplaceAtSaid : Prop := fnExactReplaceAtRow.holds Try.pinned (OpenSpec.ofChange fnExactReplaceAtSpec)

/-- ITS FALSE NEIGHBOUR: 'it returns false'. Refute it at one input. -/
def fnExactReplaceAtWrong : ChangeSpec := { name := "fnExactReplaceAt", fn := fun _ => fun
  | [d1, d2, d3] => { results := [.lit (.bool false)], args := [d1, d2, d3] }
  | _ => none }
def FnExactReplaceAtWrongFalsely : Prop := fnExactReplaceAtRow.holds Try.pinned (OpenSpec.ofChange fnExactReplaceAtWrong)

/-- 'laws.FnExactMirrorTerm': WHATEVER THE INPUT: true; the input reads as it did. -/
def fnExactMirrorTermSpec : ChangeSpec := { name := "fnExactMirrorTerm", fn := fun _ => fun
  | [d] => { results := [.lit (.bool true)], args := [d] }
  | _ => none }
def fnExactMirrorTermRow : OpenClaim := { program := "ytbeaihjiablcbaa", sum := "d6852a824183fe620dc50caece5cbacb4b1019a011b17d8a88d0f283bc49e59a", func := "loop.example/g01073/laws.FnExactMirrorTerm", spec := "fnExactMirrorTerm", unfollowed := true, recurses := true, apart := false }
def FnExactMirrorTermSaid : Prop := fnExactMirrorTermRow.holds Try.pinned (OpenSpec.ofChange fnExactMirrorTermSpec)

/-- ITS FALSE NEIGHBOUR: 'it returns false'. Refute it at one input. -/
def fnExactMirrorTermWrong : ChangeSpec := { name := "fnExactMirrorTerm", fn := fun _ => fun
  | [d] => { results := [.lit (.bool false)], args := [d] }
  | _ => none }
def FnExactMirrorTermWrongFalsely : Prop := fnExactMirrorTermRow.holds Try.pinned (OpenSpec.ofChange fnExactMirrorTermWrong)

/- THE SECOND FORM. 'bulk': how many values and letters a reading holds, each counted each time it is reached (what is shared counts as often as it is met; a slice's spare places count too). A statement '..UptoSaid' is the law's where the arguments, and the package variables that the reading takes, are together of bulk at most 1048576: NARROWER than '..Said'. Prove '..Said' where nothing that the law and all that it calls make is longer than what came in: it says more and counts as full. Else prove '..UptoSaid'. A law counts once. -/
mutual
def uptoBulk {H : Type} : DataW H → Nat
  | .lit (.string bytes) => bytes.length + 1
  | .lit _ => 1
  | .nil => 1
  | .ptr d => uptoBulk d + 1
  | .slice elems spare => uptoBulkAll elems + uptoBulkAll spare + 1
  | .agg parts => uptoBulkAll parts + 1
  | .iface _ d => uptoBulk d + 1
  | .map entries => uptoBulkEntries entries + 1
  | .held _ => 1
def uptoBulkAll {H : Type} : List (DataW H) → Nat
  | [] => 0
  | d :: r => uptoBulk d + uptoBulkAll r
def uptoBulkEntries {H : Type} : List (Lit × DataW H) → Nat
  | [] => 0
  | x :: r => uptoBulkEntry x + uptoBulkEntries r
def uptoBulkEntry {H : Type} : Lit × DataW H → Nat
  | (.string bytes, d) => bytes.length + uptoBulk d + 1
  | (_, d) => uptoBulk d + 1
 end
def uptoSmall : (H : Type) → List (DataW H) → Bool := fun _ ds => decide (uptoBulkAll ds ≤ 1048576)
def OpenSpec.upto (s : _root_.Go.ChangeSpec) : _root_.Go.OpenSpec := { _root_.Go.OpenSpec.ofChange s with cond := some uptoSmall }

/-- 'laws.FnExactSeqTerm', WHERE WHAT IT READS IS OF BULK AT MOST 1048576: true; the input reads as it did. -/
def fnExactSeqTermUptoRow : OpenClaim := { program := "ytbeaihjiablcbaa", sum := "d6852a824183fe620dc50caece5cbacb4b1019a011b17d8a88d0f283bc49e59a", func := "loop.example/g01073/laws.FnExactSeqTerm", spec := "fnExactSeqTerm", unfollowed := true, recurses := true, apart := false, narrowed := true }
def FnExactSeqTermUptoSaid : Prop := fnExactSeqTermUptoRow.holds Try.pinned (OpenSpec.upto fnExactSeqTermSpec)

/-- 'laws.FnExactParTerm', WHERE WHAT IT READS IS OF BULK AT MOST 1048576: true; the input reads as it did. -/
def fnExactParTermUptoRow : OpenClaim := { program := "ytbeaihjiablcbaa", sum := "d6852a824183fe620dc50caece5cbacb4b1019a011b17d8a88d0f283bc49e59a", func := "loop.example/g01073/laws.FnExactParTerm", spec := "fnExactParTerm", unfollowed := true, recurses := true, apart := false, narrowed := true }
def FnExactParTermUptoSaid : Prop := fnExactParTermUptoRow.holds Try.pinned (OpenSpec.upto fnExactParTermSpec)

/-- 'laws.FnExactReplaceAt', WHERE WHAT IT READS IS OF BULK AT MOST 1048576: true; the input reads as it did. -/
def fnExactReplaceAtUptoRow : OpenClaim := { program := "ytbeaihjiablcbaa", sum := "d6852a824183fe620dc50caece5cbacb4b1019a011b17d8a88d0f283bc49e59a", func := "loop.example/g01073/laws.FnExactReplaceAt", spec := "fnExactReplaceAt", unfollowed := true, recurses := true, apart := false, narrowed := true }
def FnExactReplaceAtUptoSaid : Prop := fnExactReplaceAtUptoRow.holds Try.pinned (OpenSpec.upto fnExactReplaceAtSpec)

/-- 'laws.FnExactMirrorTerm', WHERE WHAT IT READS IS OF BULK AT MOST 1048576: true; the input reads as it did. -/
def fnExactMirrorTermUptoRow : OpenClaim := { program := "ytbeaihjiablcbaa", sum := "d6852a824183fe620dc50caece5cbacb4b1019a011b17d8a88d0f283bc49e59a", func := "loop.example/g01073/laws.FnExactMirrorTerm", spec := "fnExactMirrorTerm", unfollowed := true, recurses := true, apart := false, narrowed := true }
def FnExactMirrorTermUptoSaid : Prop := fnExactMirrorTermUptoRow.holds Try.pinned (OpenSpec.upto fnExactMirrorTermSpec)

end Rows
end Go.Proofs.Ytbeaihjiablcbaa
