/-
  No cell of these rows narrows 'for every input' (looked for: loops, veiled, ifaces, maps, wideKeys, modest, calm, conditions, laid).
  DERIVED. THE GIVEN ROWS OF THIS SEAT. 6 by the template 'for every input the law returns true; each argument reads behind the call as it read before'; 0 by the template 'total and deterministic' (their statements: YthkcpnakhhhhnaeTotals.lean).
  GIVEN WITH THE SEED: the statements are not yours to turn. If you find one false, say at which input.
  Laid BY PROGRAM, IN A SANDBOX (cutbox-rows.mjs): the forced cells as the released guide's own fill.sh prints them over the translation 7b15df66061fe473… (all of the seat's roots in one cut). By AI agents, Wed Nov 11 2026. No macro, syntax, notation, axiom, sorry.
-/
import Derived.Test.YthkcpnakhhhhnaeChecked
import GoSem.Claim
import GoSem.ClaimJoined
import GoSem.ClaimMapViews
import Derived.JoinedTies
import Derived.KernelRfl
namespace Go.Proofs.Ythkcpnakhhhhnae
/- THE CELL 'sum', in the pinned program and in every row, IS THE sha256 OF THE DUMP (.gsa) THAT YthkcpnakhhhhnaeProg.lean LOADS. Nothing in Lean hashes anything: it is a label: what it is worth is what the hold of that sum in a sandbox is worth. -/
noncomputable def Try.pinned : Pinned := { name := "ythkcpnakhhhhnae", sum := "7b15df66061fe47399daf20af23f3189bfe51ab7d1abb61143a35de163dce6a8", checked := Try.checked }
namespace Rows
def none {H : Type} : Left H := { results := [], args := [] }

/-- 'laws.FnExactTreeRange': WHATEVER THE INPUT: true; the input reads as it did. -/
def fnExactTreeRangeSpec : ChangeSpec := { name := "fnExactTreeRange", fn := fun _ => fun
  | [d1, d2, d3] => { results := [.lit (.bool true)], args := [d1, d2, d3] }
  | _ => none }
def fnExactTreeRangeRow : OpenClaim := { program := "ythkcpnakhhhhnae", sum := "7b15df66061fe47399daf20af23f3189bfe51ab7d1abb61143a35de163dce6a8", func := "loop.example/s01136/laws.FnExactTreeRange", spec := "fnExactTreeRange", unfollowed := true, recurses := true, apart := false }
def FnExactTreeRangeSaid : Prop := fnExactTreeRangeRow.holds Try.pinned (OpenSpec.ofChange fnExactTreeRangeSpec)

/-- ITS FALSE NEIGHBOUR: 'it returns false'. Refute it at one input. -/
def fnExactTreeRangeWrong : ChangeSpec := { name := "fnExactTreeRange", fn := fun _ => fun
  | [d1, d2, d3] => { results := [.lit (.bool false)], args := [d1, d2, d3] }
  | _ => none }
def FnExactTreeRangeWrongFalsely : Prop := fnExactTreeRangeRow.holds Try.pinned (OpenSpec.ofChange fnExactTreeRangeWrong)

/-- 'laws.FnExactPrintPath': WHATEVER THE INPUT: true; the input reads as it did. -/
def fnExactPrintPathSpec : ChangeSpec := { name := "fnExactPrintPath", fn := fun _ => fun
  | [d] => { results := [.lit (.bool true)], args := [d] }
  | _ => none }
def fnExactPrintPathRow : OpenClaim := { program := "ythkcpnakhhhhnae", sum := "7b15df66061fe47399daf20af23f3189bfe51ab7d1abb61143a35de163dce6a8", func := "loop.example/s01136/laws.FnExactPrintPath", spec := "fnExactPrintPath", inPlace := ["internal/abi.NoEscape"], unfollowed := true, recurses := true, apart := false }
def FnExactPrintPathSaid : Prop := fnExactPrintPathRow.holds Try.pinned (OpenSpec.ofChange fnExactPrintPathSpec)

/-- ITS FALSE NEIGHBOUR: 'it returns false'. Refute it at one input. -/
def fnExactPrintPathWrong : ChangeSpec := { name := "fnExactPrintPath", fn := fun _ => fun
  | [d] => { results := [.lit (.bool false)], args := [d] }
  | _ => none }
def FnExactPrintPathWrongFalsely : Prop := fnExactPrintPathRow.holds Try.pinned (OpenSpec.ofChange fnExactPrintPathWrong)

/-- 'laws.FnExactReadRec': WHATEVER THE INPUT: true; the input reads as it did. -/
def fnExactReadRecSpec : ChangeSpec := { name := "fnExactReadRec", fn := fun _ => fun
  | [d1, d2, d3] => { results := [.lit (.bool true)], args := [d1, d2, d3] }
  | _ => none }
def fnExactReadRecRow : OpenClaim := { program := "ythkcpnakhhhhnae", sum := "7b15df66061fe47399daf20af23f3189bfe51ab7d1abb61143a35de163dce6a8", func := "loop.example/s01136/laws.FnExactReadRec", spec := "fnExactReadRec", apart := false }
def FnExactReadRecSaid : Prop := fnExactReadRecRow.holds Try.pinned (OpenSpec.ofChange fnExactReadRecSpec)

/-- ITS FALSE NEIGHBOUR: 'it returns false'. Refute it at one input. -/
def fnExactReadRecWrong : ChangeSpec := { name := "fnExactReadRec", fn := fun _ => fun
  | [d1, d2, d3] => { results := [.lit (.bool false)], args := [d1, d2, d3] }
  | _ => none }
def FnExactReadRecWrongFalsely : Prop := fnExactReadRecRow.holds Try.pinned (OpenSpec.ofChange fnExactReadRecWrong)

/-- 'laws.FnAlgebra': WHATEVER THE INPUT: true; the input reads as it did. -/
def fnAlgebraSpec : ChangeSpec := { name := "fnAlgebra", fn := fun _ => fun
  | [d1, d2] => { results := [.lit (.bool true)], args := [d1, d2] }
  | _ => none }
def fnAlgebraRow : OpenClaim := { program := "ythkcpnakhhhhnae", sum := "7b15df66061fe47399daf20af23f3189bfe51ab7d1abb61143a35de163dce6a8", func := "loop.example/s01136/laws.FnAlgebra", spec := "fnAlgebra", inPlace := ["maps.clone"], unfollowed := true, recurses := true, apart := false }
def FnAlgebraSaid : Prop := fnAlgebraRow.holds Try.pinned (OpenSpec.ofChange fnAlgebraSpec)

/-- ITS FALSE NEIGHBOUR: 'it returns false'. Refute it at one input. -/
def fnAlgebraWrong : ChangeSpec := { name := "fnAlgebra", fn := fun _ => fun
  | [d1, d2] => { results := [.lit (.bool false)], args := [d1, d2] }
  | _ => none }
def FnAlgebraWrongFalsely : Prop := fnAlgebraRow.holds Try.pinned (OpenSpec.ofChange fnAlgebraWrong)

/-- 'laws.FnPrintParse': WHATEVER THE INPUT: true; the input reads as it did. -/
def fnPrintParseSpec : ChangeSpec := { name := "fnPrintParse", fn := fun _ => fun
  | [d] => { results := [.lit (.bool true)], args := [d] }
  | _ => none }
def fnPrintParseRow : OpenClaim := { program := "ythkcpnakhhhhnae", sum := "7b15df66061fe47399daf20af23f3189bfe51ab7d1abb61143a35de163dce6a8", func := "loop.example/s01136/laws.FnPrintParse", spec := "fnPrintParse", inPlace := ["internal/abi.NoEscape", "internal/bytealg.IndexByteString", "internal/bytealg.IndexString"], unfollowed := true, recurses := true, named := ["internal/bytealg.MaxLen"], apart := false }
def FnPrintParseSaid : Prop := fnPrintParseRow.holds Try.pinned (OpenSpec.ofChange fnPrintParseSpec)

/-- ITS FALSE NEIGHBOUR: 'it returns false'. Refute it at one input. -/
def fnPrintParseWrong : ChangeSpec := { name := "fnPrintParse", fn := fun _ => fun
  | [d] => { results := [.lit (.bool false)], args := [d] }
  | _ => none }
def FnPrintParseWrongFalsely : Prop := fnPrintParseRow.holds Try.pinned (OpenSpec.ofChange fnPrintParseWrong)

/-- 'laws.FnExactWriteRec': WHATEVER THE INPUT: true; the input reads as it did. -/
def fnExactWriteRecSpec : ChangeSpec := { name := "fnExactWriteRec", fn := fun _ => fun
  | [d1, d2, d3, d4] => { results := [.lit (.bool true)], args := [d1, d2, d3, d4] }
  | _ => none }
def fnExactWriteRecRow : OpenClaim := { program := "ythkcpnakhhhhnae", sum := "7b15df66061fe47399daf20af23f3189bfe51ab7d1abb61143a35de163dce6a8", func := "loop.example/s01136/laws.FnExactWriteRec", spec := "fnExactWriteRec", unfollowed := true, recurses := true, apart := false }
def FnExactWriteRecSaid : Prop := fnExactWriteRecRow.holds Try.pinned (OpenSpec.ofChange fnExactWriteRecSpec)

/-- ITS FALSE NEIGHBOUR: 'it returns false'. Refute it at one input. -/
def fnExactWriteRecWrong : ChangeSpec := { name := "fnExactWriteRec", fn := fun _ => fun
  | [d1, d2, d3, d4] => { results := [.lit (.bool false)], args := [d1, d2, d3, d4] }
  | _ => none }
def FnExactWriteRecWrongFalsely : Prop := fnExactWriteRecRow.holds Try.pinned (OpenSpec.ofChange fnExactWriteRecWrong)

/- THE SECOND FORM. 'bulk': how many values and letters a reading holds, each counted each time it is reached (what is shared counts as often as it is met; a slice's spare places count too). A statement '..UptoSaid' is the law's where the arguments, and the package variables that the reading takes, are together of bulk at most 1048576: NARROWER than '..Said'. Prove '..Said' where nothing that the law and all that it calls make is longer than what came in: it says more and counts as full. Else prove '..UptoSaid'. A law counts once. -/
mutual
def uptoBulk {H : Type} : DataW H → Nat
  | .lit (.string bytes) => bytes.length + 1
  | .lit _ => 1
  | .nil => 1
  | .ptr d => uptoBulk d + 1
  | .slice elems spare => uptoBulkAll elems + uptoBulkAll spare + 1
  | .agg parts => uptoBulkAll parts + 1
  | .iface _ d => uptoBulk d + 1
  | .map entries => uptoBulkEntries entries + 1
  | .held _ => 1
def uptoBulkAll {H : Type} : List (DataW H) → Nat
  | [] => 0
  | d :: r => uptoBulk d + uptoBulkAll r
def uptoBulkEntries {H : Type} : List (Lit × DataW H) → Nat
  | [] => 0
  | x :: r => uptoBulkEntry x + uptoBulkEntries r
def uptoBulkEntry {H : Type} : Lit × DataW H → Nat
  | (.string bytes, d) => bytes.length + uptoBulk d + 1
  | (_, d) => uptoBulk d + 1
 end
def uptoSmall : (H : Type) → List (DataW H) → Bool := fun _ ds => decide (uptoBulkAll ds ≤ 1048576)
def OpenSpec.upto (s : _root_.Go.ChangeSpec) : _root_.Go.OpenSpec := { _root_.Go.OpenSpec.ofChange s with cond := some uptoSmall }

/-- 'laws.FnExactTreeRange', WHERE WHAT IT READS IS OF BULK AT MOST 1048576: true; the input reads as it did. -/
def fnExactTreeRangeUptoRow : OpenClaim := { program := "ythkcpnakhhhhnae", sum := "7b15df66061fe47399daf20af23f3189bfe51ab7d1abb61143a35de163dce6a8", func := "loop.example/s01136/laws.FnExactTreeRange", spec := "fnExactTreeRange", unfollowed := true, recurses := true, apart := false, narrowed := true }
def FnExactTreeRangeUptoSaid : Prop := fnExactTreeRangeUptoRow.holds Try.pinned (OpenSpec.upto fnExactTreeRangeSpec)

/-- 'laws.FnExactPrintPath', WHERE WHAT IT READS IS OF BULK AT MOST 1048576: true; the input reads as it did. -/
def fnExactPrintPathUptoRow : OpenClaim := { program := "ythkcpnakhhhhnae", sum := "7b15df66061fe47399daf20af23f3189bfe51ab7d1abb61143a35de163dce6a8", func := "loop.example/s01136/laws.FnExactPrintPath", spec := "fnExactPrintPath", inPlace := ["internal/abi.NoEscape"], unfollowed := true, recurses := true, apart := false, narrowed := true }
def FnExactPrintPathUptoSaid : Prop := fnExactPrintPathUptoRow.holds Try.pinned (OpenSpec.upto fnExactPrintPathSpec)

/-- 'laws.FnExactReadRec', WHERE WHAT IT READS IS OF BULK AT MOST 1048576: true; the input reads as it did. -/
def fnExactReadRecUptoRow : OpenClaim := { program := "ythkcpnakhhhhnae", sum := "7b15df66061fe47399daf20af23f3189bfe51ab7d1abb61143a35de163dce6a8", func := "loop.example/s01136/laws.FnExactReadRec", spec := "fnExactReadRec", apart := false, narrowed := true }
def FnExactReadRecUptoSaid : Prop := fnExactReadRecUptoRow.holds Try.pinned (OpenSpec.upto fnExactReadRecSpec)

/-- 'laws.FnAlgebra', WHERE WHAT IT READS IS OF BULK AT MOST 1048576: true; the input reads as it did. -/
def fnAlgebraUptoRow : OpenClaim := { program := "ythkcpnakhhhhnae", sum := "7b15df66061fe47399daf20af23f3189bfe51ab7d1abb61143a35de163dce6a8", func := "loop.example/s01136/laws.FnAlgebra", spec := "fnAlgebra", inPlace := ["maps.clone"], unfollowed := true, recurses := true, apart := false, narrowed := true }
def FnAlgebraUptoSaid : Prop := fnAlgebraUptoRow.holds Try.pinned (OpenSpec.upto fnAlgebraSpec)

/-- 'laws.FnPrintParse', WHERE WHAT IT READS IS OF BULK AT MOST 1048576: true; the input reads as it did. -/
def fnPrintParseUptoRow : OpenClaim := { program := "ythkcpnakhhhhnae", sum := "7b15df66061fe47399daf20af23f3189bfe51ab7d1abb61143a35de163dce6a8", func := "loop.example/s01136/laws.FnPrintParse", spec := "fnPrintParse", inPlace := ["internal/abi.NoEscape", "internal/bytealg.IndexByteString", "internal/bytealg.IndexString"], unfollowed := true, recurses := true, named := ["internal/bytealg.MaxLen"], apart := false, narrowed := true }
def FnPrintParseUptoSaid : Prop := fnPrintParseUptoRow.holds Try.pinned (OpenSpec.upto fnPrintParseSpec)

/-- 'laws.FnExactWriteRec', WHERE WHAT IT READS IS OF BULK AT MOST 1048576: true; the input reads as it did. -/
def fnExactWriteRecUptoRow : OpenClaim := { program := "ythkcpnakhhhhnae", sum := "7b15df66061fe47399daf20af23f3189bfe51ab7d1abb61143a35de163dce6a8", func := "loop.example/s01136/laws.FnExactWriteRec", spec := "fnExactWriteRec", unfollowed := true, recurses := true, apart := false, narrowed := true }
def FnExactWriteRecUptoSaid : Prop := fnExactWriteRecUptoRow.holds Try.pinned (OpenSpec.upto fnExactWriteRecSpec)

end Rows
end Go.Proofs.Ythkcpnakhhhhnae
