/-
  No cell of these rows narrows 'for every input' (looked for: loops, veiled, ifaces, maps, wideKeys, modest, calm, conditions, laid).
  DERIVED. THE GIVEN ROWS OF THIS SEAT. 6 by the template 'for every input the law returns true; each argument reads behind the call as it read before'; 0 by the template 'total and deterministic' (their statements: YthkcpnakhhhhnafTotals.lean).
  GIVEN WITH THE SEED: the statements are not yours to turn. If you find one false, say at which input.
  Laid BY PROGRAM, IN A SANDBOX (cutbox-rows.mjs): the forced cells as the released guide's own fill.sh prints them over the translation c79c7e937b8aa067… (all of the seat's roots in one cut). By AI agents, Wed Nov 11 2026. No macro, syntax, notation, axiom, sorry.
-/
import Derived.Test.YthkcpnakhhhhnafChecked
import GoSem.Claim
import GoSem.ClaimJoined
import GoSem.ClaimMapViews
import Derived.JoinedTies
import Derived.KernelRfl
namespace Go.Proofs.Ythkcpnakhhhhnaf
/- THE CELL 'sum', in the pinned program and in every row, IS THE sha256 OF THE DUMP (.gsa) THAT YthkcpnakhhhhnafProg.lean LOADS. Nothing in Lean hashes anything: it is a label: what it is worth is what the hold of that sum in a sandbox is worth. -/
noncomputable def Try.pinned : Pinned := { name := "ythkcpnakhhhhnaf", sum := "c79c7e937b8aa0674956dec32e66de762a99723995666f9916ff9fa66a76342a", checked := Try.checked }
namespace Rows
def none {H : Type} : Left H := { results := [], args := [] }

/-- 'laws.FnExactParsePath': WHATEVER THE INPUT: true; the input reads as it did. -/
def fnExactParsePathSpec : ChangeSpec := { name := "fnExactParsePath", fn := fun _ => fun
  | [d] => { results := [.lit (.bool true)], args := [d] }
  | _ => none }
def fnExactParsePathRow : OpenClaim := { program := "ythkcpnakhhhhnaf", sum := "c79c7e937b8aa0674956dec32e66de762a99723995666f9916ff9fa66a76342a", func := "loop.example/s01136/laws.FnExactParsePath", spec := "fnExactParsePath", inPlace := ["internal/bytealg.IndexByteString", "internal/bytealg.IndexString"], unfollowed := true, recurses := true, named := ["internal/bytealg.MaxLen"], plainKeys := false, apart := false }
def FnExactParsePathSaid : Prop := fnExactParsePathRow.holds Try.pinned (OpenSpec.ofChange fnExactParsePathSpec)

/-- ITS FALSE NEIGHBOUR: 'it returns false'. Refute it at one input. -/
def fnExactParsePathWrong : ChangeSpec := { name := "fnExactParsePath", fn := fun _ => fun
  | [d] => { results := [.lit (.bool false)], args := [d] }
  | _ => none }
def FnExactParsePathWrongFalsely : Prop := fnExactParsePathRow.holds Try.pinned (OpenSpec.ofChange fnExactParsePathWrong)

/-- 'laws.FnExactWriteSuper': WHATEVER THE INPUT: true; the input reads as it did. -/
def fnExactWriteSuperSpec : ChangeSpec := { name := "fnExactWriteSuper", fn := fun _ => fun
  | [d1, d2] => { results := [.lit (.bool true)], args := [d1, d2] }
  | _ => none }
def fnExactWriteSuperRow : OpenClaim := { program := "ythkcpnakhhhhnaf", sum := "c79c7e937b8aa0674956dec32e66de762a99723995666f9916ff9fa66a76342a", func := "loop.example/s01136/laws.FnExactWriteSuper", spec := "fnExactWriteSuper", unfollowed := true, recurses := true, plainKeys := false, apart := false }
def FnExactWriteSuperSaid : Prop := fnExactWriteSuperRow.holds Try.pinned (OpenSpec.ofChange fnExactWriteSuperSpec)

/-- ITS FALSE NEIGHBOUR: 'it returns false'. Refute it at one input. -/
def fnExactWriteSuperWrong : ChangeSpec := { name := "fnExactWriteSuper", fn := fun _ => fun
  | [d1, d2] => { results := [.lit (.bool false)], args := [d1, d2] }
  | _ => none }
def FnExactWriteSuperWrongFalsely : Prop := fnExactWriteSuperRow.holds Try.pinned (OpenSpec.ofChange fnExactWriteSuperWrong)

/-- 'laws.FnExactValidIndex': WHATEVER THE INPUT: true; the input reads as it did. -/
def fnExactValidIndexSpec : ChangeSpec := { name := "fnExactValidIndex", fn := fun _ => fun
  | [d] => { results := [.lit (.bool true)], args := [d] }
  | _ => none }
def fnExactValidIndexRow : OpenClaim := { program := "ythkcpnakhhhhnaf", sum := "c79c7e937b8aa0674956dec32e66de762a99723995666f9916ff9fa66a76342a", func := "loop.example/s01136/laws.FnExactValidIndex", spec := "fnExactValidIndex", unfollowed := true, recurses := true, plainKeys := false, apart := false }
def FnExactValidIndexSaid : Prop := fnExactValidIndexRow.holds Try.pinned (OpenSpec.ofChange fnExactValidIndexSpec)

/-- ITS FALSE NEIGHBOUR: 'it returns false'. Refute it at one input. -/
def fnExactValidIndexWrong : ChangeSpec := { name := "fnExactValidIndex", fn := fun _ => fun
  | [d] => { results := [.lit (.bool false)], args := [d] }
  | _ => none }
def FnExactValidIndexWrongFalsely : Prop := fnExactValidIndexRow.holds Try.pinned (OpenSpec.ofChange fnExactValidIndexWrong)

/-- 'laws.FnExactMeaning': WHATEVER THE INPUT: true; the input reads as it did. -/
def fnExactMeaningSpec : ChangeSpec := { name := "fnExactMeaning", fn := fun _ => fun
  | [d1, d2] => { results := [.lit (.bool true)], args := [d1, d2] }
  | _ => none }
def fnExactMeaningRow : OpenClaim := { program := "ythkcpnakhhhhnaf", sum := "c79c7e937b8aa0674956dec32e66de762a99723995666f9916ff9fa66a76342a", func := "loop.example/s01136/laws.FnExactMeaning", spec := "fnExactMeaning", inPlace := ["maps.clone"], unfollowed := true, recurses := true, plainKeys := false, apart := false }
def FnExactMeaningSaid : Prop := fnExactMeaningRow.holds Try.pinned (OpenSpec.ofChange fnExactMeaningSpec)

/-- ITS FALSE NEIGHBOUR: 'it returns false'. Refute it at one input. -/
def fnExactMeaningWrong : ChangeSpec := { name := "fnExactMeaning", fn := fun _ => fun
  | [d1, d2] => { results := [.lit (.bool false)], args := [d1, d2] }
  | _ => none }
def FnExactMeaningWrongFalsely : Prop := fnExactMeaningRow.holds Try.pinned (OpenSpec.ofChange fnExactMeaningWrong)

/-- 'laws.FnRecord': WHATEVER THE INPUT: true; the input reads as it did. -/
def fnRecordSpec : ChangeSpec := { name := "fnRecord", fn := fun _ => fun
  | [d1, d2] => { results := [.lit (.bool true)], args := [d1, d2] }
  | _ => none }
def fnRecordRow : OpenClaim := { program := "ythkcpnakhhhhnaf", sum := "c79c7e937b8aa0674956dec32e66de762a99723995666f9916ff9fa66a76342a", func := "loop.example/s01136/laws.FnRecord", spec := "fnRecord", unfollowed := true, recurses := true, plainKeys := false, apart := false }
def FnRecordSaid : Prop := fnRecordRow.holds Try.pinned (OpenSpec.ofChange fnRecordSpec)

/-- ITS FALSE NEIGHBOUR: 'it returns false'. Refute it at one input. -/
def fnRecordWrong : ChangeSpec := { name := "fnRecord", fn := fun _ => fun
  | [d1, d2] => { results := [.lit (.bool false)], args := [d1, d2] }
  | _ => none }
def FnRecordWrongFalsely : Prop := fnRecordRow.holds Try.pinned (OpenSpec.ofChange fnRecordWrong)

/-- 'laws.FnExactReadArea': WHATEVER THE INPUT: true; the input reads as it did. -/
def fnExactReadAreaSpec : ChangeSpec := { name := "fnExactReadArea", fn := fun _ => fun
  | [d1, d2, d3] => { results := [.lit (.bool true)], args := [d1, d2, d3] }
  | _ => none }
def fnExactReadAreaRow : OpenClaim := { program := "ythkcpnakhhhhnaf", sum := "c79c7e937b8aa0674956dec32e66de762a99723995666f9916ff9fa66a76342a", func := "loop.example/s01136/laws.FnExactReadArea", spec := "fnExactReadArea", plainKeys := false, apart := false }
def FnExactReadAreaSaid : Prop := fnExactReadAreaRow.holds Try.pinned (OpenSpec.ofChange fnExactReadAreaSpec)

/-- ITS FALSE NEIGHBOUR: 'it returns false'. Refute it at one input. -/
def fnExactReadAreaWrong : ChangeSpec := { name := "fnExactReadArea", fn := fun _ => fun
  | [d1, d2, d3] => { results := [.lit (.bool false)], args := [d1, d2, d3] }
  | _ => none }
def FnExactReadAreaWrongFalsely : Prop := fnExactReadAreaRow.holds Try.pinned (OpenSpec.ofChange fnExactReadAreaWrong)

/- THE SECOND FORM. 'bulk': how many values and letters a reading holds, each counted each time it is reached (what is shared counts as often as it is met; a slice's spare places count too). A statement '..UptoSaid' is the law's where the arguments, and the package variables that the reading takes, are together of bulk at most 1048576: NARROWER than '..Said'. Prove '..Said' where nothing that the law and all that it calls make is longer than what came in: it says more and counts as full. Else prove '..UptoSaid'. A law counts once. -/
mutual
def uptoBulk {H : Type} : DataW H → Nat
  | .lit (.string bytes) => bytes.length + 1
  | .lit _ => 1
  | .nil => 1
  | .ptr d => uptoBulk d + 1
  | .slice elems spare => uptoBulkAll elems + uptoBulkAll spare + 1
  | .agg parts => uptoBulkAll parts + 1
  | .iface _ d => uptoBulk d + 1
  | .map entries => uptoBulkEntries entries + 1
  | .held _ => 1
def uptoBulkAll {H : Type} : List (DataW H) → Nat
  | [] => 0
  | d :: r => uptoBulk d + uptoBulkAll r
def uptoBulkEntries {H : Type} : List (Lit × DataW H) → Nat
  | [] => 0
  | x :: r => uptoBulkEntry x + uptoBulkEntries r
def uptoBulkEntry {H : Type} : Lit × DataW H → Nat
  | (.string bytes, d) => bytes.length + uptoBulk d + 1
  | (_, d) => uptoBulk d + 1
 end
def uptoSmall : (H : Type) → List (DataW H) → Bool := fun _ ds => decide (uptoBulkAll ds ≤ 1048576)
def OpenSpec.upto (s : _root_.Go.ChangeSpec) : _root_.Go.OpenSpec := { _root_.Go.OpenSpec.ofChange s with cond := some uptoSmall }

/-- 'laws.FnExactParsePath', WHERE WHAT IT READS IS OF BULK AT MOST 1048576: true; the input reads as it did. -/
def fnExactParsePathUptoRow : OpenClaim := { program := "ythkcpnakhhhhnaf", sum := "c79c7e937b8aa0674956dec32e66de762a99723995666f9916ff9fa66a76342a", func := "loop.example/s01136/laws.FnExactParsePath", spec := "fnExactParsePath", inPlace := ["internal/bytealg.IndexByteString", "internal/bytealg.IndexString"], unfollowed := true, recurses := true, named := ["internal/bytealg.MaxLen"], plainKeys := false, apart := false, narrowed := true }
def FnExactParsePathUptoSaid : Prop := fnExactParsePathUptoRow.holds Try.pinned (OpenSpec.upto fnExactParsePathSpec)

/-- 'laws.FnExactWriteSuper', WHERE WHAT IT READS IS OF BULK AT MOST 1048576: true; the input reads as it did. -/
def fnExactWriteSuperUptoRow : OpenClaim := { program := "ythkcpnakhhhhnaf", sum := "c79c7e937b8aa0674956dec32e66de762a99723995666f9916ff9fa66a76342a", func := "loop.example/s01136/laws.FnExactWriteSuper", spec := "fnExactWriteSuper", unfollowed := true, recurses := true, plainKeys := false, apart := false, narrowed := true }
def FnExactWriteSuperUptoSaid : Prop := fnExactWriteSuperUptoRow.holds Try.pinned (OpenSpec.upto fnExactWriteSuperSpec)

/-- 'laws.FnExactValidIndex', WHERE WHAT IT READS IS OF BULK AT MOST 1048576: true; the input reads as it did. -/
def fnExactValidIndexUptoRow : OpenClaim := { program := "ythkcpnakhhhhnaf", sum := "c79c7e937b8aa0674956dec32e66de762a99723995666f9916ff9fa66a76342a", func := "loop.example/s01136/laws.FnExactValidIndex", spec := "fnExactValidIndex", unfollowed := true, recurses := true, plainKeys := false, apart := false, narrowed := true }
def FnExactValidIndexUptoSaid : Prop := fnExactValidIndexUptoRow.holds Try.pinned (OpenSpec.upto fnExactValidIndexSpec)

/-- 'laws.FnExactMeaning', WHERE WHAT IT READS IS OF BULK AT MOST 1048576: true; the input reads as it did. -/
def fnExactMeaningUptoRow : OpenClaim := { program := "ythkcpnakhhhhnaf", sum := "c79c7e937b8aa0674956dec32e66de762a99723995666f9916ff9fa66a76342a", func := "loop.example/s01136/laws.FnExactMeaning", spec := "fnExactMeaning", inPlace := ["maps.clone"], unfollowed := true, recurses := true, plainKeys := false, apart := false, narrowed := true }
def FnExactMeaningUptoSaid : Prop := fnExactMeaningUptoRow.holds Try.pinned (OpenSpec.upto fnExactMeaningSpec)

/-- 'laws.FnRecord', WHERE WHAT IT READS IS OF BULK AT MOST 1048576: true; the input reads as it did. -/
def fnRecordUptoRow : OpenClaim := { program := "ythkcpnakhhhhnaf", sum := "c79c7e937b8aa0674956dec32e66de762a99723995666f9916ff9fa66a76342a", func := "loop.example/s01136/laws.FnRecord", spec := "fnRecord", unfollowed := true, recurses := true, plainKeys := false, apart := false, narrowed := true }
def FnRecordUptoSaid : Prop := fnRecordUptoRow.holds Try.pinned (OpenSpec.upto fnRecordSpec)

/-- 'laws.FnExactReadArea', WHERE WHAT IT READS IS OF BULK AT MOST 1048576: true; the input reads as it did. -/
def fnExactReadAreaUptoRow : OpenClaim := { program := "ythkcpnakhhhhnaf", sum := "c79c7e937b8aa0674956dec32e66de762a99723995666f9916ff9fa66a76342a", func := "loop.example/s01136/laws.FnExactReadArea", spec := "fnExactReadArea", plainKeys := false, apart := false, narrowed := true }
def FnExactReadAreaUptoSaid : Prop := fnExactReadAreaUptoRow.holds Try.pinned (OpenSpec.upto fnExactReadAreaSpec)

end Rows
end Go.Proofs.Ythkcpnakhhhhnaf
