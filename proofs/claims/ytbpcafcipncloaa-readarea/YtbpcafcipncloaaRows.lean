/-
  No cell of these rows narrows 'for every input' (looked for: loops, veiled, ifaces, maps, wideKeys, modest, calm, conditions, laid).
  DERIVED. THE GIVEN ROWS OF THIS SEAT. 5 by the template 'for every input the law returns true; each argument reads behind the call as it read before'; 0 by the template 'total and deterministic' (their statements: YtbpcafcipncloaaTotals.lean).
  GIVEN WITH THE SEED: the statements are not yours to turn. If you find one false, say at which input.
  Laid BY PROGRAM, IN A SANDBOX (cutbox-rows.mjs): the forced cells as the released guide's own fill.sh prints them over the translation 668c44ecd57a6dcd… (all of the seat's roots in one cut). By AI agents, Wed Nov 11 2026. No macro, syntax, notation, axiom, sorry.
-/
import Derived.Test.YtbpcafcipncloaaChecked
import GoSem.Claim
import GoSem.ClaimJoined
import GoSem.ClaimMapViews
import Derived.JoinedTies
import Derived.KernelRfl
namespace Go.Proofs.Ytbpcafcipncloaa
/- THE CELL 'sum', in the pinned program and in every row, IS THE sha256 OF THE DUMP (.gsa) THAT YtbpcafcipncloaaProg.lean LOADS. Nothing in Lean hashes anything: it is a label: what it is worth is what the hold of that sum in a sandbox is worth. -/
noncomputable def Try.pinned : Pinned := { name := "ytbpcafcipncloaa", sum := "668c44ecd57a6dcd72c424cb91d757b5a41cf06fc824c9d202098a45e46b7ba5", checked := Try.checked }
namespace Rows
def none {H : Type} : Left H := { results := [], args := [] }

/-- 'laws.FnExactRecSectors': WHATEVER THE INPUT: true; the input reads as it did. -/
def fnExactRecSectorsSpec : ChangeSpec := { name := "fnExactRecSectors", fn := fun _ => fun
  | [d] => { results := [.lit (.bool true)], args := [d] }
  | _ => none }
def fnExactRecSectorsRow : OpenClaim := { program := "ytbpcafcipncloaa", sum := "668c44ecd57a6dcd72c424cb91d757b5a41cf06fc824c9d202098a45e46b7ba5", func := "loop.example/s01136/laws.FnExactRecSectors", spec := "fnExactRecSectors", apart := false }
def FnExactRecSectorsSaid : Prop := fnExactRecSectorsRow.holds Try.pinned (OpenSpec.ofChange fnExactRecSectorsSpec)

/-- ITS FALSE NEIGHBOUR: 'it returns false'. Refute it at one input. -/
def fnExactRecSectorsWrong : ChangeSpec := { name := "fnExactRecSectors", fn := fun _ => fun
  | [d] => { results := [.lit (.bool false)], args := [d] }
  | _ => none }
def FnExactRecSectorsWrongFalsely : Prop := fnExactRecSectorsRow.holds Try.pinned (OpenSpec.ofChange fnExactRecSectorsWrong)

/-- 'laws.FnExactCrc32': WHATEVER THE INPUT: true; the input reads as it did. -/
def fnExactCrc32Spec : ChangeSpec := { name := "fnExactCrc32", fn := fun _ => fun
  | [d] => { results := [.lit (.bool true)], args := [d] }
  | _ => none }
def fnExactCrc32Row : OpenClaim := { program := "ytbpcafcipncloaa", sum := "668c44ecd57a6dcd72c424cb91d757b5a41cf06fc824c9d202098a45e46b7ba5", func := "loop.example/s01136/laws.FnExactCrc32", spec := "fnExactCrc32", apart := false }
def FnExactCrc32Said : Prop := fnExactCrc32Row.holds Try.pinned (OpenSpec.ofChange fnExactCrc32Spec)

/-- ITS FALSE NEIGHBOUR: 'it returns false'. Refute it at one input. -/
def fnExactCrc32Wrong : ChangeSpec := { name := "fnExactCrc32", fn := fun _ => fun
  | [d] => { results := [.lit (.bool false)], args := [d] }
  | _ => none }
def FnExactCrc32WrongFalsely : Prop := fnExactCrc32Row.holds Try.pinned (OpenSpec.ofChange fnExactCrc32Wrong)

/-- 'laws.FnExactReadRec': WHATEVER THE INPUT: true; the input reads as it did. -/
def fnExactReadRecSpec : ChangeSpec := { name := "fnExactReadRec", fn := fun _ => fun
  | [d1, d2, d3] => { results := [.lit (.bool true)], args := [d1, d2, d3] }
  | _ => none }
def fnExactReadRecRow : OpenClaim := { program := "ytbpcafcipncloaa", sum := "668c44ecd57a6dcd72c424cb91d757b5a41cf06fc824c9d202098a45e46b7ba5", func := "loop.example/s01136/laws.FnExactReadRec", spec := "fnExactReadRec", apart := false }
def FnExactReadRecSaid : Prop := fnExactReadRecRow.holds Try.pinned (OpenSpec.ofChange fnExactReadRecSpec)

/-- ITS FALSE NEIGHBOUR: 'it returns false'. Refute it at one input. -/
def fnExactReadRecWrong : ChangeSpec := { name := "fnExactReadRec", fn := fun _ => fun
  | [d1, d2, d3] => { results := [.lit (.bool false)], args := [d1, d2, d3] }
  | _ => none }
def FnExactReadRecWrongFalsely : Prop := fnExactReadRecRow.holds Try.pinned (OpenSpec.ofChange fnExactReadRecWrong)

/-- 'laws.FnExactWriteRec': WHATEVER THE INPUT: true; the input reads as it did. -/
def fnExactWriteRecSpec : ChangeSpec := { name := "fnExactWriteRec", fn := fun _ => fun
  | [d1, d2, d3, d4] => { results := [.lit (.bool true)], args := [d1, d2, d3, d4] }
  | _ => none }
def fnExactWriteRecRow : OpenClaim := { program := "ytbpcafcipncloaa", sum := "668c44ecd57a6dcd72c424cb91d757b5a41cf06fc824c9d202098a45e46b7ba5", func := "loop.example/s01136/laws.FnExactWriteRec", spec := "fnExactWriteRec", unfollowed := true, recurses := true, apart := false }
def FnExactWriteRecSaid : Prop := fnExactWriteRecRow.holds Try.pinned (OpenSpec.ofChange fnExactWriteRecSpec)

/-- ITS FALSE NEIGHBOUR: 'it returns false'. Refute it at one input. -/
def fnExactWriteRecWrong : ChangeSpec := { name := "fnExactWriteRec", fn := fun _ => fun
  | [d1, d2, d3, d4] => { results := [.lit (.bool false)], args := [d1, d2, d3, d4] }
  | _ => none }
def FnExactWriteRecWrongFalsely : Prop := fnExactWriteRecRow.holds Try.pinned (OpenSpec.ofChange fnExactWriteRecWrong)

/-- 'laws.FnExactReadArea': WHATEVER THE INPUT: true; the input reads as it did. -/
def fnExactReadAreaSpec : ChangeSpec := { name := "fnExactReadArea", fn := fun _ => fun
  | [d1, d2, d3] => { results := [.lit (.bool true)], args := [d1, d2, d3] }
  | _ => none }
def fnExactReadAreaRow : OpenClaim := { program := "ytbpcafcipncloaa", sum := "668c44ecd57a6dcd72c424cb91d757b5a41cf06fc824c9d202098a45e46b7ba5", func := "loop.example/s01136/laws.FnExactReadArea", spec := "fnExactReadArea", apart := false }
def FnExactReadAreaSaid : Prop := fnExactReadAreaRow.holds Try.pinned (OpenSpec.ofChange fnExactReadAreaSpec)

/-- ITS FALSE NEIGHBOUR: 'it returns false'. Refute it at one input. -/
def fnExactReadAreaWrong : ChangeSpec := { name := "fnExactReadArea", fn := fun _ => fun
  | [d1, d2, d3] => { results := [.lit (.bool false)], args := [d1, d2, d3] }
  | _ => none }
def FnExactReadAreaWrongFalsely : Prop := fnExactReadAreaRow.holds Try.pinned (OpenSpec.ofChange fnExactReadAreaWrong)

/- THE SECOND FORM. 'bulk': how many values and letters a reading holds, each counted each time it is reached (what is shared counts as often as it is met; a slice's spare places count too). A statement '..UptoSaid' is the law's where the arguments, and the package variables that the reading takes, are together of bulk at most 1048576: NARROWER than '..Said'. Prove '..Said' where nothing that the law and all that it calls make is longer than what came in: it says more and counts as full. Else prove '..UptoSaid'. A law counts once. -/
mutual
def uptoBulk {H : Type} : DataW H → Nat
  | .lit (.string bytes) => bytes.length + 1
  | .lit _ => 1
  | .nil => 1
  | .ptr d => uptoBulk d + 1
  | .slice elems spare => uptoBulkAll elems + uptoBulkAll spare + 1
  | .agg parts => uptoBulkAll parts + 1
  | .iface _ d => uptoBulk d + 1
  | .map entries => uptoBulkEntries entries + 1
  | .held _ => 1
def uptoBulkAll {H : Type} : List (DataW H) → Nat
  | [] => 0
  | d :: r => uptoBulk d + uptoBulkAll r
def uptoBulkEntries {H : Type} : List (Lit × DataW H) → Nat
  | [] => 0
  | x :: r => uptoBulkEntry x + uptoBulkEntries r
def uptoBulkEntry {H : Type} : Lit × DataW H → Nat
  | (.string bytes, d) => bytes.length + uptoBulk d + 1
  | (_, d) => uptoBulk d + 1
 end
def uptoSmall : (H : Type) → List (DataW H) → Bool := fun _ ds => decide (uptoBulkAll ds ≤ 1048576)
def OpenSpec.upto (s : _root_.Go.ChangeSpec) : _root_.Go.OpenSpec := { _root_.Go.OpenSpec.ofChange s with cond := some uptoSmall }

/-- 'laws.FnExactRecSectors', WHERE WHAT IT READS IS OF BULK AT MOST 1048576: true; the input reads as it did. -/
def fnExactRecSectorsUptoRow : OpenClaim := { program := "ytbpcafcipncloaa", sum := "668c44ecd57a6dcd72c424cb91d757b5a41cf06fc824c9d202098a45e46b7ba5", func := "loop.example/s01136/laws.FnExactRecSectors", spec := "fnExactRecSectors", apart := false, narrowed := true }
def FnExactRecSectorsUptoSaid : Prop := fnExactRecSectorsUptoRow.holds Try.pinned (OpenSpec.upto fnExactRecSectorsSpec)

/-- 'laws.FnExactCrc32', WHERE WHAT IT READS IS OF BULK AT MOST 1048576: true; the input reads as it did. -/
def fnExactCrc32UptoRow : OpenClaim := { program := "ytbpcafcipncloaa", sum := "668c44ecd57a6dcd72c424cb91d757b5a41cf06fc824c9d202098a45e46b7ba5", func := "loop.example/s01136/laws.FnExactCrc32", spec := "fnExactCrc32", apart := false, narrowed := true }
def FnExactCrc32UptoSaid : Prop := fnExactCrc32UptoRow.holds Try.pinned (OpenSpec.upto fnExactCrc32Spec)

/-- 'laws.FnExactReadRec', WHERE WHAT IT READS IS OF BULK AT MOST 1048576: true; the input reads as it did. -/
def fnExactReadRecUptoRow : OpenClaim := { program := "ytbpcafcipncloaa", sum := "668c44ecd57a6dcd72c424cb91d757b5a41cf06fc824c9d202098a45e46b7ba5", func := "loop.example/s01136/laws.FnExactReadRec", spec := "fnExactReadRec", apart := false, narrowed := true }
def FnExactReadRecUptoSaid : Prop := fnExactReadRecUptoRow.holds Try.pinned (OpenSpec.upto fnExactReadRecSpec)

/-- 'laws.FnExactWriteRec', WHERE WHAT IT READS IS OF BULK AT MOST 1048576: true; the input reads as it did. -/
def fnExactWriteRecUptoRow : OpenClaim := { program := "ytbpcafcipncloaa", sum := "668c44ecd57a6dcd72c424cb91d757b5a41cf06fc824c9d202098a45e46b7ba5", func := "loop.example/s01136/laws.FnExactWriteRec", spec := "fnExactWriteRec", unfollowed := true, recurses := true, apart := false, narrowed := true }
def FnExactWriteRecUptoSaid : Prop := fnExactWriteRecUptoRow.holds Try.pinned (OpenSpec.upto fnExactWriteRecSpec)

/-- 'laws.FnExactReadArea', WHERE WHAT IT READS IS OF BULK AT MOST 1048576: true; the input reads as it did. -/
def fnExactReadAreaUptoRow : OpenClaim := { program := "ytbpcafcipncloaa", sum := "668c44ecd57a6dcd72c424cb91d757b5a41cf06fc824c9d202098a45e46b7ba5", func := "loop.example/s01136/laws.FnExactReadArea", spec := "fnExactReadArea", apart := false, narrowed := true }
def FnExactReadAreaUptoSaid : Prop := fnExactReadAreaUptoRow.holds Try.pinned (OpenSpec.upto fnExactReadAreaSpec)

end Rows
end Go.Proofs.Ytbpcafcipncloaa
