/-
  No cell of these rows narrows 'for every input' (looked for: loops, veiled, ifaces, maps, wideKeys, modest, calm, conditions, laid).
  DERIVED. THE GIVEN ROWS OF THIS SEAT. 6 by the template 'for every input the law returns true; each argument reads behind the call as it read before'; 0 by the template 'total and deterministic' (their statements: YtfcffpgiijnmjaaTotals.lean).
  GIVEN WITH THE SEED: the statements are not yours to turn. If you find one false, say at which input.
  Laid BY PROGRAM, IN A SANDBOX (cutbox-rows.mjs): the forced cells as the released guide's own fill.sh prints them over the translation 63b8823569598d85… (all of the seat's roots in one cut). By AI agents, Wed Nov 11 2026. No macro, syntax, notation, axiom, sorry.
-/
import Derived.Test.YtfcffpgiijnmjaaChecked
import GoSem.Claim
import GoSem.ClaimJoined
import GoSem.ClaimMapViews
import Derived.JoinedTies
import Derived.KernelRfl
namespace Go.Proofs.Ytfcffpgiijnmjaa
/- THE CELL 'sum', in the pinned program and in every row, IS THE sha256 OF THE DUMP (.gsa) THAT YtfcffpgiijnmjaaProg.lean LOADS. Nothing in Lean hashes anything: it is a label: what it is worth is what the hold of that sum in a sandbox is worth. -/
noncomputable def Try.pinned : Pinned := { name := "ytfcffpgiijnmjaa", sum := "63b8823569598d850d0fb1a82b6dbd86fa14f9ccd141697e64d5d0fd288c3a8b", checked := Try.checked }
namespace Rows
def none {H : Type} : Left H := { results := [], args := [] }

/-- 'laws.FnExactDictNew': WHATEVER THE INPUT: true; the input reads as it did. -/
def fnExactDictNewSpec : ChangeSpec := { name := "fnExactDictNew", fn := fun _ => fun
  | [] => { results := [.lit (.bool true)], args := [] }
  | _ => none }
def fnExactDictNewRow : OpenClaim := { program := "ytfcffpgiijnmjaa", sum := "63b8823569598d850d0fb1a82b6dbd86fa14f9ccd141697e64d5d0fd288c3a8b", func := "loop.example/s01136/laws.FnExactDictNew", spec := "fnExactDictNew", apart := false }
def FnExactDictNewSaid : Prop := fnExactDictNewRow.holds Try.pinned (OpenSpec.ofChange fnExactDictNewSpec)

/-- ITS FALSE NEIGHBOUR: 'it returns false'. Refute it at one input. -/
def fnExactDictNewWrong : ChangeSpec := { name := "fnExactDictNew", fn := fun _ => fun
  | [] => { results := [.lit (.bool false)], args := [] }
  | _ => none }
def FnExactDictNewWrongFalsely : Prop := fnExactDictNewRow.holds Try.pinned (OpenSpec.ofChange fnExactDictNewWrong)

/-- 'laws.FnExactValidDict': WHATEVER THE INPUT: true; the input reads as it did. -/
def fnExactValidDictSpec : ChangeSpec := { name := "fnExactValidDict", fn := fun _ => fun
  | [d] => { results := [.lit (.bool true)], args := [d] }
  | _ => none }
def fnExactValidDictRow : OpenClaim := { program := "ytfcffpgiijnmjaa", sum := "63b8823569598d850d0fb1a82b6dbd86fa14f9ccd141697e64d5d0fd288c3a8b", func := "loop.example/s01136/laws.FnExactValidDict", spec := "fnExactValidDict", apart := false }
def FnExactValidDictSaid : Prop := fnExactValidDictRow.holds Try.pinned (OpenSpec.ofChange fnExactValidDictSpec)

/-- ITS FALSE NEIGHBOUR: 'it returns false'. Refute it at one input. -/
def fnExactValidDictWrong : ChangeSpec := { name := "fnExactValidDict", fn := fun _ => fun
  | [d] => { results := [.lit (.bool false)], args := [d] }
  | _ => none }
def FnExactValidDictWrongFalsely : Prop := fnExactValidDictRow.holds Try.pinned (OpenSpec.ofChange fnExactValidDictWrong)

/-- 'laws.FnExactTermId': WHATEVER THE INPUT: true; the input reads as it did. -/
def fnExactTermIdSpec : ChangeSpec := { name := "fnExactTermId", fn := fun _ => fun
  | [d1, d2] => { results := [.lit (.bool true)], args := [d1, d2] }
  | _ => none }
def fnExactTermIdRow : OpenClaim := { program := "ytfcffpgiijnmjaa", sum := "63b8823569598d850d0fb1a82b6dbd86fa14f9ccd141697e64d5d0fd288c3a8b", func := "loop.example/s01136/laws.FnExactTermId", spec := "fnExactTermId", apart := false }
def FnExactTermIdSaid : Prop := fnExactTermIdRow.holds Try.pinned (OpenSpec.ofChange fnExactTermIdSpec)

/-- ITS FALSE NEIGHBOUR: 'it returns false'. Refute it at one input. -/
def fnExactTermIdWrong : ChangeSpec := { name := "fnExactTermId", fn := fun _ => fun
  | [d1, d2] => { results := [.lit (.bool false)], args := [d1, d2] }
  | _ => none }
def FnExactTermIdWrongFalsely : Prop := fnExactTermIdRow.holds Try.pinned (OpenSpec.ofChange fnExactTermIdWrong)

/-- 'laws.FnExactTermText': WHATEVER THE INPUT: true; the input reads as it did. -/
def fnExactTermTextSpec : ChangeSpec := { name := "fnExactTermText", fn := fun _ => fun
  | [d1, d2] => { results := [.lit (.bool true)], args := [d1, d2] }
  | _ => none }
def fnExactTermTextRow : OpenClaim := { program := "ytfcffpgiijnmjaa", sum := "63b8823569598d850d0fb1a82b6dbd86fa14f9ccd141697e64d5d0fd288c3a8b", func := "loop.example/s01136/laws.FnExactTermText", spec := "fnExactTermText", apart := false }
def FnExactTermTextSaid : Prop := fnExactTermTextRow.holds Try.pinned (OpenSpec.ofChange fnExactTermTextSpec)

/-- ITS FALSE NEIGHBOUR: 'it returns false'. Refute it at one input. -/
def fnExactTermTextWrong : ChangeSpec := { name := "fnExactTermText", fn := fun _ => fun
  | [d1, d2] => { results := [.lit (.bool false)], args := [d1, d2] }
  | _ => none }
def FnExactTermTextWrongFalsely : Prop := fnExactTermTextRow.holds Try.pinned (OpenSpec.ofChange fnExactTermTextWrong)

/-- 'laws.FnExactTreeNew': WHATEVER THE INPUT: true; the input reads as it did. -/
def fnExactTreeNewSpec : ChangeSpec := { name := "fnExactTreeNew", fn := fun _ => fun
  | [] => { results := [.lit (.bool true)], args := [] }
  | _ => none }
def fnExactTreeNewRow : OpenClaim := { program := "ytfcffpgiijnmjaa", sum := "63b8823569598d850d0fb1a82b6dbd86fa14f9ccd141697e64d5d0fd288c3a8b", func := "loop.example/s01136/laws.FnExactTreeNew", spec := "fnExactTreeNew", unfollowed := true, recurses := true, apart := false }
def FnExactTreeNewSaid : Prop := fnExactTreeNewRow.holds Try.pinned (OpenSpec.ofChange fnExactTreeNewSpec)

/-- ITS FALSE NEIGHBOUR: 'it returns false'. Refute it at one input. -/
def fnExactTreeNewWrong : ChangeSpec := { name := "fnExactTreeNew", fn := fun _ => fun
  | [] => { results := [.lit (.bool false)], args := [] }
  | _ => none }
def FnExactTreeNewWrongFalsely : Prop := fnExactTreeNewRow.holds Try.pinned (OpenSpec.ofChange fnExactTreeNewWrong)

/-- 'laws.FnExactIndexNew': WHATEVER THE INPUT: true; the input reads as it did. -/
def fnExactIndexNewSpec : ChangeSpec := { name := "fnExactIndexNew", fn := fun _ => fun
  | [] => { results := [.lit (.bool true)], args := [] }
  | _ => none }
def fnExactIndexNewRow : OpenClaim := { program := "ytfcffpgiijnmjaa", sum := "63b8823569598d850d0fb1a82b6dbd86fa14f9ccd141697e64d5d0fd288c3a8b", func := "loop.example/s01136/laws.FnExactIndexNew", spec := "fnExactIndexNew", unfollowed := true, recurses := true, apart := false }
def FnExactIndexNewSaid : Prop := fnExactIndexNewRow.holds Try.pinned (OpenSpec.ofChange fnExactIndexNewSpec)

/-- ITS FALSE NEIGHBOUR: 'it returns false'. Refute it at one input. -/
def fnExactIndexNewWrong : ChangeSpec := { name := "fnExactIndexNew", fn := fun _ => fun
  | [] => { results := [.lit (.bool false)], args := [] }
  | _ => none }
def FnExactIndexNewWrongFalsely : Prop := fnExactIndexNewRow.holds Try.pinned (OpenSpec.ofChange fnExactIndexNewWrong)

/- THE SECOND FORM. 'bulk': how many values and letters a reading holds, each counted each time it is reached (what is shared counts as often as it is met; a slice's spare places count too). A statement '..UptoSaid' is the law's where the arguments, and the package variables that the reading takes, are together of bulk at most 1048576: NARROWER than '..Said'. Prove '..Said' where nothing that the law and all that it calls make is longer than what came in: it says more and counts as full. Else prove '..UptoSaid'. A law counts once. -/
mutual
def uptoBulk {H : Type} : DataW H → Nat
  | .lit (.string bytes) => bytes.length + 1
  | .lit _ => 1
  | .nil => 1
  | .ptr d => uptoBulk d + 1
  | .slice elems spare => uptoBulkAll elems + uptoBulkAll spare + 1
  | .agg parts => uptoBulkAll parts + 1
  | .iface _ d => uptoBulk d + 1
  | .map entries => uptoBulkEntries entries + 1
  | .held _ => 1
def uptoBulkAll {H : Type} : List (DataW H) → Nat
  | [] => 0
  | d :: r => uptoBulk d + uptoBulkAll r
def uptoBulkEntries {H : Type} : List (Lit × DataW H) → Nat
  | [] => 0
  | x :: r => uptoBulkEntry x + uptoBulkEntries r
def uptoBulkEntry {H : Type} : Lit × DataW H → Nat
  | (.string bytes, d) => bytes.length + uptoBulk d + 1
  | (_, d) => uptoBulk d + 1
 end
def uptoSmall : (H : Type) → List (DataW H) → Bool := fun _ ds => decide (uptoBulkAll ds ≤ 1048576)
def OpenSpec.upto (s : _root_.Go.ChangeSpec) : _root_.Go.OpenSpec := { _root_.Go.OpenSpec.ofChange s with cond := some uptoSmall }

/-- 'laws.FnExactDictNew', WHERE WHAT IT READS IS OF BULK AT MOST 1048576: true; the input reads as it did. -/
def fnExactDictNewUptoRow : OpenClaim := { program := "ytfcffpgiijnmjaa", sum := "63b8823569598d850d0fb1a82b6dbd86fa14f9ccd141697e64d5d0fd288c3a8b", func := "loop.example/s01136/laws.FnExactDictNew", spec := "fnExactDictNew", apart := false, narrowed := true }
def FnExactDictNewUptoSaid : Prop := fnExactDictNewUptoRow.holds Try.pinned (OpenSpec.upto fnExactDictNewSpec)

/-- 'laws.FnExactValidDict', WHERE WHAT IT READS IS OF BULK AT MOST 1048576: true; the input reads as it did. -/
def fnExactValidDictUptoRow : OpenClaim := { program := "ytfcffpgiijnmjaa", sum := "63b8823569598d850d0fb1a82b6dbd86fa14f9ccd141697e64d5d0fd288c3a8b", func := "loop.example/s01136/laws.FnExactValidDict", spec := "fnExactValidDict", apart := false, narrowed := true }
def FnExactValidDictUptoSaid : Prop := fnExactValidDictUptoRow.holds Try.pinned (OpenSpec.upto fnExactValidDictSpec)

/-- 'laws.FnExactTermId', WHERE WHAT IT READS IS OF BULK AT MOST 1048576: true; the input reads as it did. -/
def fnExactTermIdUptoRow : OpenClaim := { program := "ytfcffpgiijnmjaa", sum := "63b8823569598d850d0fb1a82b6dbd86fa14f9ccd141697e64d5d0fd288c3a8b", func := "loop.example/s01136/laws.FnExactTermId", spec := "fnExactTermId", apart := false, narrowed := true }
def FnExactTermIdUptoSaid : Prop := fnExactTermIdUptoRow.holds Try.pinned (OpenSpec.upto fnExactTermIdSpec)

/-- 'laws.FnExactTermText', WHERE WHAT IT READS IS OF BULK AT MOST 1048576: true; the input reads as it did. -/
def fnExactTermTextUptoRow : OpenClaim := { program := "ytfcffpgiijnmjaa", sum := "63b8823569598d850d0fb1a82b6dbd86fa14f9ccd141697e64d5d0fd288c3a8b", func := "loop.example/s01136/laws.FnExactTermText", spec := "fnExactTermText", apart := false, narrowed := true }
def FnExactTermTextUptoSaid : Prop := fnExactTermTextUptoRow.holds Try.pinned (OpenSpec.upto fnExactTermTextSpec)

/-- 'laws.FnExactTreeNew', WHERE WHAT IT READS IS OF BULK AT MOST 1048576: true; the input reads as it did. -/
def fnExactTreeNewUptoRow : OpenClaim := { program := "ytfcffpgiijnmjaa", sum := "63b8823569598d850d0fb1a82b6dbd86fa14f9ccd141697e64d5d0fd288c3a8b", func := "loop.example/s01136/laws.FnExactTreeNew", spec := "fnExactTreeNew", unfollowed := true, recurses := true, apart := false, narrowed := true }
def FnExactTreeNewUptoSaid : Prop := fnExactTreeNewUptoRow.holds Try.pinned (OpenSpec.upto fnExactTreeNewSpec)

/-- 'laws.FnExactIndexNew', WHERE WHAT IT READS IS OF BULK AT MOST 1048576: true; the input reads as it did. -/
def fnExactIndexNewUptoRow : OpenClaim := { program := "ytfcffpgiijnmjaa", sum := "63b8823569598d850d0fb1a82b6dbd86fa14f9ccd141697e64d5d0fd288c3a8b", func := "loop.example/s01136/laws.FnExactIndexNew", spec := "fnExactIndexNew", unfollowed := true, recurses := true, apart := false, narrowed := true }
def FnExactIndexNewUptoSaid : Prop := fnExactIndexNewUptoRow.holds Try.pinned (OpenSpec.upto fnExactIndexNewSpec)

end Rows
end Go.Proofs.Ytfcffpgiijnmjaa
