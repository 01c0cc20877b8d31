/-
  No cell of these rows narrows 'for every input' (looked for: loops, veiled, ifaces, maps, wideKeys, modest, calm, conditions, laid).
  DERIVED. THE GIVEN ROWS OF THIS SEAT. 4 by the template 'for every input the law returns true; each argument reads behind the call as it read before'; 0 by the template 'total and deterministic' (their statements: YtcnollkkigiobaaGreatTotals.lean).
  GIVEN WITH THE SEED: the statements are not yours to turn. If you find one false, say at which input.
  Laid BY PROGRAM, IN A SANDBOX (cutbox-rows.mjs): the forced cells as the released guide's own fill.sh prints them over the translation 41aca9272fc4b1f7… (all of the seat's roots in one cut). By AI agents, Wed Nov 11 2026. No macro, syntax, notation, axiom, sorry.
-/
import Derived.Test.YtcnollkkigiobaaGreatChecked
import GoSem.Claim
import GoSem.ClaimJoined
import GoSem.ClaimMapViews
import Derived.JoinedTies
import Derived.KernelRfl
namespace Go.Proofs.YtcnollkkigiobaaGreat
/- THE CELL 'sum', in the pinned program and in every row, IS THE sha256 OF THE DUMP (.gsa) THAT YtcnollkkigiobaaGreatProg.lean LOADS. Nothing in Lean hashes anything: it is a label: what it is worth is what the hold of that sum in a sandbox is worth. -/
noncomputable def Tryz.pinned : Pinned := { name := "ytcnollkkigiobaagreat", sum := "41aca9272fc4b1f7a1c382046bb5b4c6e5338c6099dbfda81680b8d7d2e35963", checked := Tryz.checked }
namespace Rows
def none {H : Type} : Left H := { results := [], args := [] }

/-- 'laws.FnExactScanQuads': WHATEVER THE INPUT: true; the input reads as it did. -/
def fnExactScanQuadsSpec : ChangeSpec := { name := "fnExactScanQuads", fn := fun _ => fun
  | [d1, d2, d3] => { results := [.lit (.bool true)], args := [d1, d2, d3] }
  | _ => none }
def fnExactScanQuadsRow : OpenClaim := { program := "ytcnollkkigiobaagreat", sum := "41aca9272fc4b1f7a1c382046bb5b4c6e5338c6099dbfda81680b8d7d2e35963", func := "loop.example/s01136/laws.FnExactScanQuads", spec := "fnExactScanQuads", unfollowed := true, recurses := true, plainKeys := false, apart := false }
def FnExactScanQuadsSaid : Prop := fnExactScanQuadsRow.holds Tryz.pinned (OpenSpec.ofChange fnExactScanQuadsSpec)

/-- ITS FALSE NEIGHBOUR: 'it returns false'. Refute it at one input. -/
def fnExactScanQuadsWrong : ChangeSpec := { name := "fnExactScanQuads", fn := fun _ => fun
  | [d1, d2, d3] => { results := [.lit (.bool false)], args := [d1, d2, d3] }
  | _ => none }
def FnExactScanQuadsWrongFalsely : Prop := fnExactScanQuadsRow.holds Tryz.pinned (OpenSpec.ofChange fnExactScanQuadsWrong)

/-- 'laws.FnExactIndexAdd': WHATEVER THE INPUT: true; the input reads as it did. -/
def fnExactIndexAddSpec : ChangeSpec := { name := "fnExactIndexAdd", fn := fun _ => fun
  | [d1, d2] => { results := [.lit (.bool true)], args := [d1, d2] }
  | _ => none }
def fnExactIndexAddRow : OpenClaim := { program := "ytcnollkkigiobaagreat", sum := "41aca9272fc4b1f7a1c382046bb5b4c6e5338c6099dbfda81680b8d7d2e35963", func := "loop.example/s01136/laws.FnExactIndexAdd", spec := "fnExactIndexAdd", unfollowed := true, recurses := true, plainKeys := false, apart := false }
def FnExactIndexAddSaid : Prop := fnExactIndexAddRow.holds Tryz.pinned (OpenSpec.ofChange fnExactIndexAddSpec)

/-- ITS FALSE NEIGHBOUR: 'it returns false'. Refute it at one input. -/
def fnExactIndexAddWrong : ChangeSpec := { name := "fnExactIndexAdd", fn := fun _ => fun
  | [d1, d2] => { results := [.lit (.bool false)], args := [d1, d2] }
  | _ => none }
def FnExactIndexAddWrongFalsely : Prop := fnExactIndexAddRow.holds Tryz.pinned (OpenSpec.ofChange fnExactIndexAddWrong)

/-- 'laws.FnExactIndexDel': WHATEVER THE INPUT: true; the input reads as it did. -/
def fnExactIndexDelSpec : ChangeSpec := { name := "fnExactIndexDel", fn := fun _ => fun
  | [d1, d2] => { results := [.lit (.bool true)], args := [d1, d2] }
  | _ => none }
def fnExactIndexDelRow : OpenClaim := { program := "ytcnollkkigiobaagreat", sum := "41aca9272fc4b1f7a1c382046bb5b4c6e5338c6099dbfda81680b8d7d2e35963", func := "loop.example/s01136/laws.FnExactIndexDel", spec := "fnExactIndexDel", unfollowed := true, recurses := true, plainKeys := false, apart := false }
def FnExactIndexDelSaid : Prop := fnExactIndexDelRow.holds Tryz.pinned (OpenSpec.ofChange fnExactIndexDelSpec)

/-- ITS FALSE NEIGHBOUR: 'it returns false'. Refute it at one input. -/
def fnExactIndexDelWrong : ChangeSpec := { name := "fnExactIndexDel", fn := fun _ => fun
  | [d1, d2] => { results := [.lit (.bool false)], args := [d1, d2] }
  | _ => none }
def FnExactIndexDelWrongFalsely : Prop := fnExactIndexDelRow.holds Tryz.pinned (OpenSpec.ofChange fnExactIndexDelWrong)

/-- 'laws.FnIndex': WHATEVER THE INPUT: true; the input reads as it did. -/
def fnIndexSpec : ChangeSpec := { name := "fnIndex", fn := fun _ => fun
  | [d1, d2] => { results := [.lit (.bool true)], args := [d1, d2] }
  | _ => none }
def fnIndexRow : OpenClaim := { program := "ytcnollkkigiobaagreat", sum := "41aca9272fc4b1f7a1c382046bb5b4c6e5338c6099dbfda81680b8d7d2e35963", func := "loop.example/s01136/laws.FnIndex", spec := "fnIndex", unfollowed := true, recurses := true, plainKeys := false, apart := false }
def FnIndexSaid : Prop := fnIndexRow.holds Tryz.pinned (OpenSpec.ofChange fnIndexSpec)

/-- ITS FALSE NEIGHBOUR: 'it returns false'. Refute it at one input. -/
def fnIndexWrong : ChangeSpec := { name := "fnIndex", fn := fun _ => fun
  | [d1, d2] => { results := [.lit (.bool false)], args := [d1, d2] }
  | _ => none }
def FnIndexWrongFalsely : Prop := fnIndexRow.holds Tryz.pinned (OpenSpec.ofChange fnIndexWrong)

/- THE SECOND FORM. 'bulk': how many values and letters a reading holds, each counted each time it is reached (what is shared counts as often as it is met; a slice's spare places count too). A statement '..UptoSaid' is the law's where the arguments, and the package variables that the reading takes, are together of bulk at most 1048576: NARROWER than '..Said'. Prove '..Said' where nothing that the law and all that it calls make is longer than what came in: it says more and counts as full. Else prove '..UptoSaid'. A law counts once. -/
mutual
def uptoBulk {H : Type} : DataW H → Nat
  | .lit (.string bytes) => bytes.length + 1
  | .lit _ => 1
  | .nil => 1
  | .ptr d => uptoBulk d + 1
  | .slice elems spare => uptoBulkAll elems + uptoBulkAll spare + 1
  | .agg parts => uptoBulkAll parts + 1
  | .iface _ d => uptoBulk d + 1
  | .map entries => uptoBulkEntries entries + 1
  | .held _ => 1
def uptoBulkAll {H : Type} : List (DataW H) → Nat
  | [] => 0
  | d :: r => uptoBulk d + uptoBulkAll r
def uptoBulkEntries {H : Type} : List (Lit × DataW H) → Nat
  | [] => 0
  | x :: r => uptoBulkEntry x + uptoBulkEntries r
def uptoBulkEntry {H : Type} : Lit × DataW H → Nat
  | (.string bytes, d) => bytes.length + uptoBulk d + 1
  | (_, d) => uptoBulk d + 1
 end
def uptoSmall : (H : Type) → List (DataW H) → Bool := fun _ ds => decide (uptoBulkAll ds ≤ 1048576)
def OpenSpec.upto (s : _root_.Go.ChangeSpec) : _root_.Go.OpenSpec := { _root_.Go.OpenSpec.ofChange s with cond := some uptoSmall }

/-- 'laws.FnExactScanQuads', WHERE WHAT IT READS IS OF BULK AT MOST 1048576: true; the input reads as it did. -/
def fnExactScanQuadsUptoRow : OpenClaim := { program := "ytcnollkkigiobaagreat", sum := "41aca9272fc4b1f7a1c382046bb5b4c6e5338c6099dbfda81680b8d7d2e35963", func := "loop.example/s01136/laws.FnExactScanQuads", spec := "fnExactScanQuads", unfollowed := true, recurses := true, plainKeys := false, apart := false, narrowed := true }
def FnExactScanQuadsUptoSaid : Prop := fnExactScanQuadsUptoRow.holds Tryz.pinned (OpenSpec.upto fnExactScanQuadsSpec)

/-- 'laws.FnExactIndexAdd', WHERE WHAT IT READS IS OF BULK AT MOST 1048576: true; the input reads as it did. -/
def fnExactIndexAddUptoRow : OpenClaim := { program := "ytcnollkkigiobaagreat", sum := "41aca9272fc4b1f7a1c382046bb5b4c6e5338c6099dbfda81680b8d7d2e35963", func := "loop.example/s01136/laws.FnExactIndexAdd", spec := "fnExactIndexAdd", unfollowed := true, recurses := true, plainKeys := false, apart := false, narrowed := true }
def FnExactIndexAddUptoSaid : Prop := fnExactIndexAddUptoRow.holds Tryz.pinned (OpenSpec.upto fnExactIndexAddSpec)

/-- 'laws.FnExactIndexDel', WHERE WHAT IT READS IS OF BULK AT MOST 1048576: true; the input reads as it did. -/
def fnExactIndexDelUptoRow : OpenClaim := { program := "ytcnollkkigiobaagreat", sum := "41aca9272fc4b1f7a1c382046bb5b4c6e5338c6099dbfda81680b8d7d2e35963", func := "loop.example/s01136/laws.FnExactIndexDel", spec := "fnExactIndexDel", unfollowed := true, recurses := true, plainKeys := false, apart := false, narrowed := true }
def FnExactIndexDelUptoSaid : Prop := fnExactIndexDelUptoRow.holds Tryz.pinned (OpenSpec.upto fnExactIndexDelSpec)

/-- 'laws.FnIndex', WHERE WHAT IT READS IS OF BULK AT MOST 1048576: true; the input reads as it did. -/
def fnIndexUptoRow : OpenClaim := { program := "ytcnollkkigiobaagreat", sum := "41aca9272fc4b1f7a1c382046bb5b4c6e5338c6099dbfda81680b8d7d2e35963", func := "loop.example/s01136/laws.FnIndex", spec := "fnIndex", unfollowed := true, recurses := true, plainKeys := false, apart := false, narrowed := true }
def FnIndexUptoSaid : Prop := fnIndexUptoRow.holds Tryz.pinned (OpenSpec.upto fnIndexSpec)

end Rows
end Go.Proofs.YtcnollkkigiobaaGreat
