/-
  No cell of these rows narrows 'for every input' (looked for: loops, veiled, ifaces, maps, wideKeys, modest, calm, conditions, laid).
  DERIVED. THE GIVEN ROWS OF THIS SEAT. 5 by the template 'for every input the law returns true; each argument reads behind the call as it read before'; 0 by the template 'total and deterministic' (their statements: YtomcopedgpejhaaTotals.lean).
  GIVEN WITH THE SEED: the statements are not yours to turn. If you find one false, say at which input.
  Laid BY PROGRAM, IN A SANDBOX (cutbox-rows.mjs): the forced cells as the released guide's own fill.sh prints them over the translation c9447af15132b313… (all of the seat's roots in one cut). By AI agents, Wed Nov 11 2026. No macro, syntax, notation, axiom, sorry.
-/
import Derived.Test.YtomcopedgpejhaaChecked
import GoSem.Claim
import GoSem.ClaimJoined
import GoSem.ClaimMapViews
import Derived.JoinedTies
import Derived.KernelRfl
namespace Go.Proofs.Ytomcopedgpejhaa
/- THE CELL 'sum', in the pinned program and in every row, IS THE sha256 OF THE DUMP (.gsa) THAT YtomcopedgpejhaaProg.lean LOADS. Nothing in Lean hashes anything: it is a label: what it is worth is what the hold of that sum in a sandbox is worth. -/
noncomputable def Try.pinned : Pinned := { name := "ytomcopedgpejhaa", sum := "c9447af15132b31343fea6f60744bfd36ee0a803692ebb1a86618f16513ea1c1", checked := Try.checked }
namespace Rows
def none {H : Type} : Left H := { results := [], args := [] }

/-- 'laws.FnExactValidBucket': WHATEVER THE INPUT: true; the input reads as it did. -/
def fnExactValidBucketSpec : ChangeSpec := { name := "fnExactValidBucket", fn := fun _ => fun
  | [d] => { results := [.lit (.bool true)], args := [d] }
  | _ => none }
def fnExactValidBucketRow : OpenClaim := { program := "ytomcopedgpejhaa", sum := "c9447af15132b31343fea6f60744bfd36ee0a803692ebb1a86618f16513ea1c1", func := "loop.example/telemetryagent/laws.FnExactValidBucket", spec := "fnExactValidBucket", apart := false }
def FnExactValidBucketSaid : Prop := fnExactValidBucketRow.holds Try.pinned (OpenSpec.ofChange fnExactValidBucketSpec)

/-- ITS FALSE NEIGHBOUR: 'it returns false'. Refute it at one input. -/
def fnExactValidBucketWrong : ChangeSpec := { name := "fnExactValidBucket", fn := fun _ => fun
  | [d] => { results := [.lit (.bool false)], args := [d] }
  | _ => none }
def FnExactValidBucketWrongFalsely : Prop := fnExactValidBucketRow.holds Try.pinned (OpenSpec.ofChange fnExactValidBucketWrong)

/-- 'laws.FnExactLevelAt': WHATEVER THE INPUT: true; the input reads as it did. -/
def fnExactLevelAtSpec : ChangeSpec := { name := "fnExactLevelAt", fn := fun _ => fun
  | [d1, d2] => { results := [.lit (.bool true)], args := [d1, d2] }
  | _ => none }
def fnExactLevelAtRow : OpenClaim := { program := "ytomcopedgpejhaa", sum := "c9447af15132b31343fea6f60744bfd36ee0a803692ebb1a86618f16513ea1c1", func := "loop.example/telemetryagent/laws.FnExactLevelAt", spec := "fnExactLevelAt", apart := false }
def FnExactLevelAtSaid : Prop := fnExactLevelAtRow.holds Try.pinned (OpenSpec.ofChange fnExactLevelAtSpec)

/-- ITS FALSE NEIGHBOUR: 'it returns false'. Refute it at one input. -/
def fnExactLevelAtWrong : ChangeSpec := { name := "fnExactLevelAt", fn := fun _ => fun
  | [d1, d2] => { results := [.lit (.bool false)], args := [d1, d2] }
  | _ => none }
def FnExactLevelAtWrongFalsely : Prop := fnExactLevelAtRow.holds Try.pinned (OpenSpec.ofChange fnExactLevelAtWrong)

/-- 'laws.FnExactTakeFrom': WHATEVER THE INPUT: true; the input reads as it did. -/
def fnExactTakeFromSpec : ChangeSpec := { name := "fnExactTakeFrom", fn := fun _ => fun
  | [d1, d2, d3] => { results := [.lit (.bool true)], args := [d1, d2, d3] }
  | _ => none }
def fnExactTakeFromRow : OpenClaim := { program := "ytomcopedgpejhaa", sum := "c9447af15132b31343fea6f60744bfd36ee0a803692ebb1a86618f16513ea1c1", func := "loop.example/telemetryagent/laws.FnExactTakeFrom", spec := "fnExactTakeFrom", apart := false }
def FnExactTakeFromSaid : Prop := fnExactTakeFromRow.holds Try.pinned (OpenSpec.ofChange fnExactTakeFromSpec)

/-- ITS FALSE NEIGHBOUR: 'it returns false'. Refute it at one input. -/
def fnExactTakeFromWrong : ChangeSpec := { name := "fnExactTakeFrom", fn := fun _ => fun
  | [d1, d2, d3] => { results := [.lit (.bool false)], args := [d1, d2, d3] }
  | _ => none }
def FnExactTakeFromWrongFalsely : Prop := fnExactTakeFromRow.holds Try.pinned (OpenSpec.ofChange fnExactTakeFromWrong)

/-- 'laws.FnExactReadyAt': WHATEVER THE INPUT: true; the input reads as it did. -/
def fnExactReadyAtSpec : ChangeSpec := { name := "fnExactReadyAt", fn := fun _ => fun
  | [d1, d2] => { results := [.lit (.bool true)], args := [d1, d2] }
  | _ => none }
def fnExactReadyAtRow : OpenClaim := { program := "ytomcopedgpejhaa", sum := "c9447af15132b31343fea6f60744bfd36ee0a803692ebb1a86618f16513ea1c1", func := "loop.example/telemetryagent/laws.FnExactReadyAt", spec := "fnExactReadyAt", apart := false }
def FnExactReadyAtSaid : Prop := fnExactReadyAtRow.holds Try.pinned (OpenSpec.ofChange fnExactReadyAtSpec)

/-- ITS FALSE NEIGHBOUR: 'it returns false'. Refute it at one input. -/
def fnExactReadyAtWrong : ChangeSpec := { name := "fnExactReadyAt", fn := fun _ => fun
  | [d1, d2] => { results := [.lit (.bool false)], args := [d1, d2] }
  | _ => none }
def FnExactReadyAtWrongFalsely : Prop := fnExactReadyAtRow.holds Try.pinned (OpenSpec.ofChange fnExactReadyAtWrong)

/-- 'laws.FnExactPassAll': WHATEVER THE INPUT: true; the input reads as it did. -/
def fnExactPassAllSpec : ChangeSpec := { name := "fnExactPassAll", fn := fun _ => fun
  | [d1, d2, d3] => { results := [.lit (.bool true)], args := [d1, d2, d3] }
  | _ => none }
def fnExactPassAllRow : OpenClaim := { program := "ytomcopedgpejhaa", sum := "c9447af15132b31343fea6f60744bfd36ee0a803692ebb1a86618f16513ea1c1", func := "loop.example/telemetryagent/laws.FnExactPassAll", spec := "fnExactPassAll", apart := false }
def FnExactPassAllSaid : Prop := fnExactPassAllRow.holds Try.pinned (OpenSpec.ofChange fnExactPassAllSpec)

/-- ITS FALSE NEIGHBOUR: 'it returns false'. Refute it at one input. -/
def fnExactPassAllWrong : ChangeSpec := { name := "fnExactPassAll", fn := fun _ => fun
  | [d1, d2, d3] => { results := [.lit (.bool false)], args := [d1, d2, d3] }
  | _ => none }
def FnExactPassAllWrongFalsely : Prop := fnExactPassAllRow.holds Try.pinned (OpenSpec.ofChange fnExactPassAllWrong)

/- THE SECOND FORM. 'bulk': how many values and letters a reading holds, each counted each time it is reached (what is shared counts as often as it is met; a slice's spare places count too). A statement '..UptoSaid' is the law's where the arguments, and the package variables that the reading takes, are together of bulk at most 1048576: NARROWER than '..Said'. Prove '..Said' where nothing that the law and all that it calls make is longer than what came in: it says more and counts as full. Else prove '..UptoSaid'. A law counts once. -/
mutual
def uptoBulk {H : Type} : DataW H → Nat
  | .lit (.string bytes) => bytes.length + 1
  | .lit _ => 1
  | .nil => 1
  | .ptr d => uptoBulk d + 1
  | .slice elems spare => uptoBulkAll elems + uptoBulkAll spare + 1
  | .agg parts => uptoBulkAll parts + 1
  | .iface _ d => uptoBulk d + 1
  | .map entries => uptoBulkEntries entries + 1
  | .held _ => 1
def uptoBulkAll {H : Type} : List (DataW H) → Nat
  | [] => 0
  | d :: r => uptoBulk d + uptoBulkAll r
def uptoBulkEntries {H : Type} : List (Lit × DataW H) → Nat
  | [] => 0
  | x :: r => uptoBulkEntry x + uptoBulkEntries r
def uptoBulkEntry {H : Type} : Lit × DataW H → Nat
  | (.string bytes, d) => bytes.length + uptoBulk d + 1
  | (_, d) => uptoBulk d + 1
 end
def uptoSmall : (H : Type) → List (DataW H) → Bool := fun _ ds => decide (uptoBulkAll ds ≤ 1048576)
def OpenSpec.upto (s : _root_.Go.ChangeSpec) : _root_.Go.OpenSpec := { _root_.Go.OpenSpec.ofChange s with cond := some uptoSmall }

/-- 'laws.FnExactValidBucket', WHERE WHAT IT READS IS OF BULK AT MOST 1048576: true; the input reads as it did. -/
def fnExactValidBucketUptoRow : OpenClaim := { program := "ytomcopedgpejhaa", sum := "c9447af15132b31343fea6f60744bfd36ee0a803692ebb1a86618f16513ea1c1", func := "loop.example/telemetryagent/laws.FnExactValidBucket", spec := "fnExactValidBucket", apart := false, narrowed := true }
def FnExactValidBucketUptoSaid : Prop := fnExactValidBucketUptoRow.holds Try.pinned (OpenSpec.upto fnExactValidBucketSpec)

/-- 'laws.FnExactLevelAt', WHERE WHAT IT READS IS OF BULK AT MOST 1048576: true; the input reads as it did. -/
def fnExactLevelAtUptoRow : OpenClaim := { program := "ytomcopedgpejhaa", sum := "c9447af15132b31343fea6f60744bfd36ee0a803692ebb1a86618f16513ea1c1", func := "loop.example/telemetryagent/laws.FnExactLevelAt", spec := "fnExactLevelAt", apart := false, narrowed := true }
def FnExactLevelAtUptoSaid : Prop := fnExactLevelAtUptoRow.holds Try.pinned (OpenSpec.upto fnExactLevelAtSpec)

/-- 'laws.FnExactTakeFrom', WHERE WHAT IT READS IS OF BULK AT MOST 1048576: true; the input reads as it did. -/
def fnExactTakeFromUptoRow : OpenClaim := { program := "ytomcopedgpejhaa", sum := "c9447af15132b31343fea6f60744bfd36ee0a803692ebb1a86618f16513ea1c1", func := "loop.example/telemetryagent/laws.FnExactTakeFrom", spec := "fnExactTakeFrom", apart := false, narrowed := true }
def FnExactTakeFromUptoSaid : Prop := fnExactTakeFromUptoRow.holds Try.pinned (OpenSpec.upto fnExactTakeFromSpec)

/-- 'laws.FnExactReadyAt', WHERE WHAT IT READS IS OF BULK AT MOST 1048576: true; the input reads as it did. -/
def fnExactReadyAtUptoRow : OpenClaim := { program := "ytomcopedgpejhaa", sum := "c9447af15132b31343fea6f60744bfd36ee0a803692ebb1a86618f16513ea1c1", func := "loop.example/telemetryagent/laws.FnExactReadyAt", spec := "fnExactReadyAt", apart := false, narrowed := true }
def FnExactReadyAtUptoSaid : Prop := fnExactReadyAtUptoRow.holds Try.pinned (OpenSpec.upto fnExactReadyAtSpec)

/-- 'laws.FnExactPassAll', WHERE WHAT IT READS IS OF BULK AT MOST 1048576: true; the input reads as it did. -/
def fnExactPassAllUptoRow : OpenClaim := { program := "ytomcopedgpejhaa", sum := "c9447af15132b31343fea6f60744bfd36ee0a803692ebb1a86618f16513ea1c1", func := "loop.example/telemetryagent/laws.FnExactPassAll", spec := "fnExactPassAll", apart := false, narrowed := true }
def FnExactPassAllUptoSaid : Prop := fnExactPassAllUptoRow.holds Try.pinned (OpenSpec.upto fnExactPassAllSpec)

end Rows
end Go.Proofs.Ytomcopedgpejhaa
