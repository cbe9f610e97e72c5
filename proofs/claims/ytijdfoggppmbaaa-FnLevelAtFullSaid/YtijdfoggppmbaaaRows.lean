/-
  No cell of these rows narrows 'for every input' (looked for: loops, veiled, ifaces, maps, wideKeys, modest, calm, conditions, laid).
  DERIVED. THE GIVEN ROWS OF THIS SEAT. 8 by the template 'for every input the law returns true; each argument reads behind the call as it read before'; 0 by the template 'total and deterministic' (their statements: YtijdfoggppmbaaaTotals.lean).
  GIVEN WITH THE SEED: the statements are not yours to turn. If you find one false, say at which input.
  Laid BY PROGRAM, IN A SANDBOX (cutbox-rows.mjs): the forced cells as the released guide's own fill.sh prints them over the translation d2fc61248c40aaf6… (all of the seat's roots in one cut). By AI agents, Wed Nov 11 2026. No macro, syntax, notation, axiom, sorry.
-/
import Derived.Test.YtijdfoggppmbaaaChecked
import GoSem.Claim
import GoSem.ClaimJoined
import GoSem.ClaimMapViews
import Derived.JoinedTies
import Derived.KernelRfl
namespace Go.Proofs.Ytijdfoggppmbaaa
/- THE CELL 'sum', in the pinned program and in every row, IS THE sha256 OF THE DUMP (.gsa) THAT YtijdfoggppmbaaaProg.lean LOADS. Nothing in Lean hashes anything: it is a label: what it is worth is what the hold of that sum in a sandbox is worth. -/
noncomputable def Try.pinned : Pinned := { name := "ytijdfoggppmbaaa", sum := "d2fc61248c40aaf61785b0a0d3252b36971cd422c9b87104d5ee2f3785fb4d68", checked := Try.checked }
namespace Rows
def none {H : Type} : Left H := { results := [], args := [] }

/-- 'laws.FnValidBucket': WHATEVER THE INPUT: true; the input reads as it did. -/
def fnValidBucketSpec : ChangeSpec := { name := "fnValidBucket", fn := fun _ => fun
  | [d] => { results := [.lit (.bool true)], args := [d] }
  | _ => none }
def fnValidBucketRow : OpenClaim := { program := "ytijdfoggppmbaaa", sum := "d2fc61248c40aaf61785b0a0d3252b36971cd422c9b87104d5ee2f3785fb4d68", func := "loop.example/telemetryagent/laws.FnValidBucket", spec := "fnValidBucket", apart := false }
def FnValidBucketSaid : Prop := fnValidBucketRow.holds Try.pinned (OpenSpec.ofChange fnValidBucketSpec)

/-- ITS FALSE NEIGHBOUR: 'it returns false'. Refute it at one input. -/
def fnValidBucketWrong : ChangeSpec := { name := "fnValidBucket", fn := fun _ => fun
  | [d] => { results := [.lit (.bool false)], args := [d] }
  | _ => none }
def FnValidBucketWrongFalsely : Prop := fnValidBucketRow.holds Try.pinned (OpenSpec.ofChange fnValidBucketWrong)

/-- 'laws.FnLevelAt': WHATEVER THE INPUT: true; the input reads as it did. -/
def fnLevelAtSpec : ChangeSpec := { name := "fnLevelAt", fn := fun _ => fun
  | [d] => { results := [.lit (.bool true)], args := [d] }
  | _ => none }
def fnLevelAtRow : OpenClaim := { program := "ytijdfoggppmbaaa", sum := "d2fc61248c40aaf61785b0a0d3252b36971cd422c9b87104d5ee2f3785fb4d68", func := "loop.example/telemetryagent/laws.FnLevelAt", spec := "fnLevelAt", apart := false }
def FnLevelAtSaid : Prop := fnLevelAtRow.holds Try.pinned (OpenSpec.ofChange fnLevelAtSpec)

/-- ITS FALSE NEIGHBOUR: 'it returns false'. Refute it at one input. -/
def fnLevelAtWrong : ChangeSpec := { name := "fnLevelAt", fn := fun _ => fun
  | [d] => { results := [.lit (.bool false)], args := [d] }
  | _ => none }
def FnLevelAtWrongFalsely : Prop := fnLevelAtRow.holds Try.pinned (OpenSpec.ofChange fnLevelAtWrong)

/-- 'laws.FnLevelAtTake': WHATEVER THE INPUT: true; the input reads as it did. -/
def fnLevelAtTakeSpec : ChangeSpec := { name := "fnLevelAtTake", fn := fun _ => fun
  | [d] => { results := [.lit (.bool true)], args := [d] }
  | _ => none }
def fnLevelAtTakeRow : OpenClaim := { program := "ytijdfoggppmbaaa", sum := "d2fc61248c40aaf61785b0a0d3252b36971cd422c9b87104d5ee2f3785fb4d68", func := "loop.example/telemetryagent/laws.FnLevelAtTake", spec := "fnLevelAtTake", apart := false }
def FnLevelAtTakeSaid : Prop := fnLevelAtTakeRow.holds Try.pinned (OpenSpec.ofChange fnLevelAtTakeSpec)

/-- ITS FALSE NEIGHBOUR: 'it returns false'. Refute it at one input. -/
def fnLevelAtTakeWrong : ChangeSpec := { name := "fnLevelAtTake", fn := fun _ => fun
  | [d] => { results := [.lit (.bool false)], args := [d] }
  | _ => none }
def FnLevelAtTakeWrongFalsely : Prop := fnLevelAtTakeRow.holds Try.pinned (OpenSpec.ofChange fnLevelAtTakeWrong)

/-- 'laws.FnTakeFrom': WHATEVER THE INPUT: true; the input reads as it did. -/
def fnTakeFromSpec : ChangeSpec := { name := "fnTakeFrom", fn := fun _ => fun
  | [d] => { results := [.lit (.bool true)], args := [d] }
  | _ => none }
def fnTakeFromRow : OpenClaim := { program := "ytijdfoggppmbaaa", sum := "d2fc61248c40aaf61785b0a0d3252b36971cd422c9b87104d5ee2f3785fb4d68", func := "loop.example/telemetryagent/laws.FnTakeFrom", spec := "fnTakeFrom", apart := false }
def FnTakeFromSaid : Prop := fnTakeFromRow.holds Try.pinned (OpenSpec.ofChange fnTakeFromSpec)

/-- ITS FALSE NEIGHBOUR: 'it returns false'. Refute it at one input. -/
def fnTakeFromWrong : ChangeSpec := { name := "fnTakeFrom", fn := fun _ => fun
  | [d] => { results := [.lit (.bool false)], args := [d] }
  | _ => none }
def FnTakeFromWrongFalsely : Prop := fnTakeFromRow.holds Try.pinned (OpenSpec.ofChange fnTakeFromWrong)

/-- 'laws.FnTakeFromParts': WHATEVER THE INPUT: true; the input reads as it did. -/
def fnTakeFromPartsSpec : ChangeSpec := { name := "fnTakeFromParts", fn := fun _ => fun
  | [d] => { results := [.lit (.bool true)], args := [d] }
  | _ => none }
def fnTakeFromPartsRow : OpenClaim := { program := "ytijdfoggppmbaaa", sum := "d2fc61248c40aaf61785b0a0d3252b36971cd422c9b87104d5ee2f3785fb4d68", func := "loop.example/telemetryagent/laws.FnTakeFromParts", spec := "fnTakeFromParts", apart := false }
def FnTakeFromPartsSaid : Prop := fnTakeFromPartsRow.holds Try.pinned (OpenSpec.ofChange fnTakeFromPartsSpec)

/-- ITS FALSE NEIGHBOUR: 'it returns false'. Refute it at one input. -/
def fnTakeFromPartsWrong : ChangeSpec := { name := "fnTakeFromParts", fn := fun _ => fun
  | [d] => { results := [.lit (.bool false)], args := [d] }
  | _ => none }
def FnTakeFromPartsWrongFalsely : Prop := fnTakeFromPartsRow.holds Try.pinned (OpenSpec.ofChange fnTakeFromPartsWrong)

/-- 'laws.FnReadyAt': WHATEVER THE INPUT: true; the input reads as it did. -/
def fnReadyAtSpec : ChangeSpec := { name := "fnReadyAt", fn := fun _ => fun
  | [d] => { results := [.lit (.bool true)], args := [d] }
  | _ => none }
def fnReadyAtRow : OpenClaim := { program := "ytijdfoggppmbaaa", sum := "d2fc61248c40aaf61785b0a0d3252b36971cd422c9b87104d5ee2f3785fb4d68", func := "loop.example/telemetryagent/laws.FnReadyAt", spec := "fnReadyAt", apart := false }
def FnReadyAtSaid : Prop := fnReadyAtRow.holds Try.pinned (OpenSpec.ofChange fnReadyAtSpec)

/-- ITS FALSE NEIGHBOUR: 'it returns false'. Refute it at one input. -/
def fnReadyAtWrong : ChangeSpec := { name := "fnReadyAt", fn := fun _ => fun
  | [d] => { results := [.lit (.bool false)], args := [d] }
  | _ => none }
def FnReadyAtWrongFalsely : Prop := fnReadyAtRow.holds Try.pinned (OpenSpec.ofChange fnReadyAtWrong)

/-- 'laws.FnReadyAtMore': WHATEVER THE INPUT: true; the input reads as it did. -/
def fnReadyAtMoreSpec : ChangeSpec := { name := "fnReadyAtMore", fn := fun _ => fun
  | [d] => { results := [.lit (.bool true)], args := [d] }
  | _ => none }
def fnReadyAtMoreRow : OpenClaim := { program := "ytijdfoggppmbaaa", sum := "d2fc61248c40aaf61785b0a0d3252b36971cd422c9b87104d5ee2f3785fb4d68", func := "loop.example/telemetryagent/laws.FnReadyAtMore", spec := "fnReadyAtMore", apart := false }
def FnReadyAtMoreSaid : Prop := fnReadyAtMoreRow.holds Try.pinned (OpenSpec.ofChange fnReadyAtMoreSpec)

/-- ITS FALSE NEIGHBOUR: 'it returns false'. Refute it at one input. -/
def fnReadyAtMoreWrong : ChangeSpec := { name := "fnReadyAtMore", fn := fun _ => fun
  | [d] => { results := [.lit (.bool false)], args := [d] }
  | _ => none }
def FnReadyAtMoreWrongFalsely : Prop := fnReadyAtMoreRow.holds Try.pinned (OpenSpec.ofChange fnReadyAtMoreWrong)

/-- 'laws.FnLevelAtFull': WHATEVER THE INPUT: true; the input reads as it did. -/
def fnLevelAtFullSpec : ChangeSpec := { name := "fnLevelAtFull", fn := fun _ => fun
  | [d] => { results := [.lit (.bool true)], args := [d] }
  | _ => none }
def fnLevelAtFullRow : OpenClaim := { program := "ytijdfoggppmbaaa", sum := "d2fc61248c40aaf61785b0a0d3252b36971cd422c9b87104d5ee2f3785fb4d68", func := "loop.example/telemetryagent/laws.FnLevelAtFull", spec := "fnLevelAtFull", apart := false }
def FnLevelAtFullSaid : Prop := fnLevelAtFullRow.holds Try.pinned (OpenSpec.ofChange fnLevelAtFullSpec)

/-- ITS FALSE NEIGHBOUR: 'it returns false'. Refute it at one input. -/
def fnLevelAtFullWrong : ChangeSpec := { name := "fnLevelAtFull", fn := fun _ => fun
  | [d] => { results := [.lit (.bool false)], args := [d] }
  | _ => none }
def FnLevelAtFullWrongFalsely : Prop := fnLevelAtFullRow.holds Try.pinned (OpenSpec.ofChange fnLevelAtFullWrong)

/- THE SECOND FORM. 'bulk': how many values and letters a reading holds, each counted each time it is reached (what is shared counts as often as it is met; a slice's spare places count too). A statement '..UptoSaid' is the law's where the arguments, and the package variables that the reading takes, are together of bulk at most 1048576: NARROWER than '..Said'. Prove '..Said' where nothing that the law and all that it calls make is longer than what came in: it says more and counts as full. Else prove '..UptoSaid'. A law counts once. -/
mutual
def uptoBulk {H : Type} : DataW H → Nat
  | .lit (.string bytes) => bytes.length + 1
  | .lit _ => 1
  | .nil => 1
  | .ptr d => uptoBulk d + 1
  | .slice elems spare => uptoBulkAll elems + uptoBulkAll spare + 1
  | .agg parts => uptoBulkAll parts + 1
  | .iface _ d => uptoBulk d + 1
  | .map entries => uptoBulkEntries entries + 1
  | .held _ => 1
def uptoBulkAll {H : Type} : List (DataW H) → Nat
  | [] => 0
  | d :: r => uptoBulk d + uptoBulkAll r
def uptoBulkEntries {H : Type} : List (Lit × DataW H) → Nat
  | [] => 0
  | x :: r => uptoBulkEntry x + uptoBulkEntries r
def uptoBulkEntry {H : Type} : Lit × DataW H → Nat
  | (.string bytes, d) => bytes.length + uptoBulk d + 1
  | (_, d) => uptoBulk d + 1
 end
def uptoSmall : (H : Type) → List (DataW H) → Bool := fun _ ds => decide (uptoBulkAll ds ≤ 1048576)
def OpenSpec.upto (s : _root_.Go.ChangeSpec) : _root_.Go.OpenSpec := { _root_.Go.OpenSpec.ofChange s with cond := some uptoSmall }

/-- 'laws.FnValidBucket', WHERE WHAT IT READS IS OF BULK AT MOST 1048576: true; the input reads as it did. -/
def fnValidBucketUptoRow : OpenClaim := { program := "ytijdfoggppmbaaa", sum := "d2fc61248c40aaf61785b0a0d3252b36971cd422c9b87104d5ee2f3785fb4d68", func := "loop.example/telemetryagent/laws.FnValidBucket", spec := "fnValidBucket", apart := false, narrowed := true }
def FnValidBucketUptoSaid : Prop := fnValidBucketUptoRow.holds Try.pinned (OpenSpec.upto fnValidBucketSpec)

/-- 'laws.FnLevelAt', WHERE WHAT IT READS IS OF BULK AT MOST 1048576: true; the input reads as it did. -/
def fnLevelAtUptoRow : OpenClaim := { program := "ytijdfoggppmbaaa", sum := "d2fc61248c40aaf61785b0a0d3252b36971cd422c9b87104d5ee2f3785fb4d68", func := "loop.example/telemetryagent/laws.FnLevelAt", spec := "fnLevelAt", apart := false, narrowed := true }
def FnLevelAtUptoSaid : Prop := fnLevelAtUptoRow.holds Try.pinned (OpenSpec.upto fnLevelAtSpec)

/-- 'laws.FnLevelAtTake', WHERE WHAT IT READS IS OF BULK AT MOST 1048576: true; the input reads as it did. -/
def fnLevelAtTakeUptoRow : OpenClaim := { program := "ytijdfoggppmbaaa", sum := "d2fc61248c40aaf61785b0a0d3252b36971cd422c9b87104d5ee2f3785fb4d68", func := "loop.example/telemetryagent/laws.FnLevelAtTake", spec := "fnLevelAtTake", apart := false, narrowed := true }
def FnLevelAtTakeUptoSaid : Prop := fnLevelAtTakeUptoRow.holds Try.pinned (OpenSpec.upto fnLevelAtTakeSpec)

/-- 'laws.FnTakeFrom', WHERE WHAT IT READS IS OF BULK AT MOST 1048576: true; the input reads as it did. -/
def fnTakeFromUptoRow : OpenClaim := { program := "ytijdfoggppmbaaa", sum := "d2fc61248c40aaf61785b0a0d3252b36971cd422c9b87104d5ee2f3785fb4d68", func := "loop.example/telemetryagent/laws.FnTakeFrom", spec := "fnTakeFrom", apart := false, narrowed := true }
def FnTakeFromUptoSaid : Prop := fnTakeFromUptoRow.holds Try.pinned (OpenSpec.upto fnTakeFromSpec)

/-- 'laws.FnTakeFromParts', WHERE WHAT IT READS IS OF BULK AT MOST 1048576: true; the input reads as it did. -/
def fnTakeFromPartsUptoRow : OpenClaim := { program := "ytijdfoggppmbaaa", sum := "d2fc61248c40aaf61785b0a0d3252b36971cd422c9b87104d5ee2f3785fb4d68", func := "loop.example/telemetryagent/laws.FnTakeFromParts", spec := "fnTakeFromParts", apart := false, narrowed := true }
def FnTakeFromPartsUptoSaid : Prop := fnTakeFromPartsUptoRow.holds Try.pinned (OpenSpec.upto fnTakeFromPartsSpec)

/-- 'laws.FnReadyAt', WHERE WHAT IT READS IS OF BULK AT MOST 1048576: true; the input reads as it did. -/
def fnReadyAtUptoRow : OpenClaim := { program := "ytijdfoggppmbaaa", sum := "d2fc61248c40aaf61785b0a0d3252b36971cd422c9b87104d5ee2f3785fb4d68", func := "loop.example/telemetryagent/laws.FnReadyAt", spec := "fnReadyAt", apart := false, narrowed := true }
def FnReadyAtUptoSaid : Prop := fnReadyAtUptoRow.holds Try.pinned (OpenSpec.upto fnReadyAtSpec)

/-- 'laws.FnReadyAtMore', WHERE WHAT IT READS IS OF BULK AT MOST 1048576: true; the input reads as it did. -/
def fnReadyAtMoreUptoRow : OpenClaim := { program := "ytijdfoggppmbaaa", sum := "d2fc61248c40aaf61785b0a0d3252b36971cd422c9b87104d5ee2f3785fb4d68", func := "loop.example/telemetryagent/laws.FnReadyAtMore", spec := "fnReadyAtMore", apart := false, narrowed := true }
def FnReadyAtMoreUptoSaid : Prop := fnReadyAtMoreUptoRow.holds Try.pinned (OpenSpec.upto fnReadyAtMoreSpec)

/-- 'laws.FnLevelAtFull', WHERE WHAT IT READS IS OF BULK AT MOST 1048576: true; the input reads as it did. -/
def fnLevelAtFullUptoRow : OpenClaim := { program := "ytijdfoggppmbaaa", sum := "d2fc61248c40aaf61785b0a0d3252b36971cd422c9b87104d5ee2f3785fb4d68", func := "loop.example/telemetryagent/laws.FnLevelAtFull", spec := "fnLevelAtFull", apart := false, narrowed := true }
def FnLevelAtFullUptoSaid : Prop := fnLevelAtFullUptoRow.holds Try.pinned (OpenSpec.upto fnLevelAtFullSpec)

end Rows
end Go.Proofs.Ytijdfoggppmbaaa
