/-
  No cell of these rows narrows 'for every input' (looked for: loops, veiled, ifaces, maps, wideKeys, modest, calm, conditions, laid).
  DERIVED. THE GIVEN ROWS OF THIS SEAT. 13 by the template 'for every input the law returns true; each argument reads behind the call as it read before'; 0 by the template 'total and deterministic' (their statements: YthemfejahohbeaaTotals.lean).
  GIVEN WITH THE SEED: the statements are not yours to turn. If you find one false, say at which input.
  Laid BY PROGRAM, IN A SANDBOX (cutbox-rows.mjs): the forced cells as the released guide's own fill.sh prints them over the translation 65bd12e64a4fd396… (all of the seat's roots in one cut). By AI agents, Wed Nov 11 2026. No macro, syntax, notation, axiom, sorry.
-/
import Derived.Test.YthemfejahohbeaaChecked
import GoSem.Claim
import GoSem.ClaimJoined
import GoSem.ClaimMapViews
import Derived.JoinedTies
import Derived.KernelRfl
namespace Go.Proofs.Ythemfejahohbeaa
/- THE CELL 'sum', in the pinned program and in every row, IS THE sha256 OF THE DUMP (.gsa) THAT YthemfejahohbeaaProg.lean LOADS. Nothing in Lean hashes anything: it is a label: what it is worth is what the hold of that sum in a sandbox is worth. -/
noncomputable def Try.pinned : Pinned := { name := "ythemfejahohbeaa", sum := "65bd12e64a4fd39657954e69feab1c545616135b2bdf2392c262d16e5244f8d0", checked := Try.checked }
namespace Rows
def none {H : Type} : Left H := { results := [], args := [] }

/-- 'laws.FnPopEntry': WHATEVER THE INPUT: true; the input reads as it did. -/
def fnPopEntrySpec : ChangeSpec := { name := "fnPopEntry", fn := fun _ => fun
  | [d] => { results := [.lit (.bool true)], args := [d] }
  | _ => none }
def fnPopEntryRow : OpenClaim := { program := "ythemfejahohbeaa", sum := "65bd12e64a4fd39657954e69feab1c545616135b2bdf2392c262d16e5244f8d0", func := "loop.example/telemetryagent/laws.FnPopEntry", spec := "fnPopEntry", unfollowed := true, recurses := true, apart := false }
def FnPopEntrySaid : Prop := fnPopEntryRow.holds Try.pinned (OpenSpec.ofChange fnPopEntrySpec)

/-- ITS FALSE NEIGHBOUR: 'it returns false'. Refute it at one input. -/
def fnPopEntryWrong : ChangeSpec := { name := "fnPopEntry", fn := fun _ => fun
  | [d] => { results := [.lit (.bool false)], args := [d] }
  | _ => none }
def FnPopEntryWrongFalsely : Prop := fnPopEntryRow.holds Try.pinned (OpenSpec.ofChange fnPopEntryWrong)

/-- 'laws.FnPopEntryTurn': WHATEVER THE INPUT: true; the input reads as it did. -/
def fnPopEntryTurnSpec : ChangeSpec := { name := "fnPopEntryTurn", fn := fun _ => fun
  | [d] => { results := [.lit (.bool true)], args := [d] }
  | _ => none }
def fnPopEntryTurnRow : OpenClaim := { program := "ythemfejahohbeaa", sum := "65bd12e64a4fd39657954e69feab1c545616135b2bdf2392c262d16e5244f8d0", func := "loop.example/telemetryagent/laws.FnPopEntryTurn", spec := "fnPopEntryTurn", unfollowed := true, recurses := true, apart := false }
def FnPopEntryTurnSaid : Prop := fnPopEntryTurnRow.holds Try.pinned (OpenSpec.ofChange fnPopEntryTurnSpec)

/-- ITS FALSE NEIGHBOUR: 'it returns false'. Refute it at one input. -/
def fnPopEntryTurnWrong : ChangeSpec := { name := "fnPopEntryTurn", fn := fun _ => fun
  | [d] => { results := [.lit (.bool false)], args := [d] }
  | _ => none }
def FnPopEntryTurnWrongFalsely : Prop := fnPopEntryTurnRow.holds Try.pinned (OpenSpec.ofChange fnPopEntryTurnWrong)

/-- 'laws.FnPopAll': WHATEVER THE INPUT: true; the input reads as it did. -/
def fnPopAllSpec : ChangeSpec := { name := "fnPopAll", fn := fun _ => fun
  | [d] => { results := [.lit (.bool true)], args := [d] }
  | _ => none }
def fnPopAllRow : OpenClaim := { program := "ythemfejahohbeaa", sum := "65bd12e64a4fd39657954e69feab1c545616135b2bdf2392c262d16e5244f8d0", func := "loop.example/telemetryagent/laws.FnPopAll", spec := "fnPopAll", unfollowed := true, recurses := true, apart := false }
def FnPopAllSaid : Prop := fnPopAllRow.holds Try.pinned (OpenSpec.ofChange fnPopAllSpec)

/-- ITS FALSE NEIGHBOUR: 'it returns false'. Refute it at one input. -/
def fnPopAllWrong : ChangeSpec := { name := "fnPopAll", fn := fun _ => fun
  | [d] => { results := [.lit (.bool false)], args := [d] }
  | _ => none }
def FnPopAllWrongFalsely : Prop := fnPopAllRow.holds Try.pinned (OpenSpec.ofChange fnPopAllWrong)

/-- 'laws.FnPopAllStep': WHATEVER THE INPUT: true; the input reads as it did. -/
def fnPopAllStepSpec : ChangeSpec := { name := "fnPopAllStep", fn := fun _ => fun
  | [d] => { results := [.lit (.bool true)], args := [d] }
  | _ => none }
def fnPopAllStepRow : OpenClaim := { program := "ythemfejahohbeaa", sum := "65bd12e64a4fd39657954e69feab1c545616135b2bdf2392c262d16e5244f8d0", func := "loop.example/telemetryagent/laws.FnPopAllStep", spec := "fnPopAllStep", unfollowed := true, recurses := true, apart := false }
def FnPopAllStepSaid : Prop := fnPopAllStepRow.holds Try.pinned (OpenSpec.ofChange fnPopAllStepSpec)

/-- ITS FALSE NEIGHBOUR: 'it returns false'. Refute it at one input. -/
def fnPopAllStepWrong : ChangeSpec := { name := "fnPopAllStep", fn := fun _ => fun
  | [d] => { results := [.lit (.bool false)], args := [d] }
  | _ => none }
def FnPopAllStepWrongFalsely : Prop := fnPopAllStepRow.holds Try.pinned (OpenSpec.ofChange fnPopAllStepWrong)

/-- 'laws.FnQueueBytesPop': WHATEVER THE INPUT: true; the input reads as it did. -/
def fnQueueBytesPopSpec : ChangeSpec := { name := "fnQueueBytesPop", fn := fun _ => fun
  | [d] => { results := [.lit (.bool true)], args := [d] }
  | _ => none }
def fnQueueBytesPopRow : OpenClaim := { program := "ythemfejahohbeaa", sum := "65bd12e64a4fd39657954e69feab1c545616135b2bdf2392c262d16e5244f8d0", func := "loop.example/telemetryagent/laws.FnQueueBytesPop", spec := "fnQueueBytesPop", unfollowed := true, recurses := true, apart := false }
def FnQueueBytesPopSaid : Prop := fnQueueBytesPopRow.holds Try.pinned (OpenSpec.ofChange fnQueueBytesPopSpec)

/-- ITS FALSE NEIGHBOUR: 'it returns false'. Refute it at one input. -/
def fnQueueBytesPopWrong : ChangeSpec := { name := "fnQueueBytesPop", fn := fun _ => fun
  | [d] => { results := [.lit (.bool false)], args := [d] }
  | _ => none }
def FnQueueBytesPopWrongFalsely : Prop := fnQueueBytesPopRow.holds Try.pinned (OpenSpec.ofChange fnQueueBytesPopWrong)

/-- 'laws.FnValidQueueEmpty': WHATEVER THE INPUT: true; the input reads as it did. -/
def fnValidQueueEmptySpec : ChangeSpec := { name := "fnValidQueueEmpty", fn := fun _ => fun
  | [d] => { results := [.lit (.bool true)], args := [d] }
  | _ => none }
def fnValidQueueEmptyRow : OpenClaim := { program := "ythemfejahohbeaa", sum := "65bd12e64a4fd39657954e69feab1c545616135b2bdf2392c262d16e5244f8d0", func := "loop.example/telemetryagent/laws.FnValidQueueEmpty", spec := "fnValidQueueEmpty", unfollowed := true, recurses := true, apart := false }
def FnValidQueueEmptySaid : Prop := fnValidQueueEmptyRow.holds Try.pinned (OpenSpec.ofChange fnValidQueueEmptySpec)

/-- ITS FALSE NEIGHBOUR: 'it returns false'. Refute it at one input. -/
def fnValidQueueEmptyWrong : ChangeSpec := { name := "fnValidQueueEmpty", fn := fun _ => fun
  | [d] => { results := [.lit (.bool false)], args := [d] }
  | _ => none }
def FnValidQueueEmptyWrongFalsely : Prop := fnValidQueueEmptyRow.holds Try.pinned (OpenSpec.ofChange fnValidQueueEmptyWrong)

/-- 'laws.FnPushEntryPop': WHATEVER THE INPUT: true; the input reads as it did. -/
def fnPushEntryPopSpec : ChangeSpec := { name := "fnPushEntryPop", fn := fun _ => fun
  | [d] => { results := [.lit (.bool true)], args := [d] }
  | _ => none }
def fnPushEntryPopRow : OpenClaim := { program := "ythemfejahohbeaa", sum := "65bd12e64a4fd39657954e69feab1c545616135b2bdf2392c262d16e5244f8d0", func := "loop.example/telemetryagent/laws.FnPushEntryPop", spec := "fnPushEntryPop", unfollowed := true, recurses := true, apart := false }
def FnPushEntryPopSaid : Prop := fnPushEntryPopRow.holds Try.pinned (OpenSpec.ofChange fnPushEntryPopSpec)

/-- ITS FALSE NEIGHBOUR: 'it returns false'. Refute it at one input. -/
def fnPushEntryPopWrong : ChangeSpec := { name := "fnPushEntryPop", fn := fun _ => fun
  | [d] => { results := [.lit (.bool false)], args := [d] }
  | _ => none }
def FnPushEntryPopWrongFalsely : Prop := fnPushEntryPopRow.holds Try.pinned (OpenSpec.ofChange fnPushEntryPopWrong)

/-- 'laws.FnPopEntryShare': WHATEVER THE INPUT: true; the input reads as it did. -/
def fnPopEntryShareSpec : ChangeSpec := { name := "fnPopEntryShare", fn := fun _ => fun
  | [d] => { results := [.lit (.bool true)], args := [d] }
  | _ => none }
def fnPopEntryShareRow : OpenClaim := { program := "ythemfejahohbeaa", sum := "65bd12e64a4fd39657954e69feab1c545616135b2bdf2392c262d16e5244f8d0", func := "loop.example/telemetryagent/laws.FnPopEntryShare", spec := "fnPopEntryShare", unfollowed := true, recurses := true, apart := false }
def FnPopEntryShareSaid : Prop := fnPopEntryShareRow.holds Try.pinned (OpenSpec.ofChange fnPopEntryShareSpec)

/-- ITS FALSE NEIGHBOUR: 'it returns false'. Refute it at one input. -/
def fnPopEntryShareWrong : ChangeSpec := { name := "fnPopEntryShare", fn := fun _ => fun
  | [d] => { results := [.lit (.bool false)], args := [d] }
  | _ => none }
def FnPopEntryShareWrongFalsely : Prop := fnPopEntryShareRow.holds Try.pinned (OpenSpec.ofChange fnPopEntryShareWrong)

/-- 'laws.FnPopAllBytes': WHATEVER THE INPUT: true; the input reads as it did. -/
def fnPopAllBytesSpec : ChangeSpec := { name := "fnPopAllBytes", fn := fun _ => fun
  | [d] => { results := [.lit (.bool true)], args := [d] }
  | _ => none }
def fnPopAllBytesRow : OpenClaim := { program := "ythemfejahohbeaa", sum := "65bd12e64a4fd39657954e69feab1c545616135b2bdf2392c262d16e5244f8d0", func := "loop.example/telemetryagent/laws.FnPopAllBytes", spec := "fnPopAllBytes", unfollowed := true, recurses := true, apart := false }
def FnPopAllBytesSaid : Prop := fnPopAllBytesRow.holds Try.pinned (OpenSpec.ofChange fnPopAllBytesSpec)

/-- ITS FALSE NEIGHBOUR: 'it returns false'. Refute it at one input. -/
def fnPopAllBytesWrong : ChangeSpec := { name := "fnPopAllBytes", fn := fun _ => fun
  | [d] => { results := [.lit (.bool false)], args := [d] }
  | _ => none }
def FnPopAllBytesWrongFalsely : Prop := fnPopAllBytesRow.holds Try.pinned (OpenSpec.ofChange fnPopAllBytesWrong)

/-- 'laws.FnPushEntry': WHATEVER THE INPUT: true; the input reads as it did. -/
def fnPushEntrySpec : ChangeSpec := { name := "fnPushEntry", fn := fun _ => fun
  | [d] => { results := [.lit (.bool true)], args := [d] }
  | _ => none }
def fnPushEntryRow : OpenClaim := { program := "ythemfejahohbeaa", sum := "65bd12e64a4fd39657954e69feab1c545616135b2bdf2392c262d16e5244f8d0", func := "loop.example/telemetryagent/laws.FnPushEntry", spec := "fnPushEntry", apart := false }
def FnPushEntrySaid : Prop := fnPushEntryRow.holds Try.pinned (OpenSpec.ofChange fnPushEntrySpec)

/-- ITS FALSE NEIGHBOUR: 'it returns false'. Refute it at one input. -/
def fnPushEntryWrong : ChangeSpec := { name := "fnPushEntry", fn := fun _ => fun
  | [d] => { results := [.lit (.bool false)], args := [d] }
  | _ => none }
def FnPushEntryWrongFalsely : Prop := fnPushEntryRow.holds Try.pinned (OpenSpec.ofChange fnPushEntryWrong)

/-- 'laws.FnValidQueue': WHATEVER THE INPUT: true; the input reads as it did. -/
def fnValidQueueSpec : ChangeSpec := { name := "fnValidQueue", fn := fun _ => fun
  | [d] => { results := [.lit (.bool true)], args := [d] }
  | _ => none }
def fnValidQueueRow : OpenClaim := { program := "ythemfejahohbeaa", sum := "65bd12e64a4fd39657954e69feab1c545616135b2bdf2392c262d16e5244f8d0", func := "loop.example/telemetryagent/laws.FnValidQueue", spec := "fnValidQueue", apart := false }
def FnValidQueueSaid : Prop := fnValidQueueRow.holds Try.pinned (OpenSpec.ofChange fnValidQueueSpec)

/-- ITS FALSE NEIGHBOUR: 'it returns false'. Refute it at one input. -/
def fnValidQueueWrong : ChangeSpec := { name := "fnValidQueue", fn := fun _ => fun
  | [d] => { results := [.lit (.bool false)], args := [d] }
  | _ => none }
def FnValidQueueWrongFalsely : Prop := fnValidQueueRow.holds Try.pinned (OpenSpec.ofChange fnValidQueueWrong)

/-- 'laws.FnQueueBytesPush': WHATEVER THE INPUT: true; the input reads as it did. -/
def fnQueueBytesPushSpec : ChangeSpec := { name := "fnQueueBytesPush", fn := fun _ => fun
  | [d] => { results := [.lit (.bool true)], args := [d] }
  | _ => none }
def fnQueueBytesPushRow : OpenClaim := { program := "ythemfejahohbeaa", sum := "65bd12e64a4fd39657954e69feab1c545616135b2bdf2392c262d16e5244f8d0", func := "loop.example/telemetryagent/laws.FnQueueBytesPush", spec := "fnQueueBytesPush", apart := false }
def FnQueueBytesPushSaid : Prop := fnQueueBytesPushRow.holds Try.pinned (OpenSpec.ofChange fnQueueBytesPushSpec)

/-- ITS FALSE NEIGHBOUR: 'it returns false'. Refute it at one input. -/
def fnQueueBytesPushWrong : ChangeSpec := { name := "fnQueueBytesPush", fn := fun _ => fun
  | [d] => { results := [.lit (.bool false)], args := [d] }
  | _ => none }
def FnQueueBytesPushWrongFalsely : Prop := fnQueueBytesPushRow.holds Try.pinned (OpenSpec.ofChange fnQueueBytesPushWrong)

/-- 'laws.FnValidEntriesTwice': WHATEVER THE INPUT: true; the input reads as it did. -/
def fnValidEntriesTwiceSpec : ChangeSpec := { name := "fnValidEntriesTwice", fn := fun _ => fun
  | [d] => { results := [.lit (.bool true)], args := [d] }
  | _ => none }
def fnValidEntriesTwiceRow : OpenClaim := { program := "ythemfejahohbeaa", sum := "65bd12e64a4fd39657954e69feab1c545616135b2bdf2392c262d16e5244f8d0", func := "loop.example/telemetryagent/laws.FnValidEntriesTwice", spec := "fnValidEntriesTwice", apart := false }
def FnValidEntriesTwiceSaid : Prop := fnValidEntriesTwiceRow.holds Try.pinned (OpenSpec.ofChange fnValidEntriesTwiceSpec)

/-- ITS FALSE NEIGHBOUR: 'it returns false'. Refute it at one input. -/
def fnValidEntriesTwiceWrong : ChangeSpec := { name := "fnValidEntriesTwice", fn := fun _ => fun
  | [d] => { results := [.lit (.bool false)], args := [d] }
  | _ => none }
def FnValidEntriesTwiceWrongFalsely : Prop := fnValidEntriesTwiceRow.holds Try.pinned (OpenSpec.ofChange fnValidEntriesTwiceWrong)

/- THE SECOND FORM. 'bulk': how many values and letters a reading holds, each counted each time it is reached (what is shared counts as often as it is met; a slice's spare places count too). A statement '..UptoSaid' is the law's where the arguments, and the package variables that the reading takes, are together of bulk at most 1048576: NARROWER than '..Said'. Prove '..Said' where nothing that the law and all that it calls make is longer than what came in: it says more and counts as full. Else prove '..UptoSaid'. A law counts once. -/
mutual
def uptoBulk {H : Type} : DataW H → Nat
  | .lit (.string bytes) => bytes.length + 1
  | .lit _ => 1
  | .nil => 1
  | .ptr d => uptoBulk d + 1
  | .slice elems spare => uptoBulkAll elems + uptoBulkAll spare + 1
  | .agg parts => uptoBulkAll parts + 1
  | .iface _ d => uptoBulk d + 1
  | .map entries => uptoBulkEntries entries + 1
  | .held _ => 1
def uptoBulkAll {H : Type} : List (DataW H) → Nat
  | [] => 0
  | d :: r => uptoBulk d + uptoBulkAll r
def uptoBulkEntries {H : Type} : List (Lit × DataW H) → Nat
  | [] => 0
  | x :: r => uptoBulkEntry x + uptoBulkEntries r
def uptoBulkEntry {H : Type} : Lit × DataW H → Nat
  | (.string bytes, d) => bytes.length + uptoBulk d + 1
  | (_, d) => uptoBulk d + 1
 end
def uptoSmall : (H : Type) → List (DataW H) → Bool := fun _ ds => decide (uptoBulkAll ds ≤ 1048576)
def OpenSpec.upto (s : _root_.Go.ChangeSpec) : _root_.Go.OpenSpec := { _root_.Go.OpenSpec.ofChange s with cond := some uptoSmall }

/-- 'laws.FnPopEntry', WHERE WHAT IT READS IS OF BULK AT MOST 1048576: true; the input reads as it did. -/
def fnPopEntryUptoRow : OpenClaim := { program := "ythemfejahohbeaa", sum := "65bd12e64a4fd39657954e69feab1c545616135b2bdf2392c262d16e5244f8d0", func := "loop.example/telemetryagent/laws.FnPopEntry", spec := "fnPopEntry", unfollowed := true, recurses := true, apart := false, narrowed := true }
def FnPopEntryUptoSaid : Prop := fnPopEntryUptoRow.holds Try.pinned (OpenSpec.upto fnPopEntrySpec)

/-- 'laws.FnPopEntryTurn', WHERE WHAT IT READS IS OF BULK AT MOST 1048576: true; the input reads as it did. -/
def fnPopEntryTurnUptoRow : OpenClaim := { program := "ythemfejahohbeaa", sum := "65bd12e64a4fd39657954e69feab1c545616135b2bdf2392c262d16e5244f8d0", func := "loop.example/telemetryagent/laws.FnPopEntryTurn", spec := "fnPopEntryTurn", unfollowed := true, recurses := true, apart := false, narrowed := true }
def FnPopEntryTurnUptoSaid : Prop := fnPopEntryTurnUptoRow.holds Try.pinned (OpenSpec.upto fnPopEntryTurnSpec)

/-- 'laws.FnPopAll', WHERE WHAT IT READS IS OF BULK AT MOST 1048576: true; the input reads as it did. -/
def fnPopAllUptoRow : OpenClaim := { program := "ythemfejahohbeaa", sum := "65bd12e64a4fd39657954e69feab1c545616135b2bdf2392c262d16e5244f8d0", func := "loop.example/telemetryagent/laws.FnPopAll", spec := "fnPopAll", unfollowed := true, recurses := true, apart := false, narrowed := true }
def FnPopAllUptoSaid : Prop := fnPopAllUptoRow.holds Try.pinned (OpenSpec.upto fnPopAllSpec)

/-- 'laws.FnPopAllStep', WHERE WHAT IT READS IS OF BULK AT MOST 1048576: true; the input reads as it did. -/
def fnPopAllStepUptoRow : OpenClaim := { program := "ythemfejahohbeaa", sum := "65bd12e64a4fd39657954e69feab1c545616135b2bdf2392c262d16e5244f8d0", func := "loop.example/telemetryagent/laws.FnPopAllStep", spec := "fnPopAllStep", unfollowed := true, recurses := true, apart := false, narrowed := true }
def FnPopAllStepUptoSaid : Prop := fnPopAllStepUptoRow.holds Try.pinned (OpenSpec.upto fnPopAllStepSpec)

/-- 'laws.FnQueueBytesPop', WHERE WHAT IT READS IS OF BULK AT MOST 1048576: true; the input reads as it did. -/
def fnQueueBytesPopUptoRow : OpenClaim := { program := "ythemfejahohbeaa", sum := "65bd12e64a4fd39657954e69feab1c545616135b2bdf2392c262d16e5244f8d0", func := "loop.example/telemetryagent/laws.FnQueueBytesPop", spec := "fnQueueBytesPop", unfollowed := true, recurses := true, apart := false, narrowed := true }
def FnQueueBytesPopUptoSaid : Prop := fnQueueBytesPopUptoRow.holds Try.pinned (OpenSpec.upto fnQueueBytesPopSpec)

/-- 'laws.FnValidQueueEmpty', WHERE WHAT IT READS IS OF BULK AT MOST 1048576: true; the input reads as it did. -/
def fnValidQueueEmptyUptoRow : OpenClaim := { program := "ythemfejahohbeaa", sum := "65bd12e64a4fd39657954e69feab1c545616135b2bdf2392c262d16e5244f8d0", func := "loop.example/telemetryagent/laws.FnValidQueueEmpty", spec := "fnValidQueueEmpty", unfollowed := true, recurses := true, apart := false, narrowed := true }
def FnValidQueueEmptyUptoSaid : Prop := fnValidQueueEmptyUptoRow.holds Try.pinned (OpenSpec.upto fnValidQueueEmptySpec)

/-- 'laws.FnPushEntryPop', WHERE WHAT IT READS IS OF BULK AT MOST 1048576: true; the input reads as it did. -/
def fnPushEntryPopUptoRow : OpenClaim := { program := "ythemfejahohbeaa", sum := "65bd12e64a4fd39657954e69feab1c545616135b2bdf2392c262d16e5244f8d0", func := "loop.example/telemetryagent/laws.FnPushEntryPop", spec := "fnPushEntryPop", unfollowed := true, recurses := true, apart := false, narrowed := true }
def FnPushEntryPopUptoSaid : Prop := fnPushEntryPopUptoRow.holds Try.pinned (OpenSpec.upto fnPushEntryPopSpec)

/-- 'laws.FnPopEntryShare', WHERE WHAT IT READS IS OF BULK AT MOST 1048576: true; the input reads as it did. -/
def fnPopEntryShareUptoRow : OpenClaim := { program := "ythemfejahohbeaa", sum := "65bd12e64a4fd39657954e69feab1c545616135b2bdf2392c262d16e5244f8d0", func := "loop.example/telemetryagent/laws.FnPopEntryShare", spec := "fnPopEntryShare", unfollowed := true, recurses := true, apart := false, narrowed := true }
def FnPopEntryShareUptoSaid : Prop := fnPopEntryShareUptoRow.holds Try.pinned (OpenSpec.upto fnPopEntryShareSpec)

/-- 'laws.FnPopAllBytes', WHERE WHAT IT READS IS OF BULK AT MOST 1048576: true; the input reads as it did. -/
def fnPopAllBytesUptoRow : OpenClaim := { program := "ythemfejahohbeaa", sum := "65bd12e64a4fd39657954e69feab1c545616135b2bdf2392c262d16e5244f8d0", func := "loop.example/telemetryagent/laws.FnPopAllBytes", spec := "fnPopAllBytes", unfollowed := true, recurses := true, apart := false, narrowed := true }
def FnPopAllBytesUptoSaid : Prop := fnPopAllBytesUptoRow.holds Try.pinned (OpenSpec.upto fnPopAllBytesSpec)

/-- 'laws.FnPushEntry', WHERE WHAT IT READS IS OF BULK AT MOST 1048576: true; the input reads as it did. -/
def fnPushEntryUptoRow : OpenClaim := { program := "ythemfejahohbeaa", sum := "65bd12e64a4fd39657954e69feab1c545616135b2bdf2392c262d16e5244f8d0", func := "loop.example/telemetryagent/laws.FnPushEntry", spec := "fnPushEntry", apart := false, narrowed := true }
def FnPushEntryUptoSaid : Prop := fnPushEntryUptoRow.holds Try.pinned (OpenSpec.upto fnPushEntrySpec)

/-- 'laws.FnValidQueue', WHERE WHAT IT READS IS OF BULK AT MOST 1048576: true; the input reads as it did. -/
def fnValidQueueUptoRow : OpenClaim := { program := "ythemfejahohbeaa", sum := "65bd12e64a4fd39657954e69feab1c545616135b2bdf2392c262d16e5244f8d0", func := "loop.example/telemetryagent/laws.FnValidQueue", spec := "fnValidQueue", apart := false, narrowed := true }
def FnValidQueueUptoSaid : Prop := fnValidQueueUptoRow.holds Try.pinned (OpenSpec.upto fnValidQueueSpec)

/-- 'laws.FnQueueBytesPush', WHERE WHAT IT READS IS OF BULK AT MOST 1048576: true; the input reads as it did. -/
def fnQueueBytesPushUptoRow : OpenClaim := { program := "ythemfejahohbeaa", sum := "65bd12e64a4fd39657954e69feab1c545616135b2bdf2392c262d16e5244f8d0", func := "loop.example/telemetryagent/laws.FnQueueBytesPush", spec := "fnQueueBytesPush", apart := false, narrowed := true }
def FnQueueBytesPushUptoSaid : Prop := fnQueueBytesPushUptoRow.holds Try.pinned (OpenSpec.upto fnQueueBytesPushSpec)

/-- 'laws.FnValidEntriesTwice', WHERE WHAT IT READS IS OF BULK AT MOST 1048576: true; the input reads as it did. -/
def fnValidEntriesTwiceUptoRow : OpenClaim := { program := "ythemfejahohbeaa", sum := "65bd12e64a4fd39657954e69feab1c545616135b2bdf2392c262d16e5244f8d0", func := "loop.example/telemetryagent/laws.FnValidEntriesTwice", spec := "fnValidEntriesTwice", apart := false, narrowed := true }
def FnValidEntriesTwiceUptoSaid : Prop := fnValidEntriesTwiceUptoRow.holds Try.pinned (OpenSpec.upto fnValidEntriesTwiceSpec)

end Rows
end Go.Proofs.Ythemfejahohbeaa
