/-
  No cell of these rows narrows 'for every input' (looked for: loops, veiled, ifaces, maps, wideKeys, modest, calm, conditions, laid).
  DERIVED. THE GIVEN ROWS OF THIS SEAT. 9 by the template 'for every input the law returns true; each argument reads behind the call as it read before'; 0 by the template 'total and deterministic' (their statements: YtdmkimgjochibaaTotals.lean).
  GIVEN WITH THE SEED: the statements are not yours to turn. If you find one false, say at which input.
  Laid BY PROGRAM, IN A SANDBOX (cutbox-rows.mjs): the forced cells as the released guide's own fill.sh prints them over the translation c9abe6cbace7f050… (all of the seat's roots in one cut). By AI agents, Wed Nov 11 2026. No macro, syntax, notation, axiom, sorry.
-/
import Derived.Test.YtdmkimgjochibaaChecked
import GoSem.Claim
import GoSem.ClaimJoined
import GoSem.ClaimMapViews
import Derived.JoinedTies
import Derived.KernelRfl
namespace Go.Proofs.Ytdmkimgjochibaa
/- THE CELL 'sum', in the pinned program and in every row, IS THE sha256 OF THE DUMP (.gsa) THAT YtdmkimgjochibaaProg.lean LOADS. Nothing in Lean hashes anything: it is a label: what it is worth is what the hold of that sum in a sandbox is worth. -/
noncomputable def Try.pinned : Pinned := { name := "ytdmkimgjochibaa", sum := "c9abe6cbace7f0505316a1004202b630e7376d098e19a4c3045da10177b25fd1", checked := Try.checked }
namespace Rows
def none {H : Type} : Left H := { results := [], args := [] }

/-- 'laws.FnValidQueue': WHATEVER THE INPUT: true; the input reads as it did. -/
def fnValidQueueSpec : ChangeSpec := { name := "fnValidQueue", fn := fun _ => fun
  | [d] => { results := [.lit (.bool true)], args := [d] }
  | _ => none }
def fnValidQueueRow : OpenClaim := { program := "ytdmkimgjochibaa", sum := "c9abe6cbace7f0505316a1004202b630e7376d098e19a4c3045da10177b25fd1", func := "loop.example/telemetryagent/laws.FnValidQueue", spec := "fnValidQueue", apart := false }
def FnValidQueueSaid : Prop := fnValidQueueRow.holds Try.pinned (OpenSpec.ofChange fnValidQueueSpec)

/-- ITS FALSE NEIGHBOUR: 'it returns false'. Refute it at one input. -/
def fnValidQueueWrong : ChangeSpec := { name := "fnValidQueue", fn := fun _ => fun
  | [d] => { results := [.lit (.bool false)], args := [d] }
  | _ => none }
def FnValidQueueWrongFalsely : Prop := fnValidQueueRow.holds Try.pinned (OpenSpec.ofChange fnValidQueueWrong)

/-- 'laws.FnPushEntry': WHATEVER THE INPUT: true; the input reads as it did. -/
def fnPushEntrySpec : ChangeSpec := { name := "fnPushEntry", fn := fun _ => fun
  | [d] => { results := [.lit (.bool true)], args := [d] }
  | _ => none }
def fnPushEntryRow : OpenClaim := { program := "ytdmkimgjochibaa", sum := "c9abe6cbace7f0505316a1004202b630e7376d098e19a4c3045da10177b25fd1", func := "loop.example/telemetryagent/laws.FnPushEntry", spec := "fnPushEntry", apart := false }
def FnPushEntrySaid : Prop := fnPushEntryRow.holds Try.pinned (OpenSpec.ofChange fnPushEntrySpec)

/-- ITS FALSE NEIGHBOUR: 'it returns false'. Refute it at one input. -/
def fnPushEntryWrong : ChangeSpec := { name := "fnPushEntry", fn := fun _ => fun
  | [d] => { results := [.lit (.bool false)], args := [d] }
  | _ => none }
def FnPushEntryWrongFalsely : Prop := fnPushEntryRow.holds Try.pinned (OpenSpec.ofChange fnPushEntryWrong)

/-- 'laws.FnPushEntryTwice': WHATEVER THE INPUT: true; the input reads as it did. -/
def fnPushEntryTwiceSpec : ChangeSpec := { name := "fnPushEntryTwice", fn := fun _ => fun
  | [d] => { results := [.lit (.bool true)], args := [d] }
  | _ => none }
def fnPushEntryTwiceRow : OpenClaim := { program := "ytdmkimgjochibaa", sum := "c9abe6cbace7f0505316a1004202b630e7376d098e19a4c3045da10177b25fd1", func := "loop.example/telemetryagent/laws.FnPushEntryTwice", spec := "fnPushEntryTwice", apart := false }
def FnPushEntryTwiceSaid : Prop := fnPushEntryTwiceRow.holds Try.pinned (OpenSpec.ofChange fnPushEntryTwiceSpec)

/-- ITS FALSE NEIGHBOUR: 'it returns false'. Refute it at one input. -/
def fnPushEntryTwiceWrong : ChangeSpec := { name := "fnPushEntryTwice", fn := fun _ => fun
  | [d] => { results := [.lit (.bool false)], args := [d] }
  | _ => none }
def FnPushEntryTwiceWrongFalsely : Prop := fnPushEntryTwiceRow.holds Try.pinned (OpenSpec.ofChange fnPushEntryTwiceWrong)

/-- 'laws.FnQueueBytes': WHATEVER THE INPUT: true; the input reads as it did. -/
def fnQueueBytesSpec : ChangeSpec := { name := "fnQueueBytes", fn := fun _ => fun
  | [d] => { results := [.lit (.bool true)], args := [d] }
  | _ => none }
def fnQueueBytesRow : OpenClaim := { program := "ytdmkimgjochibaa", sum := "c9abe6cbace7f0505316a1004202b630e7376d098e19a4c3045da10177b25fd1", func := "loop.example/telemetryagent/laws.FnQueueBytes", spec := "fnQueueBytes", apart := false }
def FnQueueBytesSaid : Prop := fnQueueBytesRow.holds Try.pinned (OpenSpec.ofChange fnQueueBytesSpec)

/-- ITS FALSE NEIGHBOUR: 'it returns false'. Refute it at one input. -/
def fnQueueBytesWrong : ChangeSpec := { name := "fnQueueBytes", fn := fun _ => fun
  | [d] => { results := [.lit (.bool false)], args := [d] }
  | _ => none }
def FnQueueBytesWrongFalsely : Prop := fnQueueBytesRow.holds Try.pinned (OpenSpec.ofChange fnQueueBytesWrong)

/-- 'laws.FnQueueBytesPush': WHATEVER THE INPUT: true; the input reads as it did. -/
def fnQueueBytesPushSpec : ChangeSpec := { name := "fnQueueBytesPush", fn := fun _ => fun
  | [d] => { results := [.lit (.bool true)], args := [d] }
  | _ => none }
def fnQueueBytesPushRow : OpenClaim := { program := "ytdmkimgjochibaa", sum := "c9abe6cbace7f0505316a1004202b630e7376d098e19a4c3045da10177b25fd1", func := "loop.example/telemetryagent/laws.FnQueueBytesPush", spec := "fnQueueBytesPush", apart := false }
def FnQueueBytesPushSaid : Prop := fnQueueBytesPushRow.holds Try.pinned (OpenSpec.ofChange fnQueueBytesPushSpec)

/-- ITS FALSE NEIGHBOUR: 'it returns false'. Refute it at one input. -/
def fnQueueBytesPushWrong : ChangeSpec := { name := "fnQueueBytesPush", fn := fun _ => fun
  | [d] => { results := [.lit (.bool false)], args := [d] }
  | _ => none }
def FnQueueBytesPushWrongFalsely : Prop := fnQueueBytesPushRow.holds Try.pinned (OpenSpec.ofChange fnQueueBytesPushWrong)

/-- 'laws.FnValidEntries': WHATEVER THE INPUT: true; the input reads as it did. -/
def fnValidEntriesSpec : ChangeSpec := { name := "fnValidEntries", fn := fun _ => fun
  | [d] => { results := [.lit (.bool true)], args := [d] }
  | _ => none }
def fnValidEntriesRow : OpenClaim := { program := "ytdmkimgjochibaa", sum := "c9abe6cbace7f0505316a1004202b630e7376d098e19a4c3045da10177b25fd1", func := "loop.example/telemetryagent/laws.FnValidEntries", spec := "fnValidEntries", apart := false }
def FnValidEntriesSaid : Prop := fnValidEntriesRow.holds Try.pinned (OpenSpec.ofChange fnValidEntriesSpec)

/-- ITS FALSE NEIGHBOUR: 'it returns false'. Refute it at one input. -/
def fnValidEntriesWrong : ChangeSpec := { name := "fnValidEntries", fn := fun _ => fun
  | [d] => { results := [.lit (.bool false)], args := [d] }
  | _ => none }
def FnValidEntriesWrongFalsely : Prop := fnValidEntriesRow.holds Try.pinned (OpenSpec.ofChange fnValidEntriesWrong)

/-- 'laws.FnValidEntriesTwice': WHATEVER THE INPUT: true; the input reads as it did. -/
def fnValidEntriesTwiceSpec : ChangeSpec := { name := "fnValidEntriesTwice", fn := fun _ => fun
  | [d] => { results := [.lit (.bool true)], args := [d] }
  | _ => none }
def fnValidEntriesTwiceRow : OpenClaim := { program := "ytdmkimgjochibaa", sum := "c9abe6cbace7f0505316a1004202b630e7376d098e19a4c3045da10177b25fd1", func := "loop.example/telemetryagent/laws.FnValidEntriesTwice", spec := "fnValidEntriesTwice", apart := false }
def FnValidEntriesTwiceSaid : Prop := fnValidEntriesTwiceRow.holds Try.pinned (OpenSpec.ofChange fnValidEntriesTwiceSpec)

/-- ITS FALSE NEIGHBOUR: 'it returns false'. Refute it at one input. -/
def fnValidEntriesTwiceWrong : ChangeSpec := { name := "fnValidEntriesTwice", fn := fun _ => fun
  | [d] => { results := [.lit (.bool false)], args := [d] }
  | _ => none }
def FnValidEntriesTwiceWrongFalsely : Prop := fnValidEntriesTwiceRow.holds Try.pinned (OpenSpec.ofChange fnValidEntriesTwiceWrong)

/-- 'laws.FnCanShed': WHATEVER THE INPUT: true; the input reads as it did. -/
def fnCanShedSpec : ChangeSpec := { name := "fnCanShed", fn := fun _ => fun
  | [d] => { results := [.lit (.bool true)], args := [d] }
  | _ => none }
def fnCanShedRow : OpenClaim := { program := "ytdmkimgjochibaa", sum := "c9abe6cbace7f0505316a1004202b630e7376d098e19a4c3045da10177b25fd1", func := "loop.example/telemetryagent/laws.FnCanShed", spec := "fnCanShed", apart := false }
def FnCanShedSaid : Prop := fnCanShedRow.holds Try.pinned (OpenSpec.ofChange fnCanShedSpec)

/-- ITS FALSE NEIGHBOUR: 'it returns false'. Refute it at one input. -/
def fnCanShedWrong : ChangeSpec := { name := "fnCanShed", fn := fun _ => fun
  | [d] => { results := [.lit (.bool false)], args := [d] }
  | _ => none }
def FnCanShedWrongFalsely : Prop := fnCanShedRow.holds Try.pinned (OpenSpec.ofChange fnCanShedWrong)

/-- 'laws.FnCanShedAll': WHATEVER THE INPUT: true; the input reads as it did. -/
def fnCanShedAllSpec : ChangeSpec := { name := "fnCanShedAll", fn := fun _ => fun
  | [d] => { results := [.lit (.bool true)], args := [d] }
  | _ => none }
def fnCanShedAllRow : OpenClaim := { program := "ytdmkimgjochibaa", sum := "c9abe6cbace7f0505316a1004202b630e7376d098e19a4c3045da10177b25fd1", func := "loop.example/telemetryagent/laws.FnCanShedAll", spec := "fnCanShedAll", apart := false }
def FnCanShedAllSaid : Prop := fnCanShedAllRow.holds Try.pinned (OpenSpec.ofChange fnCanShedAllSpec)

/-- ITS FALSE NEIGHBOUR: 'it returns false'. Refute it at one input. -/
def fnCanShedAllWrong : ChangeSpec := { name := "fnCanShedAll", fn := fun _ => fun
  | [d] => { results := [.lit (.bool false)], args := [d] }
  | _ => none }
def FnCanShedAllWrongFalsely : Prop := fnCanShedAllRow.holds Try.pinned (OpenSpec.ofChange fnCanShedAllWrong)

/- THE SECOND FORM. 'bulk': how many values and letters a reading holds, each counted each time it is reached (what is shared counts as often as it is met; a slice's spare places count too). A statement '..UptoSaid' is the law's where the arguments, and the package variables that the reading takes, are together of bulk at most 1048576: NARROWER than '..Said'. Prove '..Said' where nothing that the law and all that it calls make is longer than what came in: it says more and counts as full. Else prove '..UptoSaid'. A law counts once. -/
mutual
def uptoBulk {H : Type} : DataW H → Nat
  | .lit (.string bytes) => bytes.length + 1
  | .lit _ => 1
  | .nil => 1
  | .ptr d => uptoBulk d + 1
  | .slice elems spare => uptoBulkAll elems + uptoBulkAll spare + 1
  | .agg parts => uptoBulkAll parts + 1
  | .iface _ d => uptoBulk d + 1
  | .map entries => uptoBulkEntries entries + 1
  | .held _ => 1
def uptoBulkAll {H : Type} : List (DataW H) → Nat
  | [] => 0
  | d :: r => uptoBulk d + uptoBulkAll r
def uptoBulkEntries {H : Type} : List (Lit × DataW H) → Nat
  | [] => 0
  | x :: r => uptoBulkEntry x + uptoBulkEntries r
def uptoBulkEntry {H : Type} : Lit × DataW H → Nat
  | (.string bytes, d) => bytes.length + uptoBulk d + 1
  | (_, d) => uptoBulk d + 1
 end
def uptoSmall : (H : Type) → List (DataW H) → Bool := fun _ ds => decide (uptoBulkAll ds ≤ 1048576)
def OpenSpec.upto (s : _root_.Go.ChangeSpec) : _root_.Go.OpenSpec := { _root_.Go.OpenSpec.ofChange s with cond := some uptoSmall }

/-- 'laws.FnValidQueue', WHERE WHAT IT READS IS OF BULK AT MOST 1048576: true; the input reads as it did. -/
def fnValidQueueUptoRow : OpenClaim := { program := "ytdmkimgjochibaa", sum := "c9abe6cbace7f0505316a1004202b630e7376d098e19a4c3045da10177b25fd1", func := "loop.example/telemetryagent/laws.FnValidQueue", spec := "fnValidQueue", apart := false, narrowed := true }
def FnValidQueueUptoSaid : Prop := fnValidQueueUptoRow.holds Try.pinned (OpenSpec.upto fnValidQueueSpec)

/-- 'laws.FnPushEntry', WHERE WHAT IT READS IS OF BULK AT MOST 1048576: true; the input reads as it did. -/
def fnPushEntryUptoRow : OpenClaim := { program := "ytdmkimgjochibaa", sum := "c9abe6cbace7f0505316a1004202b630e7376d098e19a4c3045da10177b25fd1", func := "loop.example/telemetryagent/laws.FnPushEntry", spec := "fnPushEntry", apart := false, narrowed := true }
def FnPushEntryUptoSaid : Prop := fnPushEntryUptoRow.holds Try.pinned (OpenSpec.upto fnPushEntrySpec)

/-- 'laws.FnPushEntryTwice', WHERE WHAT IT READS IS OF BULK AT MOST 1048576: true; the input reads as it did. -/
def fnPushEntryTwiceUptoRow : OpenClaim := { program := "ytdmkimgjochibaa", sum := "c9abe6cbace7f0505316a1004202b630e7376d098e19a4c3045da10177b25fd1", func := "loop.example/telemetryagent/laws.FnPushEntryTwice", spec := "fnPushEntryTwice", apart := false, narrowed := true }
def FnPushEntryTwiceUptoSaid : Prop := fnPushEntryTwiceUptoRow.holds Try.pinned (OpenSpec.upto fnPushEntryTwiceSpec)

/-- 'laws.FnQueueBytes', WHERE WHAT IT READS IS OF BULK AT MOST 1048576: true; the input reads as it did. -/
def fnQueueBytesUptoRow : OpenClaim := { program := "ytdmkimgjochibaa", sum := "c9abe6cbace7f0505316a1004202b630e7376d098e19a4c3045da10177b25fd1", func := "loop.example/telemetryagent/laws.FnQueueBytes", spec := "fnQueueBytes", apart := false, narrowed := true }
def FnQueueBytesUptoSaid : Prop := fnQueueBytesUptoRow.holds Try.pinned (OpenSpec.upto fnQueueBytesSpec)

/-- 'laws.FnQueueBytesPush', WHERE WHAT IT READS IS OF BULK AT MOST 1048576: true; the input reads as it did. -/
def fnQueueBytesPushUptoRow : OpenClaim := { program := "ytdmkimgjochibaa", sum := "c9abe6cbace7f0505316a1004202b630e7376d098e19a4c3045da10177b25fd1", func := "loop.example/telemetryagent/laws.FnQueueBytesPush", spec := "fnQueueBytesPush", apart := false, narrowed := true }
def FnQueueBytesPushUptoSaid : Prop := fnQueueBytesPushUptoRow.holds Try.pinned (OpenSpec.upto fnQueueBytesPushSpec)

/-- 'laws.FnValidEntries', WHERE WHAT IT READS IS OF BULK AT MOST 1048576: true; the input reads as it did. -/
def fnValidEntriesUptoRow : OpenClaim := { program := "ytdmkimgjochibaa", sum := "c9abe6cbace7f0505316a1004202b630e7376d098e19a4c3045da10177b25fd1", func := "loop.example/telemetryagent/laws.FnValidEntries", spec := "fnValidEntries", apart := false, narrowed := true }
def FnValidEntriesUptoSaid : Prop := fnValidEntriesUptoRow.holds Try.pinned (OpenSpec.upto fnValidEntriesSpec)

/-- 'laws.FnValidEntriesTwice', WHERE WHAT IT READS IS OF BULK AT MOST 1048576: true; the input reads as it did. -/
def fnValidEntriesTwiceUptoRow : OpenClaim := { program := "ytdmkimgjochibaa", sum := "c9abe6cbace7f0505316a1004202b630e7376d098e19a4c3045da10177b25fd1", func := "loop.example/telemetryagent/laws.FnValidEntriesTwice", spec := "fnValidEntriesTwice", apart := false, narrowed := true }
def FnValidEntriesTwiceUptoSaid : Prop := fnValidEntriesTwiceUptoRow.holds Try.pinned (OpenSpec.upto fnValidEntriesTwiceSpec)

/-- 'laws.FnCanShed', WHERE WHAT IT READS IS OF BULK AT MOST 1048576: true; the input reads as it did. -/
def fnCanShedUptoRow : OpenClaim := { program := "ytdmkimgjochibaa", sum := "c9abe6cbace7f0505316a1004202b630e7376d098e19a4c3045da10177b25fd1", func := "loop.example/telemetryagent/laws.FnCanShed", spec := "fnCanShed", apart := false, narrowed := true }
def FnCanShedUptoSaid : Prop := fnCanShedUptoRow.holds Try.pinned (OpenSpec.upto fnCanShedSpec)

/-- 'laws.FnCanShedAll', WHERE WHAT IT READS IS OF BULK AT MOST 1048576: true; the input reads as it did. -/
def fnCanShedAllUptoRow : OpenClaim := { program := "ytdmkimgjochibaa", sum := "c9abe6cbace7f0505316a1004202b630e7376d098e19a4c3045da10177b25fd1", func := "loop.example/telemetryagent/laws.FnCanShedAll", spec := "fnCanShedAll", apart := false, narrowed := true }
def FnCanShedAllUptoSaid : Prop := fnCanShedAllUptoRow.holds Try.pinned (OpenSpec.upto fnCanShedAllSpec)

end Rows
end Go.Proofs.Ytdmkimgjochibaa
