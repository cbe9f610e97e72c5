/-
  No cell of these rows narrows 'for every input' (looked for: loops, veiled, ifaces, maps, wideKeys, modest, calm, conditions, laid).
  DERIVED. THE GIVEN ROWS OF THIS SEAT. 10 by the template 'for every input the law returns true; each argument reads behind the call as it read before'; 0 by the template 'total and deterministic' (their statements: YtccgfeenjffnpaaTotals.lean).
  GIVEN WITH THE SEED: the statements are not yours to turn. If you find one false, say at which input.
  Laid BY PROGRAM, IN A SANDBOX (cutbox-rows.mjs): the forced cells as the released guide's own fill.sh prints them over the translation 0d5cb7c19e717ae7… (all of the seat's roots in one cut). By AI agents, Wed Nov 11 2026. No macro, syntax, notation, axiom, sorry.
-/
import Derived.Test.YtccgfeenjffnpaaChecked
import GoSem.Claim
import GoSem.ClaimJoined
import GoSem.ClaimMapViews
import Derived.JoinedTies
import Derived.KernelRfl
namespace Go.Proofs.Ytccgfeenjffnpaa
/- THE CELL 'sum', in the pinned program and in every row, IS THE sha256 OF THE DUMP (.gsa) THAT YtccgfeenjffnpaaProg.lean LOADS. Nothing in Lean hashes anything: it is a label: what it is worth is what the hold of that sum in a sandbox is worth. -/
noncomputable def Try.pinned : Pinned := { name := "ytccgfeenjffnpaa", sum := "0d5cb7c19e717ae7e46ef63fcf99f22dcb419088ffa6ed2f9f825111472e7cd6", checked := Try.checked }
namespace Rows
def none {H : Type} : Left H := { results := [], args := [] }

/-- 'laws.FnExactValidQueue': WHATEVER THE INPUT: true; the input reads as it did. -/
def fnExactValidQueueSpec : ChangeSpec := { name := "fnExactValidQueue", fn := fun _ => fun
  | [d] => { results := [.lit (.bool true)], args := [d] }
  | _ => none }
def fnExactValidQueueRow : OpenClaim := { program := "ytccgfeenjffnpaa", sum := "0d5cb7c19e717ae7e46ef63fcf99f22dcb419088ffa6ed2f9f825111472e7cd6", func := "loop.example/telemetryagent/laws.FnExactValidQueue", spec := "fnExactValidQueue", apart := false }
def FnExactValidQueueSaid : Prop := fnExactValidQueueRow.holds Try.pinned (OpenSpec.ofChange fnExactValidQueueSpec)

/-- ITS FALSE NEIGHBOUR: 'it returns false'. Refute it at one input. -/
def fnExactValidQueueWrong : ChangeSpec := { name := "fnExactValidQueue", fn := fun _ => fun
  | [d] => { results := [.lit (.bool false)], args := [d] }
  | _ => none }
def FnExactValidQueueWrongFalsely : Prop := fnExactValidQueueRow.holds Try.pinned (OpenSpec.ofChange fnExactValidQueueWrong)

/-- 'laws.FnExactPushEntry': WHATEVER THE INPUT: true; the input reads as it did. -/
def fnExactPushEntrySpec : ChangeSpec := { name := "fnExactPushEntry", fn := fun _ => fun
  | [d1, d2] => { results := [.lit (.bool true)], args := [d1, d2] }
  | _ => none }
def fnExactPushEntryRow : OpenClaim := { program := "ytccgfeenjffnpaa", sum := "0d5cb7c19e717ae7e46ef63fcf99f22dcb419088ffa6ed2f9f825111472e7cd6", func := "loop.example/telemetryagent/laws.FnExactPushEntry", spec := "fnExactPushEntry", apart := false }
def FnExactPushEntrySaid : Prop := fnExactPushEntryRow.holds Try.pinned (OpenSpec.ofChange fnExactPushEntrySpec)

/-- ITS FALSE NEIGHBOUR: 'it returns false'. Refute it at one input. -/
def fnExactPushEntryWrong : ChangeSpec := { name := "fnExactPushEntry", fn := fun _ => fun
  | [d1, d2] => { results := [.lit (.bool false)], args := [d1, d2] }
  | _ => none }
def FnExactPushEntryWrongFalsely : Prop := fnExactPushEntryRow.holds Try.pinned (OpenSpec.ofChange fnExactPushEntryWrong)

/-- 'laws.FnExactPopEntry': WHATEVER THE INPUT: true; the input reads as it did. -/
def fnExactPopEntrySpec : ChangeSpec := { name := "fnExactPopEntry", fn := fun _ => fun
  | [d] => { results := [.lit (.bool true)], args := [d] }
  | _ => none }
def fnExactPopEntryRow : OpenClaim := { program := "ytccgfeenjffnpaa", sum := "0d5cb7c19e717ae7e46ef63fcf99f22dcb419088ffa6ed2f9f825111472e7cd6", func := "loop.example/telemetryagent/laws.FnExactPopEntry", spec := "fnExactPopEntry", unfollowed := true, recurses := true, apart := false }
def FnExactPopEntrySaid : Prop := fnExactPopEntryRow.holds Try.pinned (OpenSpec.ofChange fnExactPopEntrySpec)

/-- ITS FALSE NEIGHBOUR: 'it returns false'. Refute it at one input. -/
def fnExactPopEntryWrong : ChangeSpec := { name := "fnExactPopEntry", fn := fun _ => fun
  | [d] => { results := [.lit (.bool false)], args := [d] }
  | _ => none }
def FnExactPopEntryWrongFalsely : Prop := fnExactPopEntryRow.holds Try.pinned (OpenSpec.ofChange fnExactPopEntryWrong)

/-- 'laws.FnExactPopAll': WHATEVER THE INPUT: true; the input reads as it did. -/
def fnExactPopAllSpec : ChangeSpec := { name := "fnExactPopAll", fn := fun _ => fun
  | [d] => { results := [.lit (.bool true)], args := [d] }
  | _ => none }
def fnExactPopAllRow : OpenClaim := { program := "ytccgfeenjffnpaa", sum := "0d5cb7c19e717ae7e46ef63fcf99f22dcb419088ffa6ed2f9f825111472e7cd6", func := "loop.example/telemetryagent/laws.FnExactPopAll", spec := "fnExactPopAll", unfollowed := true, recurses := true, apart := false }
def FnExactPopAllSaid : Prop := fnExactPopAllRow.holds Try.pinned (OpenSpec.ofChange fnExactPopAllSpec)

/-- ITS FALSE NEIGHBOUR: 'it returns false'. Refute it at one input. -/
def fnExactPopAllWrong : ChangeSpec := { name := "fnExactPopAll", fn := fun _ => fun
  | [d] => { results := [.lit (.bool false)], args := [d] }
  | _ => none }
def FnExactPopAllWrongFalsely : Prop := fnExactPopAllRow.holds Try.pinned (OpenSpec.ofChange fnExactPopAllWrong)

/-- 'laws.FnExactQueueBytes': WHATEVER THE INPUT: true; the input reads as it did. -/
def fnExactQueueBytesSpec : ChangeSpec := { name := "fnExactQueueBytes", fn := fun _ => fun
  | [d] => { results := [.lit (.bool true)], args := [d] }
  | _ => none }
def fnExactQueueBytesRow : OpenClaim := { program := "ytccgfeenjffnpaa", sum := "0d5cb7c19e717ae7e46ef63fcf99f22dcb419088ffa6ed2f9f825111472e7cd6", func := "loop.example/telemetryagent/laws.FnExactQueueBytes", spec := "fnExactQueueBytes", apart := false }
def FnExactQueueBytesSaid : Prop := fnExactQueueBytesRow.holds Try.pinned (OpenSpec.ofChange fnExactQueueBytesSpec)

/-- ITS FALSE NEIGHBOUR: 'it returns false'. Refute it at one input. -/
def fnExactQueueBytesWrong : ChangeSpec := { name := "fnExactQueueBytes", fn := fun _ => fun
  | [d] => { results := [.lit (.bool false)], args := [d] }
  | _ => none }
def FnExactQueueBytesWrongFalsely : Prop := fnExactQueueBytesRow.holds Try.pinned (OpenSpec.ofChange fnExactQueueBytesWrong)

/-- 'laws.FnExactValidEntries': WHATEVER THE INPUT: true; the input reads as it did. -/
def fnExactValidEntriesSpec : ChangeSpec := { name := "fnExactValidEntries", fn := fun _ => fun
  | [d] => { results := [.lit (.bool true)], args := [d] }
  | _ => none }
def fnExactValidEntriesRow : OpenClaim := { program := "ytccgfeenjffnpaa", sum := "0d5cb7c19e717ae7e46ef63fcf99f22dcb419088ffa6ed2f9f825111472e7cd6", func := "loop.example/telemetryagent/laws.FnExactValidEntries", spec := "fnExactValidEntries", apart := false }
def FnExactValidEntriesSaid : Prop := fnExactValidEntriesRow.holds Try.pinned (OpenSpec.ofChange fnExactValidEntriesSpec)

/-- ITS FALSE NEIGHBOUR: 'it returns false'. Refute it at one input. -/
def fnExactValidEntriesWrong : ChangeSpec := { name := "fnExactValidEntries", fn := fun _ => fun
  | [d] => { results := [.lit (.bool false)], args := [d] }
  | _ => none }
def FnExactValidEntriesWrongFalsely : Prop := fnExactValidEntriesRow.holds Try.pinned (OpenSpec.ofChange fnExactValidEntriesWrong)

/-- 'laws.FnExactVictimFor': WHATEVER THE INPUT: true; the input reads as it did. -/
def fnExactVictimForSpec : ChangeSpec := { name := "fnExactVictimFor", fn := fun _ => fun
  | [d1, d2] => { results := [.lit (.bool true)], args := [d1, d2] }
  | _ => none }
def fnExactVictimForRow : OpenClaim := { program := "ytccgfeenjffnpaa", sum := "0d5cb7c19e717ae7e46ef63fcf99f22dcb419088ffa6ed2f9f825111472e7cd6", func := "loop.example/telemetryagent/laws.FnExactVictimFor", spec := "fnExactVictimFor", unfollowed := true, recurses := true, apart := false }
def FnExactVictimForSaid : Prop := fnExactVictimForRow.holds Try.pinned (OpenSpec.ofChange fnExactVictimForSpec)

/-- ITS FALSE NEIGHBOUR: 'it returns false'. Refute it at one input. -/
def fnExactVictimForWrong : ChangeSpec := { name := "fnExactVictimFor", fn := fun _ => fun
  | [d1, d2] => { results := [.lit (.bool false)], args := [d1, d2] }
  | _ => none }
def FnExactVictimForWrongFalsely : Prop := fnExactVictimForRow.holds Try.pinned (OpenSpec.ofChange fnExactVictimForWrong)

/-- 'laws.FnExactCanShed': WHATEVER THE INPUT: true; the input reads as it did. -/
def fnExactCanShedSpec : ChangeSpec := { name := "fnExactCanShed", fn := fun _ => fun
  | [d1, d2] => { results := [.lit (.bool true)], args := [d1, d2] }
  | _ => none }
def fnExactCanShedRow : OpenClaim := { program := "ytccgfeenjffnpaa", sum := "0d5cb7c19e717ae7e46ef63fcf99f22dcb419088ffa6ed2f9f825111472e7cd6", func := "loop.example/telemetryagent/laws.FnExactCanShed", spec := "fnExactCanShed", apart := false }
def FnExactCanShedSaid : Prop := fnExactCanShedRow.holds Try.pinned (OpenSpec.ofChange fnExactCanShedSpec)

/-- ITS FALSE NEIGHBOUR: 'it returns false'. Refute it at one input. -/
def fnExactCanShedWrong : ChangeSpec := { name := "fnExactCanShed", fn := fun _ => fun
  | [d1, d2] => { results := [.lit (.bool false)], args := [d1, d2] }
  | _ => none }
def FnExactCanShedWrongFalsely : Prop := fnExactCanShedRow.holds Try.pinned (OpenSpec.ofChange fnExactCanShedWrong)

/-- 'laws.FnExactShedFor': WHATEVER THE INPUT: true; the input reads as it did. -/
def fnExactShedForSpec : ChangeSpec := { name := "fnExactShedFor", fn := fun _ => fun
  | [d1, d2, d3] => { results := [.lit (.bool true)], args := [d1, d2, d3] }
  | _ => none }
def fnExactShedForRow : OpenClaim := { program := "ytccgfeenjffnpaa", sum := "0d5cb7c19e717ae7e46ef63fcf99f22dcb419088ffa6ed2f9f825111472e7cd6", func := "loop.example/telemetryagent/laws.FnExactShedFor", spec := "fnExactShedFor", unfollowed := true, recurses := true, apart := false }
def FnExactShedForSaid : Prop := fnExactShedForRow.holds Try.pinned (OpenSpec.ofChange fnExactShedForSpec)

/-- ITS FALSE NEIGHBOUR: 'it returns false'. Refute it at one input. -/
def fnExactShedForWrong : ChangeSpec := { name := "fnExactShedFor", fn := fun _ => fun
  | [d1, d2, d3] => { results := [.lit (.bool false)], args := [d1, d2, d3] }
  | _ => none }
def FnExactShedForWrongFalsely : Prop := fnExactShedForRow.holds Try.pinned (OpenSpec.ofChange fnExactShedForWrong)

/-- 'laws.FnExactShedOrder': WHATEVER THE INPUT: true; the input reads as it did. -/
def fnExactShedOrderSpec : ChangeSpec := { name := "fnExactShedOrder", fn := fun _ => fun
  | [d1, d2] => { results := [.lit (.bool true)], args := [d1, d2] }
  | _ => none }
def fnExactShedOrderRow : OpenClaim := { program := "ytccgfeenjffnpaa", sum := "0d5cb7c19e717ae7e46ef63fcf99f22dcb419088ffa6ed2f9f825111472e7cd6", func := "loop.example/telemetryagent/laws.FnExactShedOrder", spec := "fnExactShedOrder", unfollowed := true, recurses := true, apart := false }
def FnExactShedOrderSaid : Prop := fnExactShedOrderRow.holds Try.pinned (OpenSpec.ofChange fnExactShedOrderSpec)

/-- ITS FALSE NEIGHBOUR: 'it returns false'. Refute it at one input. -/
def fnExactShedOrderWrong : ChangeSpec := { name := "fnExactShedOrder", fn := fun _ => fun
  | [d1, d2] => { results := [.lit (.bool false)], args := [d1, d2] }
  | _ => none }
def FnExactShedOrderWrongFalsely : Prop := fnExactShedOrderRow.holds Try.pinned (OpenSpec.ofChange fnExactShedOrderWrong)

/- THE SECOND FORM. 'bulk': how many values and letters a reading holds, each counted each time it is reached (what is shared counts as often as it is met; a slice's spare places count too). A statement '..UptoSaid' is the law's where the arguments, and the package variables that the reading takes, are together of bulk at most 1048576: NARROWER than '..Said'. Prove '..Said' where nothing that the law and all that it calls make is longer than what came in: it says more and counts as full. Else prove '..UptoSaid'. A law counts once. -/
mutual
def uptoBulk {H : Type} : DataW H → Nat
  | .lit (.string bytes) => bytes.length + 1
  | .lit _ => 1
  | .nil => 1
  | .ptr d => uptoBulk d + 1
  | .slice elems spare => uptoBulkAll elems + uptoBulkAll spare + 1
  | .agg parts => uptoBulkAll parts + 1
  | .iface _ d => uptoBulk d + 1
  | .map entries => uptoBulkEntries entries + 1
  | .held _ => 1
def uptoBulkAll {H : Type} : List (DataW H) → Nat
  | [] => 0
  | d :: r => uptoBulk d + uptoBulkAll r
def uptoBulkEntries {H : Type} : List (Lit × DataW H) → Nat
  | [] => 0
  | x :: r => uptoBulkEntry x + uptoBulkEntries r
def uptoBulkEntry {H : Type} : Lit × DataW H → Nat
  | (.string bytes, d) => bytes.length + uptoBulk d + 1
  | (_, d) => uptoBulk d + 1
 end
def uptoSmall : (H : Type) → List (DataW H) → Bool := fun _ ds => decide (uptoBulkAll ds ≤ 1048576)
def OpenSpec.upto (s : _root_.Go.ChangeSpec) : _root_.Go.OpenSpec := { _root_.Go.OpenSpec.ofChange s with cond := some uptoSmall }

/-- 'laws.FnExactValidQueue', WHERE WHAT IT READS IS OF BULK AT MOST 1048576: true; the input reads as it did. -/
def fnExactValidQueueUptoRow : OpenClaim := { program := "ytccgfeenjffnpaa", sum := "0d5cb7c19e717ae7e46ef63fcf99f22dcb419088ffa6ed2f9f825111472e7cd6", func := "loop.example/telemetryagent/laws.FnExactValidQueue", spec := "fnExactValidQueue", apart := false, narrowed := true }
def FnExactValidQueueUptoSaid : Prop := fnExactValidQueueUptoRow.holds Try.pinned (OpenSpec.upto fnExactValidQueueSpec)

/-- 'laws.FnExactPushEntry', WHERE WHAT IT READS IS OF BULK AT MOST 1048576: true; the input reads as it did. -/
def fnExactPushEntryUptoRow : OpenClaim := { program := "ytccgfeenjffnpaa", sum := "0d5cb7c19e717ae7e46ef63fcf99f22dcb419088ffa6ed2f9f825111472e7cd6", func := "loop.example/telemetryagent/laws.FnExactPushEntry", spec := "fnExactPushEntry", apart := false, narrowed := true }
def FnExactPushEntryUptoSaid : Prop := fnExactPushEntryUptoRow.holds Try.pinned (OpenSpec.upto fnExactPushEntrySpec)

/-- 'laws.FnExactPopEntry', WHERE WHAT IT READS IS OF BULK AT MOST 1048576: true; the input reads as it did. -/
def fnExactPopEntryUptoRow : OpenClaim := { program := "ytccgfeenjffnpaa", sum := "0d5cb7c19e717ae7e46ef63fcf99f22dcb419088ffa6ed2f9f825111472e7cd6", func := "loop.example/telemetryagent/laws.FnExactPopEntry", spec := "fnExactPopEntry", unfollowed := true, recurses := true, apart := false, narrowed := true }
def FnExactPopEntryUptoSaid : Prop := fnExactPopEntryUptoRow.holds Try.pinned (OpenSpec.upto fnExactPopEntrySpec)

/-- 'laws.FnExactPopAll', WHERE WHAT IT READS IS OF BULK AT MOST 1048576: true; the input reads as it did. -/
def fnExactPopAllUptoRow : OpenClaim := { program := "ytccgfeenjffnpaa", sum := "0d5cb7c19e717ae7e46ef63fcf99f22dcb419088ffa6ed2f9f825111472e7cd6", func := "loop.example/telemetryagent/laws.FnExactPopAll", spec := "fnExactPopAll", unfollowed := true, recurses := true, apart := false, narrowed := true }
def FnExactPopAllUptoSaid : Prop := fnExactPopAllUptoRow.holds Try.pinned (OpenSpec.upto fnExactPopAllSpec)

/-- 'laws.FnExactQueueBytes', WHERE WHAT IT READS IS OF BULK AT MOST 1048576: true; the input reads as it did. -/
def fnExactQueueBytesUptoRow : OpenClaim := { program := "ytccgfeenjffnpaa", sum := "0d5cb7c19e717ae7e46ef63fcf99f22dcb419088ffa6ed2f9f825111472e7cd6", func := "loop.example/telemetryagent/laws.FnExactQueueBytes", spec := "fnExactQueueBytes", apart := false, narrowed := true }
def FnExactQueueBytesUptoSaid : Prop := fnExactQueueBytesUptoRow.holds Try.pinned (OpenSpec.upto fnExactQueueBytesSpec)

/-- 'laws.FnExactValidEntries', WHERE WHAT IT READS IS OF BULK AT MOST 1048576: true; the input reads as it did. -/
def fnExactValidEntriesUptoRow : OpenClaim := { program := "ytccgfeenjffnpaa", sum := "0d5cb7c19e717ae7e46ef63fcf99f22dcb419088ffa6ed2f9f825111472e7cd6", func := "loop.example/telemetryagent/laws.FnExactValidEntries", spec := "fnExactValidEntries", apart := false, narrowed := true }
def FnExactValidEntriesUptoSaid : Prop := fnExactValidEntriesUptoRow.holds Try.pinned (OpenSpec.upto fnExactValidEntriesSpec)

/-- 'laws.FnExactVictimFor', WHERE WHAT IT READS IS OF BULK AT MOST 1048576: true; the input reads as it did. -/
def fnExactVictimForUptoRow : OpenClaim := { program := "ytccgfeenjffnpaa", sum := "0d5cb7c19e717ae7e46ef63fcf99f22dcb419088ffa6ed2f9f825111472e7cd6", func := "loop.example/telemetryagent/laws.FnExactVictimFor", spec := "fnExactVictimFor", unfollowed := true, recurses := true, apart := false, narrowed := true }
def FnExactVictimForUptoSaid : Prop := fnExactVictimForUptoRow.holds Try.pinned (OpenSpec.upto fnExactVictimForSpec)

/-- 'laws.FnExactCanShed', WHERE WHAT IT READS IS OF BULK AT MOST 1048576: true; the input reads as it did. -/
def fnExactCanShedUptoRow : OpenClaim := { program := "ytccgfeenjffnpaa", sum := "0d5cb7c19e717ae7e46ef63fcf99f22dcb419088ffa6ed2f9f825111472e7cd6", func := "loop.example/telemetryagent/laws.FnExactCanShed", spec := "fnExactCanShed", apart := false, narrowed := true }
def FnExactCanShedUptoSaid : Prop := fnExactCanShedUptoRow.holds Try.pinned (OpenSpec.upto fnExactCanShedSpec)

/-- 'laws.FnExactShedFor', WHERE WHAT IT READS IS OF BULK AT MOST 1048576: true; the input reads as it did. -/
def fnExactShedForUptoRow : OpenClaim := { program := "ytccgfeenjffnpaa", sum := "0d5cb7c19e717ae7e46ef63fcf99f22dcb419088ffa6ed2f9f825111472e7cd6", func := "loop.example/telemetryagent/laws.FnExactShedFor", spec := "fnExactShedFor", unfollowed := true, recurses := true, apart := false, narrowed := true }
def FnExactShedForUptoSaid : Prop := fnExactShedForUptoRow.holds Try.pinned (OpenSpec.upto fnExactShedForSpec)

/-- 'laws.FnExactShedOrder', WHERE WHAT IT READS IS OF BULK AT MOST 1048576: true; the input reads as it did. -/
def fnExactShedOrderUptoRow : OpenClaim := { program := "ytccgfeenjffnpaa", sum := "0d5cb7c19e717ae7e46ef63fcf99f22dcb419088ffa6ed2f9f825111472e7cd6", func := "loop.example/telemetryagent/laws.FnExactShedOrder", spec := "fnExactShedOrder", unfollowed := true, recurses := true, apart := false, narrowed := true }
def FnExactShedOrderUptoSaid : Prop := fnExactShedOrderUptoRow.holds Try.pinned (OpenSpec.upto fnExactShedOrderSpec)

end Rows
end Go.Proofs.Ytccgfeenjffnpaa
