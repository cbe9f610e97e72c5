/-
  No cell of these rows narrows 'for every input' (looked for: loops, veiled, ifaces, maps, wideKeys, modest, calm, conditions, laid).
  DERIVED. THE GIVEN ROWS OF THIS SEAT. 14 by the template 'for every input the law returns true; each argument reads behind the call as it read before'; 0 by the template 'total and deterministic' (their statements: YtgfjmacnlgmbfaaTotals.lean).
  GIVEN WITH THE SEED: the statements are not yours to turn. If you find one false, say at which input.
  Laid BY PROGRAM, IN A SANDBOX (cutbox-rows.mjs): the forced cells as the released guide's own fill.sh prints them over the translation 92ca3e187a549e41… (all of the seat's roots in one cut). By AI agents, Wed Nov 11 2026. No macro, syntax, notation, axiom, sorry.
-/
import Derived.Test.YtgfjmacnlgmbfaaChecked
import GoSem.Claim
import GoSem.ClaimJoined
import GoSem.ClaimMapViews
import Derived.JoinedTies
import Derived.KernelRfl
namespace Go.Proofs.Ytgfjmacnlgmbfaa
/- THE CELL 'sum', in the pinned program and in every row, IS THE sha256 OF THE DUMP (.gsa) THAT YtgfjmacnlgmbfaaProg.lean LOADS. Nothing in Lean hashes anything: it is a label: what it is worth is what the hold of that sum in a sandbox is worth. -/
noncomputable def Try.pinned : Pinned := { name := "ytgfjmacnlgmbfaa", sum := "92ca3e187a549e4105838cba6bde99d22cd74d0c1a0893ea0841cc72f2c396e2", checked := Try.checked }
namespace Rows
def none {H : Type} : Left H := { results := [], args := [] }

/-- 'laws.FnValidWindow': WHATEVER THE INPUT: true; the input reads as it did. -/
def fnValidWindowSpec : ChangeSpec := { name := "fnValidWindow", fn := fun _ => fun
  | [d] => { results := [.lit (.bool true)], args := [d] }
  | _ => none }
def fnValidWindowRow : OpenClaim := { program := "ytgfjmacnlgmbfaa", sum := "92ca3e187a549e4105838cba6bde99d22cd74d0c1a0893ea0841cc72f2c396e2", func := "loop.example/telemetryagent/laws.FnValidWindow", spec := "fnValidWindow", apart := false }
def FnValidWindowSaid : Prop := fnValidWindowRow.holds Try.pinned (OpenSpec.ofChange fnValidWindowSpec)

/-- ITS FALSE NEIGHBOUR: 'it returns false'. Refute it at one input. -/
def fnValidWindowWrong : ChangeSpec := { name := "fnValidWindow", fn := fun _ => fun
  | [d] => { results := [.lit (.bool false)], args := [d] }
  | _ => none }
def FnValidWindowWrongFalsely : Prop := fnValidWindowRow.holds Try.pinned (OpenSpec.ofChange fnValidWindowWrong)

/-- 'laws.FnSendNext': WHATEVER THE INPUT: true; the input reads as it did. -/
def fnSendNextSpec : ChangeSpec := { name := "fnSendNext", fn := fun _ => fun
  | [d] => { results := [.lit (.bool true)], args := [d] }
  | _ => none }
def fnSendNextRow : OpenClaim := { program := "ytgfjmacnlgmbfaa", sum := "92ca3e187a549e4105838cba6bde99d22cd74d0c1a0893ea0841cc72f2c396e2", func := "loop.example/telemetryagent/laws.FnSendNext", spec := "fnSendNext", apart := false }
def FnSendNextSaid : Prop := fnSendNextRow.holds Try.pinned (OpenSpec.ofChange fnSendNextSpec)

/-- ITS FALSE NEIGHBOUR: 'it returns false'. Refute it at one input. -/
def fnSendNextWrong : ChangeSpec := { name := "fnSendNext", fn := fun _ => fun
  | [d] => { results := [.lit (.bool false)], args := [d] }
  | _ => none }
def FnSendNextWrongFalsely : Prop := fnSendNextRow.holds Try.pinned (OpenSpec.ofChange fnSendNextWrong)

/-- 'laws.FnSendNextFull': WHATEVER THE INPUT: true; the input reads as it did. -/
def fnSendNextFullSpec : ChangeSpec := { name := "fnSendNextFull", fn := fun _ => fun
  | [d] => { results := [.lit (.bool true)], args := [d] }
  | _ => none }
def fnSendNextFullRow : OpenClaim := { program := "ytgfjmacnlgmbfaa", sum := "92ca3e187a549e4105838cba6bde99d22cd74d0c1a0893ea0841cc72f2c396e2", func := "loop.example/telemetryagent/laws.FnSendNextFull", spec := "fnSendNextFull", apart := false }
def FnSendNextFullSaid : Prop := fnSendNextFullRow.holds Try.pinned (OpenSpec.ofChange fnSendNextFullSpec)

/-- ITS FALSE NEIGHBOUR: 'it returns false'. Refute it at one input. -/
def fnSendNextFullWrong : ChangeSpec := { name := "fnSendNextFull", fn := fun _ => fun
  | [d] => { results := [.lit (.bool false)], args := [d] }
  | _ => none }
def FnSendNextFullWrongFalsely : Prop := fnSendNextFullRow.holds Try.pinned (OpenSpec.ofChange fnSendNextFullWrong)

/-- 'laws.FnAckBatch': WHATEVER THE INPUT: true; the input reads as it did. -/
def fnAckBatchSpec : ChangeSpec := { name := "fnAckBatch", fn := fun _ => fun
  | [d] => { results := [.lit (.bool true)], args := [d] }
  | _ => none }
def fnAckBatchRow : OpenClaim := { program := "ytgfjmacnlgmbfaa", sum := "92ca3e187a549e4105838cba6bde99d22cd74d0c1a0893ea0841cc72f2c396e2", func := "loop.example/telemetryagent/laws.FnAckBatch", spec := "fnAckBatch", apart := false }
def FnAckBatchSaid : Prop := fnAckBatchRow.holds Try.pinned (OpenSpec.ofChange fnAckBatchSpec)

/-- ITS FALSE NEIGHBOUR: 'it returns false'. Refute it at one input. -/
def fnAckBatchWrong : ChangeSpec := { name := "fnAckBatch", fn := fun _ => fun
  | [d] => { results := [.lit (.bool false)], args := [d] }
  | _ => none }
def FnAckBatchWrongFalsely : Prop := fnAckBatchRow.holds Try.pinned (OpenSpec.ofChange fnAckBatchWrong)

/-- 'laws.FnAckBatchTwice': WHATEVER THE INPUT: true; the input reads as it did. -/
def fnAckBatchTwiceSpec : ChangeSpec := { name := "fnAckBatchTwice", fn := fun _ => fun
  | [d] => { results := [.lit (.bool true)], args := [d] }
  | _ => none }
def fnAckBatchTwiceRow : OpenClaim := { program := "ytgfjmacnlgmbfaa", sum := "92ca3e187a549e4105838cba6bde99d22cd74d0c1a0893ea0841cc72f2c396e2", func := "loop.example/telemetryagent/laws.FnAckBatchTwice", spec := "fnAckBatchTwice", apart := false }
def FnAckBatchTwiceSaid : Prop := fnAckBatchTwiceRow.holds Try.pinned (OpenSpec.ofChange fnAckBatchTwiceSpec)

/-- ITS FALSE NEIGHBOUR: 'it returns false'. Refute it at one input. -/
def fnAckBatchTwiceWrong : ChangeSpec := { name := "fnAckBatchTwice", fn := fun _ => fun
  | [d] => { results := [.lit (.bool false)], args := [d] }
  | _ => none }
def FnAckBatchTwiceWrongFalsely : Prop := fnAckBatchTwiceRow.holds Try.pinned (OpenSpec.ofChange fnAckBatchTwiceWrong)

/-- 'laws.FnAckBatchOrder': WHATEVER THE INPUT: true; the input reads as it did. -/
def fnAckBatchOrderSpec : ChangeSpec := { name := "fnAckBatchOrder", fn := fun _ => fun
  | [d] => { results := [.lit (.bool true)], args := [d] }
  | _ => none }
def fnAckBatchOrderRow : OpenClaim := { program := "ytgfjmacnlgmbfaa", sum := "92ca3e187a549e4105838cba6bde99d22cd74d0c1a0893ea0841cc72f2c396e2", func := "loop.example/telemetryagent/laws.FnAckBatchOrder", spec := "fnAckBatchOrder", apart := false }
def FnAckBatchOrderSaid : Prop := fnAckBatchOrderRow.holds Try.pinned (OpenSpec.ofChange fnAckBatchOrderSpec)

/-- ITS FALSE NEIGHBOUR: 'it returns false'. Refute it at one input. -/
def fnAckBatchOrderWrong : ChangeSpec := { name := "fnAckBatchOrder", fn := fun _ => fun
  | [d] => { results := [.lit (.bool false)], args := [d] }
  | _ => none }
def FnAckBatchOrderWrongFalsely : Prop := fnAckBatchOrderRow.holds Try.pinned (OpenSpec.ofChange fnAckBatchOrderWrong)

/-- 'laws.FnOpenBatches': WHATEVER THE INPUT: true; the input reads as it did. -/
def fnOpenBatchesSpec : ChangeSpec := { name := "fnOpenBatches", fn := fun _ => fun
  | [d] => { results := [.lit (.bool true)], args := [d] }
  | _ => none }
def fnOpenBatchesRow : OpenClaim := { program := "ytgfjmacnlgmbfaa", sum := "92ca3e187a549e4105838cba6bde99d22cd74d0c1a0893ea0841cc72f2c396e2", func := "loop.example/telemetryagent/laws.FnOpenBatches", spec := "fnOpenBatches", apart := false }
def FnOpenBatchesSaid : Prop := fnOpenBatchesRow.holds Try.pinned (OpenSpec.ofChange fnOpenBatchesSpec)

/-- ITS FALSE NEIGHBOUR: 'it returns false'. Refute it at one input. -/
def fnOpenBatchesWrong : ChangeSpec := { name := "fnOpenBatches", fn := fun _ => fun
  | [d] => { results := [.lit (.bool false)], args := [d] }
  | _ => none }
def FnOpenBatchesWrongFalsely : Prop := fnOpenBatchesRow.holds Try.pinned (OpenSpec.ofChange fnOpenBatchesWrong)

/-- 'laws.FnLostBatches': WHATEVER THE INPUT: true; the input reads as it did. -/
def fnLostBatchesSpec : ChangeSpec := { name := "fnLostBatches", fn := fun _ => fun
  | [d] => { results := [.lit (.bool true)], args := [d] }
  | _ => none }
def fnLostBatchesRow : OpenClaim := { program := "ytgfjmacnlgmbfaa", sum := "92ca3e187a549e4105838cba6bde99d22cd74d0c1a0893ea0841cc72f2c396e2", func := "loop.example/telemetryagent/laws.FnLostBatches", spec := "fnLostBatches", apart := false }
def FnLostBatchesSaid : Prop := fnLostBatchesRow.holds Try.pinned (OpenSpec.ofChange fnLostBatchesSpec)

/-- ITS FALSE NEIGHBOUR: 'it returns false'. Refute it at one input. -/
def fnLostBatchesWrong : ChangeSpec := { name := "fnLostBatches", fn := fun _ => fun
  | [d] => { results := [.lit (.bool false)], args := [d] }
  | _ => none }
def FnLostBatchesWrongFalsely : Prop := fnLostBatchesRow.holds Try.pinned (OpenSpec.ofChange fnLostBatchesWrong)

/-- 'laws.FnLostBatchesMore': WHATEVER THE INPUT: true; the input reads as it did. -/
def fnLostBatchesMoreSpec : ChangeSpec := { name := "fnLostBatchesMore", fn := fun _ => fun
  | [d] => { results := [.lit (.bool true)], args := [d] }
  | _ => none }
def fnLostBatchesMoreRow : OpenClaim := { program := "ytgfjmacnlgmbfaa", sum := "92ca3e187a549e4105838cba6bde99d22cd74d0c1a0893ea0841cc72f2c396e2", func := "loop.example/telemetryagent/laws.FnLostBatchesMore", spec := "fnLostBatchesMore", apart := false }
def FnLostBatchesMoreSaid : Prop := fnLostBatchesMoreRow.holds Try.pinned (OpenSpec.ofChange fnLostBatchesMoreSpec)

/-- ITS FALSE NEIGHBOUR: 'it returns false'. Refute it at one input. -/
def fnLostBatchesMoreWrong : ChangeSpec := { name := "fnLostBatchesMore", fn := fun _ => fun
  | [d] => { results := [.lit (.bool false)], args := [d] }
  | _ => none }
def FnLostBatchesMoreWrongFalsely : Prop := fnLostBatchesMoreRow.holds Try.pinned (OpenSpec.ofChange fnLostBatchesMoreWrong)

/-- 'laws.FnValidWindowMove': WHATEVER THE INPUT: true; the input reads as it did. -/
def fnValidWindowMoveSpec : ChangeSpec := { name := "fnValidWindowMove", fn := fun _ => fun
  | [d] => { results := [.lit (.bool true)], args := [d] }
  | _ => none }
def fnValidWindowMoveRow : OpenClaim := { program := "ytgfjmacnlgmbfaa", sum := "92ca3e187a549e4105838cba6bde99d22cd74d0c1a0893ea0841cc72f2c396e2", func := "loop.example/telemetryagent/laws.FnValidWindowMove", spec := "fnValidWindowMove", apart := false }
def FnValidWindowMoveSaid : Prop := fnValidWindowMoveRow.holds Try.pinned (OpenSpec.ofChange fnValidWindowMoveSpec)

/-- ITS FALSE NEIGHBOUR: 'it returns false'. Refute it at one input. -/
def fnValidWindowMoveWrong : ChangeSpec := { name := "fnValidWindowMove", fn := fun _ => fun
  | [d] => { results := [.lit (.bool false)], args := [d] }
  | _ => none }
def FnValidWindowMoveWrongFalsely : Prop := fnValidWindowMoveRow.holds Try.pinned (OpenSpec.ofChange fnValidWindowMoveWrong)

/-- 'laws.FnSendNextAck': WHATEVER THE INPUT: true; the input reads as it did. -/
def fnSendNextAckSpec : ChangeSpec := { name := "fnSendNextAck", fn := fun _ => fun
  | [d] => { results := [.lit (.bool true)], args := [d] }
  | _ => none }
def fnSendNextAckRow : OpenClaim := { program := "ytgfjmacnlgmbfaa", sum := "92ca3e187a549e4105838cba6bde99d22cd74d0c1a0893ea0841cc72f2c396e2", func := "loop.example/telemetryagent/laws.FnSendNextAck", spec := "fnSendNextAck", apart := false }
def FnSendNextAckSaid : Prop := fnSendNextAckRow.holds Try.pinned (OpenSpec.ofChange fnSendNextAckSpec)

/-- ITS FALSE NEIGHBOUR: 'it returns false'. Refute it at one input. -/
def fnSendNextAckWrong : ChangeSpec := { name := "fnSendNextAck", fn := fun _ => fun
  | [d] => { results := [.lit (.bool false)], args := [d] }
  | _ => none }
def FnSendNextAckWrongFalsely : Prop := fnSendNextAckRow.holds Try.pinned (OpenSpec.ofChange fnSendNextAckWrong)

/-- 'laws.FnAckBatchBase': WHATEVER THE INPUT: true; the input reads as it did. -/
def fnAckBatchBaseSpec : ChangeSpec := { name := "fnAckBatchBase", fn := fun _ => fun
  | [d] => { results := [.lit (.bool true)], args := [d] }
  | _ => none }
def fnAckBatchBaseRow : OpenClaim := { program := "ytgfjmacnlgmbfaa", sum := "92ca3e187a549e4105838cba6bde99d22cd74d0c1a0893ea0841cc72f2c396e2", func := "loop.example/telemetryagent/laws.FnAckBatchBase", spec := "fnAckBatchBase", apart := false }
def FnAckBatchBaseSaid : Prop := fnAckBatchBaseRow.holds Try.pinned (OpenSpec.ofChange fnAckBatchBaseSpec)

/-- ITS FALSE NEIGHBOUR: 'it returns false'. Refute it at one input. -/
def fnAckBatchBaseWrong : ChangeSpec := { name := "fnAckBatchBase", fn := fun _ => fun
  | [d] => { results := [.lit (.bool false)], args := [d] }
  | _ => none }
def FnAckBatchBaseWrongFalsely : Prop := fnAckBatchBaseRow.holds Try.pinned (OpenSpec.ofChange fnAckBatchBaseWrong)

/-- 'laws.FnOpenBatchesAll': WHATEVER THE INPUT: true; the input reads as it did. -/
def fnOpenBatchesAllSpec : ChangeSpec := { name := "fnOpenBatchesAll", fn := fun _ => fun
  | [d] => { results := [.lit (.bool true)], args := [d] }
  | _ => none }
def fnOpenBatchesAllRow : OpenClaim := { program := "ytgfjmacnlgmbfaa", sum := "92ca3e187a549e4105838cba6bde99d22cd74d0c1a0893ea0841cc72f2c396e2", func := "loop.example/telemetryagent/laws.FnOpenBatchesAll", spec := "fnOpenBatchesAll", apart := false }
def FnOpenBatchesAllSaid : Prop := fnOpenBatchesAllRow.holds Try.pinned (OpenSpec.ofChange fnOpenBatchesAllSpec)

/-- ITS FALSE NEIGHBOUR: 'it returns false'. Refute it at one input. -/
def fnOpenBatchesAllWrong : ChangeSpec := { name := "fnOpenBatchesAll", fn := fun _ => fun
  | [d] => { results := [.lit (.bool false)], args := [d] }
  | _ => none }
def FnOpenBatchesAllWrongFalsely : Prop := fnOpenBatchesAllRow.holds Try.pinned (OpenSpec.ofChange fnOpenBatchesAllWrong)

/-- 'laws.FnLostBatchesAck': WHATEVER THE INPUT: true; the input reads as it did. -/
def fnLostBatchesAckSpec : ChangeSpec := { name := "fnLostBatchesAck", fn := fun _ => fun
  | [d] => { results := [.lit (.bool true)], args := [d] }
  | _ => none }
def fnLostBatchesAckRow : OpenClaim := { program := "ytgfjmacnlgmbfaa", sum := "92ca3e187a549e4105838cba6bde99d22cd74d0c1a0893ea0841cc72f2c396e2", func := "loop.example/telemetryagent/laws.FnLostBatchesAck", spec := "fnLostBatchesAck", apart := false }
def FnLostBatchesAckSaid : Prop := fnLostBatchesAckRow.holds Try.pinned (OpenSpec.ofChange fnLostBatchesAckSpec)

/-- ITS FALSE NEIGHBOUR: 'it returns false'. Refute it at one input. -/
def fnLostBatchesAckWrong : ChangeSpec := { name := "fnLostBatchesAck", fn := fun _ => fun
  | [d] => { results := [.lit (.bool false)], args := [d] }
  | _ => none }
def FnLostBatchesAckWrongFalsely : Prop := fnLostBatchesAckRow.holds Try.pinned (OpenSpec.ofChange fnLostBatchesAckWrong)

/- THE SECOND FORM. 'bulk': how many values and letters a reading holds, each counted each time it is reached (what is shared counts as often as it is met; a slice's spare places count too). A statement '..UptoSaid' is the law's where the arguments, and the package variables that the reading takes, are together of bulk at most 1048576: NARROWER than '..Said'. Prove '..Said' where nothing that the law and all that it calls make is longer than what came in: it says more and counts as full. Else prove '..UptoSaid'. A law counts once. -/
mutual
def uptoBulk {H : Type} : DataW H → Nat
  | .lit (.string bytes) => bytes.length + 1
  | .lit _ => 1
  | .nil => 1
  | .ptr d => uptoBulk d + 1
  | .slice elems spare => uptoBulkAll elems + uptoBulkAll spare + 1
  | .agg parts => uptoBulkAll parts + 1
  | .iface _ d => uptoBulk d + 1
  | .map entries => uptoBulkEntries entries + 1
  | .held _ => 1
def uptoBulkAll {H : Type} : List (DataW H) → Nat
  | [] => 0
  | d :: r => uptoBulk d + uptoBulkAll r
def uptoBulkEntries {H : Type} : List (Lit × DataW H) → Nat
  | [] => 0
  | x :: r => uptoBulkEntry x + uptoBulkEntries r
def uptoBulkEntry {H : Type} : Lit × DataW H → Nat
  | (.string bytes, d) => bytes.length + uptoBulk d + 1
  | (_, d) => uptoBulk d + 1
 end
def uptoSmall : (H : Type) → List (DataW H) → Bool := fun _ ds => decide (uptoBulkAll ds ≤ 1048576)
def OpenSpec.upto (s : _root_.Go.ChangeSpec) : _root_.Go.OpenSpec := { _root_.Go.OpenSpec.ofChange s with cond := some uptoSmall }

/-- 'laws.FnValidWindow', WHERE WHAT IT READS IS OF BULK AT MOST 1048576: true; the input reads as it did. -/
def fnValidWindowUptoRow : OpenClaim := { program := "ytgfjmacnlgmbfaa", sum := "92ca3e187a549e4105838cba6bde99d22cd74d0c1a0893ea0841cc72f2c396e2", func := "loop.example/telemetryagent/laws.FnValidWindow", spec := "fnValidWindow", apart := false, narrowed := true }
def FnValidWindowUptoSaid : Prop := fnValidWindowUptoRow.holds Try.pinned (OpenSpec.upto fnValidWindowSpec)

/-- 'laws.FnSendNext', WHERE WHAT IT READS IS OF BULK AT MOST 1048576: true; the input reads as it did. -/
def fnSendNextUptoRow : OpenClaim := { program := "ytgfjmacnlgmbfaa", sum := "92ca3e187a549e4105838cba6bde99d22cd74d0c1a0893ea0841cc72f2c396e2", func := "loop.example/telemetryagent/laws.FnSendNext", spec := "fnSendNext", apart := false, narrowed := true }
def FnSendNextUptoSaid : Prop := fnSendNextUptoRow.holds Try.pinned (OpenSpec.upto fnSendNextSpec)

/-- 'laws.FnSendNextFull', WHERE WHAT IT READS IS OF BULK AT MOST 1048576: true; the input reads as it did. -/
def fnSendNextFullUptoRow : OpenClaim := { program := "ytgfjmacnlgmbfaa", sum := "92ca3e187a549e4105838cba6bde99d22cd74d0c1a0893ea0841cc72f2c396e2", func := "loop.example/telemetryagent/laws.FnSendNextFull", spec := "fnSendNextFull", apart := false, narrowed := true }
def FnSendNextFullUptoSaid : Prop := fnSendNextFullUptoRow.holds Try.pinned (OpenSpec.upto fnSendNextFullSpec)

/-- 'laws.FnAckBatch', WHERE WHAT IT READS IS OF BULK AT MOST 1048576: true; the input reads as it did. -/
def fnAckBatchUptoRow : OpenClaim := { program := "ytgfjmacnlgmbfaa", sum := "92ca3e187a549e4105838cba6bde99d22cd74d0c1a0893ea0841cc72f2c396e2", func := "loop.example/telemetryagent/laws.FnAckBatch", spec := "fnAckBatch", apart := false, narrowed := true }
def FnAckBatchUptoSaid : Prop := fnAckBatchUptoRow.holds Try.pinned (OpenSpec.upto fnAckBatchSpec)

/-- 'laws.FnAckBatchTwice', WHERE WHAT IT READS IS OF BULK AT MOST 1048576: true; the input reads as it did. -/
def fnAckBatchTwiceUptoRow : OpenClaim := { program := "ytgfjmacnlgmbfaa", sum := "92ca3e187a549e4105838cba6bde99d22cd74d0c1a0893ea0841cc72f2c396e2", func := "loop.example/telemetryagent/laws.FnAckBatchTwice", spec := "fnAckBatchTwice", apart := false, narrowed := true }
def FnAckBatchTwiceUptoSaid : Prop := fnAckBatchTwiceUptoRow.holds Try.pinned (OpenSpec.upto fnAckBatchTwiceSpec)

/-- 'laws.FnAckBatchOrder', WHERE WHAT IT READS IS OF BULK AT MOST 1048576: true; the input reads as it did. -/
def fnAckBatchOrderUptoRow : OpenClaim := { program := "ytgfjmacnlgmbfaa", sum := "92ca3e187a549e4105838cba6bde99d22cd74d0c1a0893ea0841cc72f2c396e2", func := "loop.example/telemetryagent/laws.FnAckBatchOrder", spec := "fnAckBatchOrder", apart := false, narrowed := true }
def FnAckBatchOrderUptoSaid : Prop := fnAckBatchOrderUptoRow.holds Try.pinned (OpenSpec.upto fnAckBatchOrderSpec)

/-- 'laws.FnOpenBatches', WHERE WHAT IT READS IS OF BULK AT MOST 1048576: true; the input reads as it did. -/
def fnOpenBatchesUptoRow : OpenClaim := { program := "ytgfjmacnlgmbfaa", sum := "92ca3e187a549e4105838cba6bde99d22cd74d0c1a0893ea0841cc72f2c396e2", func := "loop.example/telemetryagent/laws.FnOpenBatches", spec := "fnOpenBatches", apart := false, narrowed := true }
def FnOpenBatchesUptoSaid : Prop := fnOpenBatchesUptoRow.holds Try.pinned (OpenSpec.upto fnOpenBatchesSpec)

/-- 'laws.FnLostBatches', WHERE WHAT IT READS IS OF BULK AT MOST 1048576: true; the input reads as it did. -/
def fnLostBatchesUptoRow : OpenClaim := { program := "ytgfjmacnlgmbfaa", sum := "92ca3e187a549e4105838cba6bde99d22cd74d0c1a0893ea0841cc72f2c396e2", func := "loop.example/telemetryagent/laws.FnLostBatches", spec := "fnLostBatches", apart := false, narrowed := true }
def FnLostBatchesUptoSaid : Prop := fnLostBatchesUptoRow.holds Try.pinned (OpenSpec.upto fnLostBatchesSpec)

/-- 'laws.FnLostBatchesMore', WHERE WHAT IT READS IS OF BULK AT MOST 1048576: true; the input reads as it did. -/
def fnLostBatchesMoreUptoRow : OpenClaim := { program := "ytgfjmacnlgmbfaa", sum := "92ca3e187a549e4105838cba6bde99d22cd74d0c1a0893ea0841cc72f2c396e2", func := "loop.example/telemetryagent/laws.FnLostBatchesMore", spec := "fnLostBatchesMore", apart := false, narrowed := true }
def FnLostBatchesMoreUptoSaid : Prop := fnLostBatchesMoreUptoRow.holds Try.pinned (OpenSpec.upto fnLostBatchesMoreSpec)

/-- 'laws.FnValidWindowMove', WHERE WHAT IT READS IS OF BULK AT MOST 1048576: true; the input reads as it did. -/
def fnValidWindowMoveUptoRow : OpenClaim := { program := "ytgfjmacnlgmbfaa", sum := "92ca3e187a549e4105838cba6bde99d22cd74d0c1a0893ea0841cc72f2c396e2", func := "loop.example/telemetryagent/laws.FnValidWindowMove", spec := "fnValidWindowMove", apart := false, narrowed := true }
def FnValidWindowMoveUptoSaid : Prop := fnValidWindowMoveUptoRow.holds Try.pinned (OpenSpec.upto fnValidWindowMoveSpec)

/-- 'laws.FnSendNextAck', WHERE WHAT IT READS IS OF BULK AT MOST 1048576: true; the input reads as it did. -/
def fnSendNextAckUptoRow : OpenClaim := { program := "ytgfjmacnlgmbfaa", sum := "92ca3e187a549e4105838cba6bde99d22cd74d0c1a0893ea0841cc72f2c396e2", func := "loop.example/telemetryagent/laws.FnSendNextAck", spec := "fnSendNextAck", apart := false, narrowed := true }
def FnSendNextAckUptoSaid : Prop := fnSendNextAckUptoRow.holds Try.pinned (OpenSpec.upto fnSendNextAckSpec)

/-- 'laws.FnAckBatchBase', WHERE WHAT IT READS IS OF BULK AT MOST 1048576: true; the input reads as it did. -/
def fnAckBatchBaseUptoRow : OpenClaim := { program := "ytgfjmacnlgmbfaa", sum := "92ca3e187a549e4105838cba6bde99d22cd74d0c1a0893ea0841cc72f2c396e2", func := "loop.example/telemetryagent/laws.FnAckBatchBase", spec := "fnAckBatchBase", apart := false, narrowed := true }
def FnAckBatchBaseUptoSaid : Prop := fnAckBatchBaseUptoRow.holds Try.pinned (OpenSpec.upto fnAckBatchBaseSpec)

/-- 'laws.FnOpenBatchesAll', WHERE WHAT IT READS IS OF BULK AT MOST 1048576: true; the input reads as it did. -/
def fnOpenBatchesAllUptoRow : OpenClaim := { program := "ytgfjmacnlgmbfaa", sum := "92ca3e187a549e4105838cba6bde99d22cd74d0c1a0893ea0841cc72f2c396e2", func := "loop.example/telemetryagent/laws.FnOpenBatchesAll", spec := "fnOpenBatchesAll", apart := false, narrowed := true }
def FnOpenBatchesAllUptoSaid : Prop := fnOpenBatchesAllUptoRow.holds Try.pinned (OpenSpec.upto fnOpenBatchesAllSpec)

/-- 'laws.FnLostBatchesAck', WHERE WHAT IT READS IS OF BULK AT MOST 1048576: true; the input reads as it did. -/
def fnLostBatchesAckUptoRow : OpenClaim := { program := "ytgfjmacnlgmbfaa", sum := "92ca3e187a549e4105838cba6bde99d22cd74d0c1a0893ea0841cc72f2c396e2", func := "loop.example/telemetryagent/laws.FnLostBatchesAck", spec := "fnLostBatchesAck", apart := false, narrowed := true }
def FnLostBatchesAckUptoSaid : Prop := fnLostBatchesAckUptoRow.holds Try.pinned (OpenSpec.upto fnLostBatchesAckSpec)

end Rows
end Go.Proofs.Ytgfjmacnlgmbfaa
