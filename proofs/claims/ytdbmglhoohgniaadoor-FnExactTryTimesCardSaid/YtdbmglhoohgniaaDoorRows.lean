/-
  NARROWER THAN 'FOR EVERY INPUT', by the rows' own cells (each row's printed sentence says how): FnExactBackoffOf: laid · FnExactTryTime: laid · FnExactTryTimes: laid · FnExactLastWait: laid · FnBackoffOf: laid · FnBackoffOfBound: laid · FnTryTime: laid · FnTryTimeMove: laid · FnTryTimes: laid · FnTryTimesLast: laid · FnLastWait: laid · FnTryTimeBatch: laid · FnTryTimesShort: laid.
  DERIVED. THE GIVEN ROWS OF THIS SEAT. 13 by the template 'for every input the law returns true; each argument reads behind the call as it read before'; 0 by the template 'total and deterministic' (their statements: YtdbmglhoohgniaaDoorTotals.lean).
  GIVEN WITH THE SEED: the statements are not yours to turn. If you find one false, say at which input.
  Laid BY PROGRAM, IN A SANDBOX (cutbox-rows.mjs): the forced cells as the released guide's own fill.sh prints them over the translation 587d761fd3bddd49… (all of the seat's roots in one cut). By AI agents, Wed Nov 11 2026. No macro, syntax, notation, axiom, sorry.
-/
import Derived.Test.YtdbmglhoohgniaaDoorChecked
import GoSem.Claim
import GoSem.ClaimJoined
import GoSem.ClaimMapViews
import Derived.JoinedTies
import Derived.KernelRfl
namespace Go.Proofs.YtdbmglhoohgniaaDoor
/- THE CELL 'sum', in the pinned program and in every row, IS THE sha256 OF THE DUMP (.gsa) THAT YtdbmglhoohgniaaDoorProg.lean LOADS. Nothing in Lean hashes anything: it is a label: what it is worth is what the hold of that sum in a sandbox is worth. -/
noncomputable def Tryd.pinned : Pinned := { name := "ytdbmglhoohgniaadoor", sum := "587d761fd3bddd49a5beb3c54f3da87592801bbad3558a0e6a104fd30054142e", checked := Tryd.checked }
namespace Rows
def none {H : Type} : Left H := { results := [], args := [] }

/- WHAT THE LISTED PACKAGE-LEVEL VARIABLES READ AS WHEN THE CALL BEGINS. Each datum BY PROGRAM (the guide's laid-datum.mjs) off the statement by which the dump's own 'gosem.cut.vars' lays the variable. In a bare row this is a premise. The card (YtdbmglhoohgniaaDoorCards.lean) ties it to the program's text. -/
def laid_loop_example_telemetryagent_impl_waits {H : Type} : DataW H := .agg [.lit (.int .i64 4), .lit (.int .i64 8), .lit (.int .i64 16), .lit (.int .i64 32), .lit (.int .i64 60), .lit (.int .i64 60)]

/-- 'laws.FnExactBackoffOf': WHATEVER THE INPUT: true; the input reads as it did. -/
def fnExactBackoffOfSpec : ChangeSpec := { name := "fnExactBackoffOf", vars := ["loop.example/telemetryagent/impl.waits"], fn := fun _ => fun
  | [d, g1] => { results := [.lit (.bool true)], args := [d], vars := [g1] }
  | _ => none }
def fnExactBackoffOfRow : OpenClaim := { program := "ytdbmglhoohgniaadoor", sum := "587d761fd3bddd49a5beb3c54f3da87592801bbad3558a0e6a104fd30054142e", func := "loop.example/telemetryagent/laws.FnExactBackoffOf", spec := "fnExactBackoffOf", named := ["loop.example/telemetryagent/impl.waits"], apart := false, laid := [("loop.example/telemetryagent/impl.waits", laid_loop_example_telemetryagent_impl_waits)] }
def FnExactBackoffOfSaid : Prop := fnExactBackoffOfRow.holds Tryd.pinned (OpenSpec.ofChange fnExactBackoffOfSpec)

/-- ITS FALSE NEIGHBOUR: 'it returns false'. Refute it at one input. -/
def fnExactBackoffOfWrong : ChangeSpec := { name := "fnExactBackoffOf", vars := ["loop.example/telemetryagent/impl.waits"], fn := fun _ => fun
  | [d, g1] => { results := [.lit (.bool false)], args := [d], vars := [g1] }
  | _ => none }
def FnExactBackoffOfWrongFalsely : Prop := fnExactBackoffOfRow.holds Tryd.pinned (OpenSpec.ofChange fnExactBackoffOfWrong)

/-- 'laws.FnExactTryTime': WHATEVER THE INPUT: true; the input reads as it did. -/
def fnExactTryTimeSpec : ChangeSpec := { name := "fnExactTryTime", vars := ["loop.example/telemetryagent/impl.waits"], fn := fun _ => fun
  | [d1, d2, d3, g1] => { results := [.lit (.bool true)], args := [d1, d2, d3], vars := [g1] }
  | _ => none }
def fnExactTryTimeRow : OpenClaim := { program := "ytdbmglhoohgniaadoor", sum := "587d761fd3bddd49a5beb3c54f3da87592801bbad3558a0e6a104fd30054142e", func := "loop.example/telemetryagent/laws.FnExactTryTime", spec := "fnExactTryTime", named := ["loop.example/telemetryagent/impl.waits"], apart := false, laid := [("loop.example/telemetryagent/impl.waits", laid_loop_example_telemetryagent_impl_waits)] }
def FnExactTryTimeSaid : Prop := fnExactTryTimeRow.holds Tryd.pinned (OpenSpec.ofChange fnExactTryTimeSpec)

/-- ITS FALSE NEIGHBOUR: 'it returns false'. Refute it at one input. -/
def fnExactTryTimeWrong : ChangeSpec := { name := "fnExactTryTime", vars := ["loop.example/telemetryagent/impl.waits"], fn := fun _ => fun
  | [d1, d2, d3, g1] => { results := [.lit (.bool false)], args := [d1, d2, d3], vars := [g1] }
  | _ => none }
def FnExactTryTimeWrongFalsely : Prop := fnExactTryTimeRow.holds Tryd.pinned (OpenSpec.ofChange fnExactTryTimeWrong)

/-- 'laws.FnExactTryTimes': WHATEVER THE INPUT: true; the input reads as it did. -/
def fnExactTryTimesSpec : ChangeSpec := { name := "fnExactTryTimes", vars := ["loop.example/telemetryagent/impl.waits"], fn := fun _ => fun
  | [d1, d2, d3, g1] => { results := [.lit (.bool true)], args := [d1, d2, d3], vars := [g1] }
  | _ => none }
def fnExactTryTimesRow : OpenClaim := { program := "ytdbmglhoohgniaadoor", sum := "587d761fd3bddd49a5beb3c54f3da87592801bbad3558a0e6a104fd30054142e", func := "loop.example/telemetryagent/laws.FnExactTryTimes", spec := "fnExactTryTimes", named := ["loop.example/telemetryagent/impl.waits"], apart := false, laid := [("loop.example/telemetryagent/impl.waits", laid_loop_example_telemetryagent_impl_waits)] }
def FnExactTryTimesSaid : Prop := fnExactTryTimesRow.holds Tryd.pinned (OpenSpec.ofChange fnExactTryTimesSpec)

/-- ITS FALSE NEIGHBOUR: 'it returns false'. Refute it at one input. -/
def fnExactTryTimesWrong : ChangeSpec := { name := "fnExactTryTimes", vars := ["loop.example/telemetryagent/impl.waits"], fn := fun _ => fun
  | [d1, d2, d3, g1] => { results := [.lit (.bool false)], args := [d1, d2, d3], vars := [g1] }
  | _ => none }
def FnExactTryTimesWrongFalsely : Prop := fnExactTryTimesRow.holds Tryd.pinned (OpenSpec.ofChange fnExactTryTimesWrong)

/-- 'laws.FnExactLastWait': WHATEVER THE INPUT: true; the input reads as it did. -/
def fnExactLastWaitSpec : ChangeSpec := { name := "fnExactLastWait", vars := ["loop.example/telemetryagent/impl.waits"], fn := fun _ => fun
  | [d, g1] => { results := [.lit (.bool true)], args := [d], vars := [g1] }
  | _ => none }
def fnExactLastWaitRow : OpenClaim := { program := "ytdbmglhoohgniaadoor", sum := "587d761fd3bddd49a5beb3c54f3da87592801bbad3558a0e6a104fd30054142e", func := "loop.example/telemetryagent/laws.FnExactLastWait", spec := "fnExactLastWait", named := ["loop.example/telemetryagent/impl.waits"], apart := false, laid := [("loop.example/telemetryagent/impl.waits", laid_loop_example_telemetryagent_impl_waits)] }
def FnExactLastWaitSaid : Prop := fnExactLastWaitRow.holds Tryd.pinned (OpenSpec.ofChange fnExactLastWaitSpec)

/-- ITS FALSE NEIGHBOUR: 'it returns false'. Refute it at one input. -/
def fnExactLastWaitWrong : ChangeSpec := { name := "fnExactLastWait", vars := ["loop.example/telemetryagent/impl.waits"], fn := fun _ => fun
  | [d, g1] => { results := [.lit (.bool false)], args := [d], vars := [g1] }
  | _ => none }
def FnExactLastWaitWrongFalsely : Prop := fnExactLastWaitRow.holds Tryd.pinned (OpenSpec.ofChange fnExactLastWaitWrong)

/-- 'laws.FnBackoffOf': WHATEVER THE INPUT: true; the input reads as it did. -/
def fnBackoffOfSpec : ChangeSpec := { name := "fnBackoffOf", vars := ["loop.example/telemetryagent/impl.waits"], fn := fun _ => fun
  | [d, g1] => { results := [.lit (.bool true)], args := [d], vars := [g1] }
  | _ => none }
def fnBackoffOfRow : OpenClaim := { program := "ytdbmglhoohgniaadoor", sum := "587d761fd3bddd49a5beb3c54f3da87592801bbad3558a0e6a104fd30054142e", func := "loop.example/telemetryagent/laws.FnBackoffOf", spec := "fnBackoffOf", named := ["loop.example/telemetryagent/impl.waits"], apart := false, laid := [("loop.example/telemetryagent/impl.waits", laid_loop_example_telemetryagent_impl_waits)] }
def FnBackoffOfSaid : Prop := fnBackoffOfRow.holds Tryd.pinned (OpenSpec.ofChange fnBackoffOfSpec)

/-- ITS FALSE NEIGHBOUR: 'it returns false'. Refute it at one input. -/
def fnBackoffOfWrong : ChangeSpec := { name := "fnBackoffOf", vars := ["loop.example/telemetryagent/impl.waits"], fn := fun _ => fun
  | [d, g1] => { results := [.lit (.bool false)], args := [d], vars := [g1] }
  | _ => none }
def FnBackoffOfWrongFalsely : Prop := fnBackoffOfRow.holds Tryd.pinned (OpenSpec.ofChange fnBackoffOfWrong)

/-- 'laws.FnBackoffOfBound': WHATEVER THE INPUT: true; the input reads as it did. -/
def fnBackoffOfBoundSpec : ChangeSpec := { name := "fnBackoffOfBound", vars := ["loop.example/telemetryagent/impl.waits"], fn := fun _ => fun
  | [d, g1] => { results := [.lit (.bool true)], args := [d], vars := [g1] }
  | _ => none }
def fnBackoffOfBoundRow : OpenClaim := { program := "ytdbmglhoohgniaadoor", sum := "587d761fd3bddd49a5beb3c54f3da87592801bbad3558a0e6a104fd30054142e", func := "loop.example/telemetryagent/laws.FnBackoffOfBound", spec := "fnBackoffOfBound", named := ["loop.example/telemetryagent/impl.waits"], apart := false, laid := [("loop.example/telemetryagent/impl.waits", laid_loop_example_telemetryagent_impl_waits)] }
def FnBackoffOfBoundSaid : Prop := fnBackoffOfBoundRow.holds Tryd.pinned (OpenSpec.ofChange fnBackoffOfBoundSpec)

/-- ITS FALSE NEIGHBOUR: 'it returns false'. Refute it at one input. -/
def fnBackoffOfBoundWrong : ChangeSpec := { name := "fnBackoffOfBound", vars := ["loop.example/telemetryagent/impl.waits"], fn := fun _ => fun
  | [d, g1] => { results := [.lit (.bool false)], args := [d], vars := [g1] }
  | _ => none }
def FnBackoffOfBoundWrongFalsely : Prop := fnBackoffOfBoundRow.holds Tryd.pinned (OpenSpec.ofChange fnBackoffOfBoundWrong)

/-- 'laws.FnTryTime': WHATEVER THE INPUT: true; the input reads as it did. -/
def fnTryTimeSpec : ChangeSpec := { name := "fnTryTime", vars := ["loop.example/telemetryagent/impl.waits"], fn := fun _ => fun
  | [d, g1] => { results := [.lit (.bool true)], args := [d], vars := [g1] }
  | _ => none }
def fnTryTimeRow : OpenClaim := { program := "ytdbmglhoohgniaadoor", sum := "587d761fd3bddd49a5beb3c54f3da87592801bbad3558a0e6a104fd30054142e", func := "loop.example/telemetryagent/laws.FnTryTime", spec := "fnTryTime", named := ["loop.example/telemetryagent/impl.waits"], apart := false, laid := [("loop.example/telemetryagent/impl.waits", laid_loop_example_telemetryagent_impl_waits)] }
def FnTryTimeSaid : Prop := fnTryTimeRow.holds Tryd.pinned (OpenSpec.ofChange fnTryTimeSpec)

/-- ITS FALSE NEIGHBOUR: 'it returns false'. Refute it at one input. -/
def fnTryTimeWrong : ChangeSpec := { name := "fnTryTime", vars := ["loop.example/telemetryagent/impl.waits"], fn := fun _ => fun
  | [d, g1] => { results := [.lit (.bool false)], args := [d], vars := [g1] }
  | _ => none }
def FnTryTimeWrongFalsely : Prop := fnTryTimeRow.holds Tryd.pinned (OpenSpec.ofChange fnTryTimeWrong)

/-- 'laws.FnTryTimeMove': WHATEVER THE INPUT: true; the input reads as it did. -/
def fnTryTimeMoveSpec : ChangeSpec := { name := "fnTryTimeMove", vars := ["loop.example/telemetryagent/impl.waits"], fn := fun _ => fun
  | [d, g1] => { results := [.lit (.bool true)], args := [d], vars := [g1] }
  | _ => none }
def fnTryTimeMoveRow : OpenClaim := { program := "ytdbmglhoohgniaadoor", sum := "587d761fd3bddd49a5beb3c54f3da87592801bbad3558a0e6a104fd30054142e", func := "loop.example/telemetryagent/laws.FnTryTimeMove", spec := "fnTryTimeMove", named := ["loop.example/telemetryagent/impl.waits"], apart := false, laid := [("loop.example/telemetryagent/impl.waits", laid_loop_example_telemetryagent_impl_waits)] }
def FnTryTimeMoveSaid : Prop := fnTryTimeMoveRow.holds Tryd.pinned (OpenSpec.ofChange fnTryTimeMoveSpec)

/-- ITS FALSE NEIGHBOUR: 'it returns false'. Refute it at one input. -/
def fnTryTimeMoveWrong : ChangeSpec := { name := "fnTryTimeMove", vars := ["loop.example/telemetryagent/impl.waits"], fn := fun _ => fun
  | [d, g1] => { results := [.lit (.bool false)], args := [d], vars := [g1] }
  | _ => none }
def FnTryTimeMoveWrongFalsely : Prop := fnTryTimeMoveRow.holds Tryd.pinned (OpenSpec.ofChange fnTryTimeMoveWrong)

/-- 'laws.FnTryTimes': WHATEVER THE INPUT: true; the input reads as it did. -/
def fnTryTimesSpec : ChangeSpec := { name := "fnTryTimes", vars := ["loop.example/telemetryagent/impl.waits"], fn := fun _ => fun
  | [d, g1] => { results := [.lit (.bool true)], args := [d], vars := [g1] }
  | _ => none }
def fnTryTimesRow : OpenClaim := { program := "ytdbmglhoohgniaadoor", sum := "587d761fd3bddd49a5beb3c54f3da87592801bbad3558a0e6a104fd30054142e", func := "loop.example/telemetryagent/laws.FnTryTimes", spec := "fnTryTimes", named := ["loop.example/telemetryagent/impl.waits"], apart := false, laid := [("loop.example/telemetryagent/impl.waits", laid_loop_example_telemetryagent_impl_waits)] }
def FnTryTimesSaid : Prop := fnTryTimesRow.holds Tryd.pinned (OpenSpec.ofChange fnTryTimesSpec)

/-- ITS FALSE NEIGHBOUR: 'it returns false'. Refute it at one input. -/
def fnTryTimesWrong : ChangeSpec := { name := "fnTryTimes", vars := ["loop.example/telemetryagent/impl.waits"], fn := fun _ => fun
  | [d, g1] => { results := [.lit (.bool false)], args := [d], vars := [g1] }
  | _ => none }
def FnTryTimesWrongFalsely : Prop := fnTryTimesRow.holds Tryd.pinned (OpenSpec.ofChange fnTryTimesWrong)

/-- 'laws.FnTryTimesLast': WHATEVER THE INPUT: true; the input reads as it did. -/
def fnTryTimesLastSpec : ChangeSpec := { name := "fnTryTimesLast", vars := ["loop.example/telemetryagent/impl.waits"], fn := fun _ => fun
  | [d, g1] => { results := [.lit (.bool true)], args := [d], vars := [g1] }
  | _ => none }
def fnTryTimesLastRow : OpenClaim := { program := "ytdbmglhoohgniaadoor", sum := "587d761fd3bddd49a5beb3c54f3da87592801bbad3558a0e6a104fd30054142e", func := "loop.example/telemetryagent/laws.FnTryTimesLast", spec := "fnTryTimesLast", named := ["loop.example/telemetryagent/impl.waits"], apart := false, laid := [("loop.example/telemetryagent/impl.waits", laid_loop_example_telemetryagent_impl_waits)] }
def FnTryTimesLastSaid : Prop := fnTryTimesLastRow.holds Tryd.pinned (OpenSpec.ofChange fnTryTimesLastSpec)

/-- ITS FALSE NEIGHBOUR: 'it returns false'. Refute it at one input. -/
def fnTryTimesLastWrong : ChangeSpec := { name := "fnTryTimesLast", vars := ["loop.example/telemetryagent/impl.waits"], fn := fun _ => fun
  | [d, g1] => { results := [.lit (.bool false)], args := [d], vars := [g1] }
  | _ => none }
def FnTryTimesLastWrongFalsely : Prop := fnTryTimesLastRow.holds Tryd.pinned (OpenSpec.ofChange fnTryTimesLastWrong)

/-- 'laws.FnLastWait': WHATEVER THE INPUT: true; the input reads as it did. -/
def fnLastWaitSpec : ChangeSpec := { name := "fnLastWait", vars := ["loop.example/telemetryagent/impl.waits"], fn := fun _ => fun
  | [d, g1] => { results := [.lit (.bool true)], args := [d], vars := [g1] }
  | _ => none }
def fnLastWaitRow : OpenClaim := { program := "ytdbmglhoohgniaadoor", sum := "587d761fd3bddd49a5beb3c54f3da87592801bbad3558a0e6a104fd30054142e", func := "loop.example/telemetryagent/laws.FnLastWait", spec := "fnLastWait", named := ["loop.example/telemetryagent/impl.waits"], apart := false, laid := [("loop.example/telemetryagent/impl.waits", laid_loop_example_telemetryagent_impl_waits)] }
def FnLastWaitSaid : Prop := fnLastWaitRow.holds Tryd.pinned (OpenSpec.ofChange fnLastWaitSpec)

/-- ITS FALSE NEIGHBOUR: 'it returns false'. Refute it at one input. -/
def fnLastWaitWrong : ChangeSpec := { name := "fnLastWait", vars := ["loop.example/telemetryagent/impl.waits"], fn := fun _ => fun
  | [d, g1] => { results := [.lit (.bool false)], args := [d], vars := [g1] }
  | _ => none }
def FnLastWaitWrongFalsely : Prop := fnLastWaitRow.holds Tryd.pinned (OpenSpec.ofChange fnLastWaitWrong)

/-- 'laws.FnTryTimeBatch': WHATEVER THE INPUT: true; the input reads as it did. -/
def fnTryTimeBatchSpec : ChangeSpec := { name := "fnTryTimeBatch", vars := ["loop.example/telemetryagent/impl.waits"], fn := fun _ => fun
  | [d, g1] => { results := [.lit (.bool true)], args := [d], vars := [g1] }
  | _ => none }
def fnTryTimeBatchRow : OpenClaim := { program := "ytdbmglhoohgniaadoor", sum := "587d761fd3bddd49a5beb3c54f3da87592801bbad3558a0e6a104fd30054142e", func := "loop.example/telemetryagent/laws.FnTryTimeBatch", spec := "fnTryTimeBatch", named := ["loop.example/telemetryagent/impl.waits"], apart := false, laid := [("loop.example/telemetryagent/impl.waits", laid_loop_example_telemetryagent_impl_waits)] }
def FnTryTimeBatchSaid : Prop := fnTryTimeBatchRow.holds Tryd.pinned (OpenSpec.ofChange fnTryTimeBatchSpec)

/-- ITS FALSE NEIGHBOUR: 'it returns false'. Refute it at one input. -/
def fnTryTimeBatchWrong : ChangeSpec := { name := "fnTryTimeBatch", vars := ["loop.example/telemetryagent/impl.waits"], fn := fun _ => fun
  | [d, g1] => { results := [.lit (.bool false)], args := [d], vars := [g1] }
  | _ => none }
def FnTryTimeBatchWrongFalsely : Prop := fnTryTimeBatchRow.holds Tryd.pinned (OpenSpec.ofChange fnTryTimeBatchWrong)

/-- 'laws.FnTryTimesShort': WHATEVER THE INPUT: true; the input reads as it did. -/
def fnTryTimesShortSpec : ChangeSpec := { name := "fnTryTimesShort", vars := ["loop.example/telemetryagent/impl.waits"], fn := fun _ => fun
  | [d, g1] => { results := [.lit (.bool true)], args := [d], vars := [g1] }
  | _ => none }
def fnTryTimesShortRow : OpenClaim := { program := "ytdbmglhoohgniaadoor", sum := "587d761fd3bddd49a5beb3c54f3da87592801bbad3558a0e6a104fd30054142e", func := "loop.example/telemetryagent/laws.FnTryTimesShort", spec := "fnTryTimesShort", named := ["loop.example/telemetryagent/impl.waits"], apart := false, laid := [("loop.example/telemetryagent/impl.waits", laid_loop_example_telemetryagent_impl_waits)] }
def FnTryTimesShortSaid : Prop := fnTryTimesShortRow.holds Tryd.pinned (OpenSpec.ofChange fnTryTimesShortSpec)

/-- ITS FALSE NEIGHBOUR: 'it returns false'. Refute it at one input. -/
def fnTryTimesShortWrong : ChangeSpec := { name := "fnTryTimesShort", vars := ["loop.example/telemetryagent/impl.waits"], fn := fun _ => fun
  | [d, g1] => { results := [.lit (.bool false)], args := [d], vars := [g1] }
  | _ => none }
def FnTryTimesShortWrongFalsely : Prop := fnTryTimesShortRow.holds Tryd.pinned (OpenSpec.ofChange fnTryTimesShortWrong)

/- THE SECOND FORM. 'bulk': how many values and letters a reading holds, each counted each time it is reached (what is shared counts as often as it is met; a slice's spare places count too). A statement '..UptoSaid' is the law's where the arguments, and the package variables that the reading takes, are together of bulk at most 1048576: NARROWER than '..Said'. Prove '..Said' where nothing that the law and all that it calls make is longer than what came in: it says more and counts as full. Else prove '..UptoSaid'. A law counts once. -/
mutual
def uptoBulk {H : Type} : DataW H → Nat
  | .lit (.string bytes) => bytes.length + 1
  | .lit _ => 1
  | .nil => 1
  | .ptr d => uptoBulk d + 1
  | .slice elems spare => uptoBulkAll elems + uptoBulkAll spare + 1
  | .agg parts => uptoBulkAll parts + 1
  | .iface _ d => uptoBulk d + 1
  | .map entries => uptoBulkEntries entries + 1
  | .held _ => 1
def uptoBulkAll {H : Type} : List (DataW H) → Nat
  | [] => 0
  | d :: r => uptoBulk d + uptoBulkAll r
def uptoBulkEntries {H : Type} : List (Lit × DataW H) → Nat
  | [] => 0
  | x :: r => uptoBulkEntry x + uptoBulkEntries r
def uptoBulkEntry {H : Type} : Lit × DataW H → Nat
  | (.string bytes, d) => bytes.length + uptoBulk d + 1
  | (_, d) => uptoBulk d + 1
 end
def uptoSmall : (H : Type) → List (DataW H) → Bool := fun _ ds => decide (uptoBulkAll ds ≤ 1048576)
def OpenSpec.upto (s : _root_.Go.ChangeSpec) : _root_.Go.OpenSpec := { _root_.Go.OpenSpec.ofChange s with cond := some uptoSmall }

/-- 'laws.FnExactBackoffOf', WHERE WHAT IT READS IS OF BULK AT MOST 1048576: true; the input reads as it did. -/
def fnExactBackoffOfUptoRow : OpenClaim := { program := "ytdbmglhoohgniaadoor", sum := "587d761fd3bddd49a5beb3c54f3da87592801bbad3558a0e6a104fd30054142e", func := "loop.example/telemetryagent/laws.FnExactBackoffOf", spec := "fnExactBackoffOf", named := ["loop.example/telemetryagent/impl.waits"], apart := false, laid := [("loop.example/telemetryagent/impl.waits", laid_loop_example_telemetryagent_impl_waits)], narrowed := true }
def FnExactBackoffOfUptoSaid : Prop := fnExactBackoffOfUptoRow.holds Tryd.pinned (OpenSpec.upto fnExactBackoffOfSpec)

/-- 'laws.FnExactTryTime', WHERE WHAT IT READS IS OF BULK AT MOST 1048576: true; the input reads as it did. -/
def fnExactTryTimeUptoRow : OpenClaim := { program := "ytdbmglhoohgniaadoor", sum := "587d761fd3bddd49a5beb3c54f3da87592801bbad3558a0e6a104fd30054142e", func := "loop.example/telemetryagent/laws.FnExactTryTime", spec := "fnExactTryTime", named := ["loop.example/telemetryagent/impl.waits"], apart := false, laid := [("loop.example/telemetryagent/impl.waits", laid_loop_example_telemetryagent_impl_waits)], narrowed := true }
def FnExactTryTimeUptoSaid : Prop := fnExactTryTimeUptoRow.holds Tryd.pinned (OpenSpec.upto fnExactTryTimeSpec)

/-- 'laws.FnExactTryTimes', WHERE WHAT IT READS IS OF BULK AT MOST 1048576: true; the input reads as it did. -/
def fnExactTryTimesUptoRow : OpenClaim := { program := "ytdbmglhoohgniaadoor", sum := "587d761fd3bddd49a5beb3c54f3da87592801bbad3558a0e6a104fd30054142e", func := "loop.example/telemetryagent/laws.FnExactTryTimes", spec := "fnExactTryTimes", named := ["loop.example/telemetryagent/impl.waits"], apart := false, laid := [("loop.example/telemetryagent/impl.waits", laid_loop_example_telemetryagent_impl_waits)], narrowed := true }
def FnExactTryTimesUptoSaid : Prop := fnExactTryTimesUptoRow.holds Tryd.pinned (OpenSpec.upto fnExactTryTimesSpec)

/-- 'laws.FnExactLastWait', WHERE WHAT IT READS IS OF BULK AT MOST 1048576: true; the input reads as it did. -/
def fnExactLastWaitUptoRow : OpenClaim := { program := "ytdbmglhoohgniaadoor", sum := "587d761fd3bddd49a5beb3c54f3da87592801bbad3558a0e6a104fd30054142e", func := "loop.example/telemetryagent/laws.FnExactLastWait", spec := "fnExactLastWait", named := ["loop.example/telemetryagent/impl.waits"], apart := false, laid := [("loop.example/telemetryagent/impl.waits", laid_loop_example_telemetryagent_impl_waits)], narrowed := true }
def FnExactLastWaitUptoSaid : Prop := fnExactLastWaitUptoRow.holds Tryd.pinned (OpenSpec.upto fnExactLastWaitSpec)

/-- 'laws.FnBackoffOf', WHERE WHAT IT READS IS OF BULK AT MOST 1048576: true; the input reads as it did. -/
def fnBackoffOfUptoRow : OpenClaim := { program := "ytdbmglhoohgniaadoor", sum := "587d761fd3bddd49a5beb3c54f3da87592801bbad3558a0e6a104fd30054142e", func := "loop.example/telemetryagent/laws.FnBackoffOf", spec := "fnBackoffOf", named := ["loop.example/telemetryagent/impl.waits"], apart := false, laid := [("loop.example/telemetryagent/impl.waits", laid_loop_example_telemetryagent_impl_waits)], narrowed := true }
def FnBackoffOfUptoSaid : Prop := fnBackoffOfUptoRow.holds Tryd.pinned (OpenSpec.upto fnBackoffOfSpec)

/-- 'laws.FnBackoffOfBound', WHERE WHAT IT READS IS OF BULK AT MOST 1048576: true; the input reads as it did. -/
def fnBackoffOfBoundUptoRow : OpenClaim := { program := "ytdbmglhoohgniaadoor", sum := "587d761fd3bddd49a5beb3c54f3da87592801bbad3558a0e6a104fd30054142e", func := "loop.example/telemetryagent/laws.FnBackoffOfBound", spec := "fnBackoffOfBound", named := ["loop.example/telemetryagent/impl.waits"], apart := false, laid := [("loop.example/telemetryagent/impl.waits", laid_loop_example_telemetryagent_impl_waits)], narrowed := true }
def FnBackoffOfBoundUptoSaid : Prop := fnBackoffOfBoundUptoRow.holds Tryd.pinned (OpenSpec.upto fnBackoffOfBoundSpec)

/-- 'laws.FnTryTime', WHERE WHAT IT READS IS OF BULK AT MOST 1048576: true; the input reads as it did. -/
def fnTryTimeUptoRow : OpenClaim := { program := "ytdbmglhoohgniaadoor", sum := "587d761fd3bddd49a5beb3c54f3da87592801bbad3558a0e6a104fd30054142e", func := "loop.example/telemetryagent/laws.FnTryTime", spec := "fnTryTime", named := ["loop.example/telemetryagent/impl.waits"], apart := false, laid := [("loop.example/telemetryagent/impl.waits", laid_loop_example_telemetryagent_impl_waits)], narrowed := true }
def FnTryTimeUptoSaid : Prop := fnTryTimeUptoRow.holds Tryd.pinned (OpenSpec.upto fnTryTimeSpec)

/-- 'laws.FnTryTimeMove', WHERE WHAT IT READS IS OF BULK AT MOST 1048576: true; the input reads as it did. -/
def fnTryTimeMoveUptoRow : OpenClaim := { program := "ytdbmglhoohgniaadoor", sum := "587d761fd3bddd49a5beb3c54f3da87592801bbad3558a0e6a104fd30054142e", func := "loop.example/telemetryagent/laws.FnTryTimeMove", spec := "fnTryTimeMove", named := ["loop.example/telemetryagent/impl.waits"], apart := false, laid := [("loop.example/telemetryagent/impl.waits", laid_loop_example_telemetryagent_impl_waits)], narrowed := true }
def FnTryTimeMoveUptoSaid : Prop := fnTryTimeMoveUptoRow.holds Tryd.pinned (OpenSpec.upto fnTryTimeMoveSpec)

/-- 'laws.FnTryTimes', WHERE WHAT IT READS IS OF BULK AT MOST 1048576: true; the input reads as it did. -/
def fnTryTimesUptoRow : OpenClaim := { program := "ytdbmglhoohgniaadoor", sum := "587d761fd3bddd49a5beb3c54f3da87592801bbad3558a0e6a104fd30054142e", func := "loop.example/telemetryagent/laws.FnTryTimes", spec := "fnTryTimes", named := ["loop.example/telemetryagent/impl.waits"], apart := false, laid := [("loop.example/telemetryagent/impl.waits", laid_loop_example_telemetryagent_impl_waits)], narrowed := true }
def FnTryTimesUptoSaid : Prop := fnTryTimesUptoRow.holds Tryd.pinned (OpenSpec.upto fnTryTimesSpec)

/-- 'laws.FnTryTimesLast', WHERE WHAT IT READS IS OF BULK AT MOST 1048576: true; the input reads as it did. -/
def fnTryTimesLastUptoRow : OpenClaim := { program := "ytdbmglhoohgniaadoor", sum := "587d761fd3bddd49a5beb3c54f3da87592801bbad3558a0e6a104fd30054142e", func := "loop.example/telemetryagent/laws.FnTryTimesLast", spec := "fnTryTimesLast", named := ["loop.example/telemetryagent/impl.waits"], apart := false, laid := [("loop.example/telemetryagent/impl.waits", laid_loop_example_telemetryagent_impl_waits)], narrowed := true }
def FnTryTimesLastUptoSaid : Prop := fnTryTimesLastUptoRow.holds Tryd.pinned (OpenSpec.upto fnTryTimesLastSpec)

/-- 'laws.FnLastWait', WHERE WHAT IT READS IS OF BULK AT MOST 1048576: true; the input reads as it did. -/
def fnLastWaitUptoRow : OpenClaim := { program := "ytdbmglhoohgniaadoor", sum := "587d761fd3bddd49a5beb3c54f3da87592801bbad3558a0e6a104fd30054142e", func := "loop.example/telemetryagent/laws.FnLastWait", spec := "fnLastWait", named := ["loop.example/telemetryagent/impl.waits"], apart := false, laid := [("loop.example/telemetryagent/impl.waits", laid_loop_example_telemetryagent_impl_waits)], narrowed := true }
def FnLastWaitUptoSaid : Prop := fnLastWaitUptoRow.holds Tryd.pinned (OpenSpec.upto fnLastWaitSpec)

/-- 'laws.FnTryTimeBatch', WHERE WHAT IT READS IS OF BULK AT MOST 1048576: true; the input reads as it did. -/
def fnTryTimeBatchUptoRow : OpenClaim := { program := "ytdbmglhoohgniaadoor", sum := "587d761fd3bddd49a5beb3c54f3da87592801bbad3558a0e6a104fd30054142e", func := "loop.example/telemetryagent/laws.FnTryTimeBatch", spec := "fnTryTimeBatch", named := ["loop.example/telemetryagent/impl.waits"], apart := false, laid := [("loop.example/telemetryagent/impl.waits", laid_loop_example_telemetryagent_impl_waits)], narrowed := true }
def FnTryTimeBatchUptoSaid : Prop := fnTryTimeBatchUptoRow.holds Tryd.pinned (OpenSpec.upto fnTryTimeBatchSpec)

/-- 'laws.FnTryTimesShort', WHERE WHAT IT READS IS OF BULK AT MOST 1048576: true; the input reads as it did. -/
def fnTryTimesShortUptoRow : OpenClaim := { program := "ytdbmglhoohgniaadoor", sum := "587d761fd3bddd49a5beb3c54f3da87592801bbad3558a0e6a104fd30054142e", func := "loop.example/telemetryagent/laws.FnTryTimesShort", spec := "fnTryTimesShort", named := ["loop.example/telemetryagent/impl.waits"], apart := false, laid := [("loop.example/telemetryagent/impl.waits", laid_loop_example_telemetryagent_impl_waits)], narrowed := true }
def FnTryTimesShortUptoSaid : Prop := fnTryTimesShortUptoRow.holds Tryd.pinned (OpenSpec.upto fnTryTimesShortSpec)

end Rows
end Go.Proofs.YtdbmglhoohgniaaDoor
