/-
  NARROWER THAN 'FOR EVERY INPUT', by the rows' own cells (each row's printed sentence says how): FnExactNextHealth: laid · FnExactHealthPath: laid · FnExactCountTurns: laid · FnNextHealth: laid · FnNextHealthTwice: laid · FnNextHealthStay: laid · FnHealthPath: laid · FnHealthPathShort: laid · FnHealthPathLow: laid · FnCountTurns: laid · FnCountTurnsMore: laid.
  DERIVED. THE GIVEN ROWS OF THIS SEAT. 11 by the template 'for every input the law returns true; each argument reads behind the call as it read before'; 0 by the template 'total and deterministic' (their statements: YtdbfccfckinjmaaDoorTotals.lean).
  GIVEN WITH THE SEED: the statements are not yours to turn. If you find one false, say at which input.
  Laid BY PROGRAM, IN A SANDBOX (cutbox-rows.mjs): the forced cells as the released guide's own fill.sh prints them over the translation 5e81192ddf23abf2… (all of the seat's roots in one cut). By AI agents, Wed Nov 11 2026. No macro, syntax, notation, axiom, sorry.
-/
import Derived.Test.YtdbfccfckinjmaaDoorChecked
import GoSem.Claim
import GoSem.ClaimJoined
import GoSem.ClaimMapViews
import Derived.JoinedTies
import Derived.KernelRfl
namespace Go.Proofs.YtdbfccfckinjmaaDoor
/- THE CELL 'sum', in the pinned program and in every row, IS THE sha256 OF THE DUMP (.gsa) THAT YtdbfccfckinjmaaDoorProg.lean LOADS. Nothing in Lean hashes anything: it is a label: what it is worth is what the hold of that sum in a sandbox is worth. -/
noncomputable def Tryd.pinned : Pinned := { name := "ytdbfccfckinjmaadoor", sum := "5e81192ddf23abf201ef2111414375ef99651d0927499e2498099636cadcfd46", checked := Tryd.checked }
namespace Rows
def none {H : Type} : Left H := { results := [], args := [] }

/- WHAT THE LISTED PACKAGE-LEVEL VARIABLES READ AS WHEN THE CALL BEGINS. Each datum BY PROGRAM (the guide's laid-datum.mjs) off the statement by which the dump's own 'gosem.cut.vars' lays the variable. In a bare row this is a premise. The card (YtdbfccfckinjmaaDoorCards.lean) ties it to the program's text. -/
def laid_loop_example_telemetryagent_impl_healthAfter {H : Type} : DataW H := .agg [.agg [.lit (.int .i64 0), .lit (.int .i64 0), .lit (.int .i64 1), .lit (.int .i64 1), .lit (.int .i64 2)], .agg [.lit (.int .i64 0), .lit (.int .i64 1), .lit (.int .i64 1), .lit (.int .i64 1), .lit (.int .i64 2)], .agg [.lit (.int .i64 0), .lit (.int .i64 1), .lit (.int .i64 1), .lit (.int .i64 2), .lit (.int .i64 2)]]

/-- 'laws.FnExactNextHealth': WHATEVER THE INPUT: true; the input reads as it did. -/
def fnExactNextHealthSpec : ChangeSpec := { name := "fnExactNextHealth", vars := ["loop.example/telemetryagent/impl.healthAfter"], fn := fun _ => fun
  | [d1, d2, d3, g1] => { results := [.lit (.bool true)], args := [d1, d2, d3], vars := [g1] }
  | _ => none }
def fnExactNextHealthRow : OpenClaim := { program := "ytdbfccfckinjmaadoor", sum := "5e81192ddf23abf201ef2111414375ef99651d0927499e2498099636cadcfd46", func := "loop.example/telemetryagent/laws.FnExactNextHealth", spec := "fnExactNextHealth", named := ["loop.example/telemetryagent/impl.healthAfter"], apart := false, laid := [("loop.example/telemetryagent/impl.healthAfter", laid_loop_example_telemetryagent_impl_healthAfter)] }
def FnExactNextHealthSaid : Prop := fnExactNextHealthRow.holds Tryd.pinned (OpenSpec.ofChange fnExactNextHealthSpec)

/-- ITS FALSE NEIGHBOUR: 'it returns false'. Refute it at one input. -/
def fnExactNextHealthWrong : ChangeSpec := { name := "fnExactNextHealth", vars := ["loop.example/telemetryagent/impl.healthAfter"], fn := fun _ => fun
  | [d1, d2, d3, g1] => { results := [.lit (.bool false)], args := [d1, d2, d3], vars := [g1] }
  | _ => none }
def FnExactNextHealthWrongFalsely : Prop := fnExactNextHealthRow.holds Tryd.pinned (OpenSpec.ofChange fnExactNextHealthWrong)

/-- 'laws.FnExactHealthPath': WHATEVER THE INPUT: true; the input reads as it did. -/
def fnExactHealthPathSpec : ChangeSpec := { name := "fnExactHealthPath", vars := ["loop.example/telemetryagent/impl.healthAfter"], fn := fun _ => fun
  | [d1, d2, g1] => { results := [.lit (.bool true)], args := [d1, d2], vars := [g1] }
  | _ => none }
def fnExactHealthPathRow : OpenClaim := { program := "ytdbfccfckinjmaadoor", sum := "5e81192ddf23abf201ef2111414375ef99651d0927499e2498099636cadcfd46", func := "loop.example/telemetryagent/laws.FnExactHealthPath", spec := "fnExactHealthPath", named := ["loop.example/telemetryagent/impl.healthAfter"], apart := false, laid := [("loop.example/telemetryagent/impl.healthAfter", laid_loop_example_telemetryagent_impl_healthAfter)] }
def FnExactHealthPathSaid : Prop := fnExactHealthPathRow.holds Tryd.pinned (OpenSpec.ofChange fnExactHealthPathSpec)

/-- ITS FALSE NEIGHBOUR: 'it returns false'. Refute it at one input. -/
def fnExactHealthPathWrong : ChangeSpec := { name := "fnExactHealthPath", vars := ["loop.example/telemetryagent/impl.healthAfter"], fn := fun _ => fun
  | [d1, d2, g1] => { results := [.lit (.bool false)], args := [d1, d2], vars := [g1] }
  | _ => none }
def FnExactHealthPathWrongFalsely : Prop := fnExactHealthPathRow.holds Tryd.pinned (OpenSpec.ofChange fnExactHealthPathWrong)

/-- 'laws.FnExactCountTurns': WHATEVER THE INPUT: true; the input reads as it did. -/
def fnExactCountTurnsSpec : ChangeSpec := { name := "fnExactCountTurns", vars := ["loop.example/telemetryagent/impl.healthAfter"], fn := fun _ => fun
  | [d1, d2, g1] => { results := [.lit (.bool true)], args := [d1, d2], vars := [g1] }
  | _ => none }
def fnExactCountTurnsRow : OpenClaim := { program := "ytdbfccfckinjmaadoor", sum := "5e81192ddf23abf201ef2111414375ef99651d0927499e2498099636cadcfd46", func := "loop.example/telemetryagent/laws.FnExactCountTurns", spec := "fnExactCountTurns", named := ["loop.example/telemetryagent/impl.healthAfter"], apart := false, laid := [("loop.example/telemetryagent/impl.healthAfter", laid_loop_example_telemetryagent_impl_healthAfter)] }
def FnExactCountTurnsSaid : Prop := fnExactCountTurnsRow.holds Tryd.pinned (OpenSpec.ofChange fnExactCountTurnsSpec)

/-- ITS FALSE NEIGHBOUR: 'it returns false'. Refute it at one input. -/
def fnExactCountTurnsWrong : ChangeSpec := { name := "fnExactCountTurns", vars := ["loop.example/telemetryagent/impl.healthAfter"], fn := fun _ => fun
  | [d1, d2, g1] => { results := [.lit (.bool false)], args := [d1, d2], vars := [g1] }
  | _ => none }
def FnExactCountTurnsWrongFalsely : Prop := fnExactCountTurnsRow.holds Tryd.pinned (OpenSpec.ofChange fnExactCountTurnsWrong)

/-- 'laws.FnNextHealth': WHATEVER THE INPUT: true; the input reads as it did. -/
def fnNextHealthSpec : ChangeSpec := { name := "fnNextHealth", vars := ["loop.example/telemetryagent/impl.healthAfter"], fn := fun _ => fun
  | [d, g1] => { results := [.lit (.bool true)], args := [d], vars := [g1] }
  | _ => none }
def fnNextHealthRow : OpenClaim := { program := "ytdbfccfckinjmaadoor", sum := "5e81192ddf23abf201ef2111414375ef99651d0927499e2498099636cadcfd46", func := "loop.example/telemetryagent/laws.FnNextHealth", spec := "fnNextHealth", named := ["loop.example/telemetryagent/impl.healthAfter"], apart := false, laid := [("loop.example/telemetryagent/impl.healthAfter", laid_loop_example_telemetryagent_impl_healthAfter)] }
def FnNextHealthSaid : Prop := fnNextHealthRow.holds Tryd.pinned (OpenSpec.ofChange fnNextHealthSpec)

/-- ITS FALSE NEIGHBOUR: 'it returns false'. Refute it at one input. -/
def fnNextHealthWrong : ChangeSpec := { name := "fnNextHealth", vars := ["loop.example/telemetryagent/impl.healthAfter"], fn := fun _ => fun
  | [d, g1] => { results := [.lit (.bool false)], args := [d], vars := [g1] }
  | _ => none }
def FnNextHealthWrongFalsely : Prop := fnNextHealthRow.holds Tryd.pinned (OpenSpec.ofChange fnNextHealthWrong)

/-- 'laws.FnNextHealthTwice': WHATEVER THE INPUT: true; the input reads as it did. -/
def fnNextHealthTwiceSpec : ChangeSpec := { name := "fnNextHealthTwice", vars := ["loop.example/telemetryagent/impl.healthAfter"], fn := fun _ => fun
  | [d, g1] => { results := [.lit (.bool true)], args := [d], vars := [g1] }
  | _ => none }
def fnNextHealthTwiceRow : OpenClaim := { program := "ytdbfccfckinjmaadoor", sum := "5e81192ddf23abf201ef2111414375ef99651d0927499e2498099636cadcfd46", func := "loop.example/telemetryagent/laws.FnNextHealthTwice", spec := "fnNextHealthTwice", named := ["loop.example/telemetryagent/impl.healthAfter"], apart := false, laid := [("loop.example/telemetryagent/impl.healthAfter", laid_loop_example_telemetryagent_impl_healthAfter)] }
def FnNextHealthTwiceSaid : Prop := fnNextHealthTwiceRow.holds Tryd.pinned (OpenSpec.ofChange fnNextHealthTwiceSpec)

/-- ITS FALSE NEIGHBOUR: 'it returns false'. Refute it at one input. -/
def fnNextHealthTwiceWrong : ChangeSpec := { name := "fnNextHealthTwice", vars := ["loop.example/telemetryagent/impl.healthAfter"], fn := fun _ => fun
  | [d, g1] => { results := [.lit (.bool false)], args := [d], vars := [g1] }
  | _ => none }
def FnNextHealthTwiceWrongFalsely : Prop := fnNextHealthTwiceRow.holds Tryd.pinned (OpenSpec.ofChange fnNextHealthTwiceWrong)

/-- 'laws.FnNextHealthStay': WHATEVER THE INPUT: true; the input reads as it did. -/
def fnNextHealthStaySpec : ChangeSpec := { name := "fnNextHealthStay", vars := ["loop.example/telemetryagent/impl.healthAfter"], fn := fun _ => fun
  | [d, g1] => { results := [.lit (.bool true)], args := [d], vars := [g1] }
  | _ => none }
def fnNextHealthStayRow : OpenClaim := { program := "ytdbfccfckinjmaadoor", sum := "5e81192ddf23abf201ef2111414375ef99651d0927499e2498099636cadcfd46", func := "loop.example/telemetryagent/laws.FnNextHealthStay", spec := "fnNextHealthStay", named := ["loop.example/telemetryagent/impl.healthAfter"], apart := false, laid := [("loop.example/telemetryagent/impl.healthAfter", laid_loop_example_telemetryagent_impl_healthAfter)] }
def FnNextHealthStaySaid : Prop := fnNextHealthStayRow.holds Tryd.pinned (OpenSpec.ofChange fnNextHealthStaySpec)

/-- ITS FALSE NEIGHBOUR: 'it returns false'. Refute it at one input. -/
def fnNextHealthStayWrong : ChangeSpec := { name := "fnNextHealthStay", vars := ["loop.example/telemetryagent/impl.healthAfter"], fn := fun _ => fun
  | [d, g1] => { results := [.lit (.bool false)], args := [d], vars := [g1] }
  | _ => none }
def FnNextHealthStayWrongFalsely : Prop := fnNextHealthStayRow.holds Tryd.pinned (OpenSpec.ofChange fnNextHealthStayWrong)

/-- 'laws.FnHealthPath': WHATEVER THE INPUT: true; the input reads as it did. -/
def fnHealthPathSpec : ChangeSpec := { name := "fnHealthPath", vars := ["loop.example/telemetryagent/impl.healthAfter"], fn := fun _ => fun
  | [d, g1] => { results := [.lit (.bool true)], args := [d], vars := [g1] }
  | _ => none }
def fnHealthPathRow : OpenClaim := { program := "ytdbfccfckinjmaadoor", sum := "5e81192ddf23abf201ef2111414375ef99651d0927499e2498099636cadcfd46", func := "loop.example/telemetryagent/laws.FnHealthPath", spec := "fnHealthPath", named := ["loop.example/telemetryagent/impl.healthAfter"], apart := false, laid := [("loop.example/telemetryagent/impl.healthAfter", laid_loop_example_telemetryagent_impl_healthAfter)] }
def FnHealthPathSaid : Prop := fnHealthPathRow.holds Tryd.pinned (OpenSpec.ofChange fnHealthPathSpec)

/-- ITS FALSE NEIGHBOUR: 'it returns false'. Refute it at one input. -/
def fnHealthPathWrong : ChangeSpec := { name := "fnHealthPath", vars := ["loop.example/telemetryagent/impl.healthAfter"], fn := fun _ => fun
  | [d, g1] => { results := [.lit (.bool false)], args := [d], vars := [g1] }
  | _ => none }
def FnHealthPathWrongFalsely : Prop := fnHealthPathRow.holds Tryd.pinned (OpenSpec.ofChange fnHealthPathWrong)

/-- 'laws.FnHealthPathShort': WHATEVER THE INPUT: true; the input reads as it did. -/
def fnHealthPathShortSpec : ChangeSpec := { name := "fnHealthPathShort", vars := ["loop.example/telemetryagent/impl.healthAfter"], fn := fun _ => fun
  | [d, g1] => { results := [.lit (.bool true)], args := [d], vars := [g1] }
  | _ => none }
def fnHealthPathShortRow : OpenClaim := { program := "ytdbfccfckinjmaadoor", sum := "5e81192ddf23abf201ef2111414375ef99651d0927499e2498099636cadcfd46", func := "loop.example/telemetryagent/laws.FnHealthPathShort", spec := "fnHealthPathShort", named := ["loop.example/telemetryagent/impl.healthAfter"], apart := false, laid := [("loop.example/telemetryagent/impl.healthAfter", laid_loop_example_telemetryagent_impl_healthAfter)] }
def FnHealthPathShortSaid : Prop := fnHealthPathShortRow.holds Tryd.pinned (OpenSpec.ofChange fnHealthPathShortSpec)

/-- ITS FALSE NEIGHBOUR: 'it returns false'. Refute it at one input. -/
def fnHealthPathShortWrong : ChangeSpec := { name := "fnHealthPathShort", vars := ["loop.example/telemetryagent/impl.healthAfter"], fn := fun _ => fun
  | [d, g1] => { results := [.lit (.bool false)], args := [d], vars := [g1] }
  | _ => none }
def FnHealthPathShortWrongFalsely : Prop := fnHealthPathShortRow.holds Tryd.pinned (OpenSpec.ofChange fnHealthPathShortWrong)

/-- 'laws.FnHealthPathLow': WHATEVER THE INPUT: true; the input reads as it did. -/
def fnHealthPathLowSpec : ChangeSpec := { name := "fnHealthPathLow", vars := ["loop.example/telemetryagent/impl.healthAfter"], fn := fun _ => fun
  | [d, g1] => { results := [.lit (.bool true)], args := [d], vars := [g1] }
  | _ => none }
def fnHealthPathLowRow : OpenClaim := { program := "ytdbfccfckinjmaadoor", sum := "5e81192ddf23abf201ef2111414375ef99651d0927499e2498099636cadcfd46", func := "loop.example/telemetryagent/laws.FnHealthPathLow", spec := "fnHealthPathLow", named := ["loop.example/telemetryagent/impl.healthAfter"], apart := false, laid := [("loop.example/telemetryagent/impl.healthAfter", laid_loop_example_telemetryagent_impl_healthAfter)] }
def FnHealthPathLowSaid : Prop := fnHealthPathLowRow.holds Tryd.pinned (OpenSpec.ofChange fnHealthPathLowSpec)

/-- ITS FALSE NEIGHBOUR: 'it returns false'. Refute it at one input. -/
def fnHealthPathLowWrong : ChangeSpec := { name := "fnHealthPathLow", vars := ["loop.example/telemetryagent/impl.healthAfter"], fn := fun _ => fun
  | [d, g1] => { results := [.lit (.bool false)], args := [d], vars := [g1] }
  | _ => none }
def FnHealthPathLowWrongFalsely : Prop := fnHealthPathLowRow.holds Tryd.pinned (OpenSpec.ofChange fnHealthPathLowWrong)

/-- 'laws.FnCountTurns': WHATEVER THE INPUT: true; the input reads as it did. -/
def fnCountTurnsSpec : ChangeSpec := { name := "fnCountTurns", vars := ["loop.example/telemetryagent/impl.healthAfter"], fn := fun _ => fun
  | [d, g1] => { results := [.lit (.bool true)], args := [d], vars := [g1] }
  | _ => none }
def fnCountTurnsRow : OpenClaim := { program := "ytdbfccfckinjmaadoor", sum := "5e81192ddf23abf201ef2111414375ef99651d0927499e2498099636cadcfd46", func := "loop.example/telemetryagent/laws.FnCountTurns", spec := "fnCountTurns", named := ["loop.example/telemetryagent/impl.healthAfter"], apart := false, laid := [("loop.example/telemetryagent/impl.healthAfter", laid_loop_example_telemetryagent_impl_healthAfter)] }
def FnCountTurnsSaid : Prop := fnCountTurnsRow.holds Tryd.pinned (OpenSpec.ofChange fnCountTurnsSpec)

/-- ITS FALSE NEIGHBOUR: 'it returns false'. Refute it at one input. -/
def fnCountTurnsWrong : ChangeSpec := { name := "fnCountTurns", vars := ["loop.example/telemetryagent/impl.healthAfter"], fn := fun _ => fun
  | [d, g1] => { results := [.lit (.bool false)], args := [d], vars := [g1] }
  | _ => none }
def FnCountTurnsWrongFalsely : Prop := fnCountTurnsRow.holds Tryd.pinned (OpenSpec.ofChange fnCountTurnsWrong)

/-- 'laws.FnCountTurnsMore': WHATEVER THE INPUT: true; the input reads as it did. -/
def fnCountTurnsMoreSpec : ChangeSpec := { name := "fnCountTurnsMore", vars := ["loop.example/telemetryagent/impl.healthAfter"], fn := fun _ => fun
  | [d, g1] => { results := [.lit (.bool true)], args := [d], vars := [g1] }
  | _ => none }
def fnCountTurnsMoreRow : OpenClaim := { program := "ytdbfccfckinjmaadoor", sum := "5e81192ddf23abf201ef2111414375ef99651d0927499e2498099636cadcfd46", func := "loop.example/telemetryagent/laws.FnCountTurnsMore", spec := "fnCountTurnsMore", named := ["loop.example/telemetryagent/impl.healthAfter"], apart := false, laid := [("loop.example/telemetryagent/impl.healthAfter", laid_loop_example_telemetryagent_impl_healthAfter)] }
def FnCountTurnsMoreSaid : Prop := fnCountTurnsMoreRow.holds Tryd.pinned (OpenSpec.ofChange fnCountTurnsMoreSpec)

/-- ITS FALSE NEIGHBOUR: 'it returns false'. Refute it at one input. -/
def fnCountTurnsMoreWrong : ChangeSpec := { name := "fnCountTurnsMore", vars := ["loop.example/telemetryagent/impl.healthAfter"], fn := fun _ => fun
  | [d, g1] => { results := [.lit (.bool false)], args := [d], vars := [g1] }
  | _ => none }
def FnCountTurnsMoreWrongFalsely : Prop := fnCountTurnsMoreRow.holds Tryd.pinned (OpenSpec.ofChange fnCountTurnsMoreWrong)

/- THE SECOND FORM. 'bulk': how many values and letters a reading holds, each counted each time it is reached (what is shared counts as often as it is met; a slice's spare places count too). A statement '..UptoSaid' is the law's where the arguments, and the package variables that the reading takes, are together of bulk at most 1048576: NARROWER than '..Said'. Prove '..Said' where nothing that the law and all that it calls make is longer than what came in: it says more and counts as full. Else prove '..UptoSaid'. A law counts once. -/
mutual
def uptoBulk {H : Type} : DataW H → Nat
  | .lit (.string bytes) => bytes.length + 1
  | .lit _ => 1
  | .nil => 1
  | .ptr d => uptoBulk d + 1
  | .slice elems spare => uptoBulkAll elems + uptoBulkAll spare + 1
  | .agg parts => uptoBulkAll parts + 1
  | .iface _ d => uptoBulk d + 1
  | .map entries => uptoBulkEntries entries + 1
  | .held _ => 1
def uptoBulkAll {H : Type} : List (DataW H) → Nat
  | [] => 0
  | d :: r => uptoBulk d + uptoBulkAll r
def uptoBulkEntries {H : Type} : List (Lit × DataW H) → Nat
  | [] => 0
  | x :: r => uptoBulkEntry x + uptoBulkEntries r
def uptoBulkEntry {H : Type} : Lit × DataW H → Nat
  | (.string bytes, d) => bytes.length + uptoBulk d + 1
  | (_, d) => uptoBulk d + 1
 end
def uptoSmall : (H : Type) → List (DataW H) → Bool := fun _ ds => decide (uptoBulkAll ds ≤ 1048576)
def OpenSpec.upto (s : _root_.Go.ChangeSpec) : _root_.Go.OpenSpec := { _root_.Go.OpenSpec.ofChange s with cond := some uptoSmall }

/-- 'laws.FnExactNextHealth', WHERE WHAT IT READS IS OF BULK AT MOST 1048576: true; the input reads as it did. -/
def fnExactNextHealthUptoRow : OpenClaim := { program := "ytdbfccfckinjmaadoor", sum := "5e81192ddf23abf201ef2111414375ef99651d0927499e2498099636cadcfd46", func := "loop.example/telemetryagent/laws.FnExactNextHealth", spec := "fnExactNextHealth", named := ["loop.example/telemetryagent/impl.healthAfter"], apart := false, laid := [("loop.example/telemetryagent/impl.healthAfter", laid_loop_example_telemetryagent_impl_healthAfter)], narrowed := true }
def FnExactNextHealthUptoSaid : Prop := fnExactNextHealthUptoRow.holds Tryd.pinned (OpenSpec.upto fnExactNextHealthSpec)

/-- 'laws.FnExactHealthPath', WHERE WHAT IT READS IS OF BULK AT MOST 1048576: true; the input reads as it did. -/
def fnExactHealthPathUptoRow : OpenClaim := { program := "ytdbfccfckinjmaadoor", sum := "5e81192ddf23abf201ef2111414375ef99651d0927499e2498099636cadcfd46", func := "loop.example/telemetryagent/laws.FnExactHealthPath", spec := "fnExactHealthPath", named := ["loop.example/telemetryagent/impl.healthAfter"], apart := false, laid := [("loop.example/telemetryagent/impl.healthAfter", laid_loop_example_telemetryagent_impl_healthAfter)], narrowed := true }
def FnExactHealthPathUptoSaid : Prop := fnExactHealthPathUptoRow.holds Tryd.pinned (OpenSpec.upto fnExactHealthPathSpec)

/-- 'laws.FnExactCountTurns', WHERE WHAT IT READS IS OF BULK AT MOST 1048576: true; the input reads as it did. -/
def fnExactCountTurnsUptoRow : OpenClaim := { program := "ytdbfccfckinjmaadoor", sum := "5e81192ddf23abf201ef2111414375ef99651d0927499e2498099636cadcfd46", func := "loop.example/telemetryagent/laws.FnExactCountTurns", spec := "fnExactCountTurns", named := ["loop.example/telemetryagent/impl.healthAfter"], apart := false, laid := [("loop.example/telemetryagent/impl.healthAfter", laid_loop_example_telemetryagent_impl_healthAfter)], narrowed := true }
def FnExactCountTurnsUptoSaid : Prop := fnExactCountTurnsUptoRow.holds Tryd.pinned (OpenSpec.upto fnExactCountTurnsSpec)

/-- 'laws.FnNextHealth', WHERE WHAT IT READS IS OF BULK AT MOST 1048576: true; the input reads as it did. -/
def fnNextHealthUptoRow : OpenClaim := { program := "ytdbfccfckinjmaadoor", sum := "5e81192ddf23abf201ef2111414375ef99651d0927499e2498099636cadcfd46", func := "loop.example/telemetryagent/laws.FnNextHealth", spec := "fnNextHealth", named := ["loop.example/telemetryagent/impl.healthAfter"], apart := false, laid := [("loop.example/telemetryagent/impl.healthAfter", laid_loop_example_telemetryagent_impl_healthAfter)], narrowed := true }
def FnNextHealthUptoSaid : Prop := fnNextHealthUptoRow.holds Tryd.pinned (OpenSpec.upto fnNextHealthSpec)

/-- 'laws.FnNextHealthTwice', WHERE WHAT IT READS IS OF BULK AT MOST 1048576: true; the input reads as it did. -/
def fnNextHealthTwiceUptoRow : OpenClaim := { program := "ytdbfccfckinjmaadoor", sum := "5e81192ddf23abf201ef2111414375ef99651d0927499e2498099636cadcfd46", func := "loop.example/telemetryagent/laws.FnNextHealthTwice", spec := "fnNextHealthTwice", named := ["loop.example/telemetryagent/impl.healthAfter"], apart := false, laid := [("loop.example/telemetryagent/impl.healthAfter", laid_loop_example_telemetryagent_impl_healthAfter)], narrowed := true }
def FnNextHealthTwiceUptoSaid : Prop := fnNextHealthTwiceUptoRow.holds Tryd.pinned (OpenSpec.upto fnNextHealthTwiceSpec)

/-- 'laws.FnNextHealthStay', WHERE WHAT IT READS IS OF BULK AT MOST 1048576: true; the input reads as it did. -/
def fnNextHealthStayUptoRow : OpenClaim := { program := "ytdbfccfckinjmaadoor", sum := "5e81192ddf23abf201ef2111414375ef99651d0927499e2498099636cadcfd46", func := "loop.example/telemetryagent/laws.FnNextHealthStay", spec := "fnNextHealthStay", named := ["loop.example/telemetryagent/impl.healthAfter"], apart := false, laid := [("loop.example/telemetryagent/impl.healthAfter", laid_loop_example_telemetryagent_impl_healthAfter)], narrowed := true }
def FnNextHealthStayUptoSaid : Prop := fnNextHealthStayUptoRow.holds Tryd.pinned (OpenSpec.upto fnNextHealthStaySpec)

/-- 'laws.FnHealthPath', WHERE WHAT IT READS IS OF BULK AT MOST 1048576: true; the input reads as it did. -/
def fnHealthPathUptoRow : OpenClaim := { program := "ytdbfccfckinjmaadoor", sum := "5e81192ddf23abf201ef2111414375ef99651d0927499e2498099636cadcfd46", func := "loop.example/telemetryagent/laws.FnHealthPath", spec := "fnHealthPath", named := ["loop.example/telemetryagent/impl.healthAfter"], apart := false, laid := [("loop.example/telemetryagent/impl.healthAfter", laid_loop_example_telemetryagent_impl_healthAfter)], narrowed := true }
def FnHealthPathUptoSaid : Prop := fnHealthPathUptoRow.holds Tryd.pinned (OpenSpec.upto fnHealthPathSpec)

/-- 'laws.FnHealthPathShort', WHERE WHAT IT READS IS OF BULK AT MOST 1048576: true; the input reads as it did. -/
def fnHealthPathShortUptoRow : OpenClaim := { program := "ytdbfccfckinjmaadoor", sum := "5e81192ddf23abf201ef2111414375ef99651d0927499e2498099636cadcfd46", func := "loop.example/telemetryagent/laws.FnHealthPathShort", spec := "fnHealthPathShort", named := ["loop.example/telemetryagent/impl.healthAfter"], apart := false, laid := [("loop.example/telemetryagent/impl.healthAfter", laid_loop_example_telemetryagent_impl_healthAfter)], narrowed := true }
def FnHealthPathShortUptoSaid : Prop := fnHealthPathShortUptoRow.holds Tryd.pinned (OpenSpec.upto fnHealthPathShortSpec)

/-- 'laws.FnHealthPathLow', WHERE WHAT IT READS IS OF BULK AT MOST 1048576: true; the input reads as it did. -/
def fnHealthPathLowUptoRow : OpenClaim := { program := "ytdbfccfckinjmaadoor", sum := "5e81192ddf23abf201ef2111414375ef99651d0927499e2498099636cadcfd46", func := "loop.example/telemetryagent/laws.FnHealthPathLow", spec := "fnHealthPathLow", named := ["loop.example/telemetryagent/impl.healthAfter"], apart := false, laid := [("loop.example/telemetryagent/impl.healthAfter", laid_loop_example_telemetryagent_impl_healthAfter)], narrowed := true }
def FnHealthPathLowUptoSaid : Prop := fnHealthPathLowUptoRow.holds Tryd.pinned (OpenSpec.upto fnHealthPathLowSpec)

/-- 'laws.FnCountTurns', WHERE WHAT IT READS IS OF BULK AT MOST 1048576: true; the input reads as it did. -/
def fnCountTurnsUptoRow : OpenClaim := { program := "ytdbfccfckinjmaadoor", sum := "5e81192ddf23abf201ef2111414375ef99651d0927499e2498099636cadcfd46", func := "loop.example/telemetryagent/laws.FnCountTurns", spec := "fnCountTurns", named := ["loop.example/telemetryagent/impl.healthAfter"], apart := false, laid := [("loop.example/telemetryagent/impl.healthAfter", laid_loop_example_telemetryagent_impl_healthAfter)], narrowed := true }
def FnCountTurnsUptoSaid : Prop := fnCountTurnsUptoRow.holds Tryd.pinned (OpenSpec.upto fnCountTurnsSpec)

/-- 'laws.FnCountTurnsMore', WHERE WHAT IT READS IS OF BULK AT MOST 1048576: true; the input reads as it did. -/
def fnCountTurnsMoreUptoRow : OpenClaim := { program := "ytdbfccfckinjmaadoor", sum := "5e81192ddf23abf201ef2111414375ef99651d0927499e2498099636cadcfd46", func := "loop.example/telemetryagent/laws.FnCountTurnsMore", spec := "fnCountTurnsMore", named := ["loop.example/telemetryagent/impl.healthAfter"], apart := false, laid := [("loop.example/telemetryagent/impl.healthAfter", laid_loop_example_telemetryagent_impl_healthAfter)], narrowed := true }
def FnCountTurnsMoreUptoSaid : Prop := fnCountTurnsMoreUptoRow.holds Tryd.pinned (OpenSpec.upto fnCountTurnsMoreSpec)

end Rows
end Go.Proofs.YtdbfccfckinjmaaDoor
