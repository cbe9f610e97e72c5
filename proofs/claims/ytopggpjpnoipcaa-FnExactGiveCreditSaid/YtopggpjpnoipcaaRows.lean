/-
  No cell of these rows narrows 'for every input' (looked for: loops, veiled, ifaces, maps, wideKeys, modest, calm, conditions, laid).
  DERIVED. THE GIVEN ROWS OF THIS SEAT. 5 by the template 'for every input the law returns true; each argument reads behind the call as it read before'; 0 by the template 'total and deterministic' (their statements: YtopggpjpnoipcaaTotals.lean).
  GIVEN WITH THE SEED: the statements are not yours to turn. If you find one false, say at which input.
  Laid BY PROGRAM, IN A SANDBOX (cutbox-rows.mjs): the forced cells as the released guide's own fill.sh prints them over the translation fc69f7754f0aa0ec… (all of the seat's roots in one cut). By AI agents, Wed Nov 11 2026. No macro, syntax, notation, axiom, sorry.
-/
import Derived.Test.YtopggpjpnoipcaaChecked
import GoSem.Claim
import GoSem.ClaimJoined
import GoSem.ClaimMapViews
import Derived.JoinedTies
import Derived.KernelRfl
namespace Go.Proofs.Ytopggpjpnoipcaa
/- THE CELL 'sum', in the pinned program and in every row, IS THE sha256 OF THE DUMP (.gsa) THAT YtopggpjpnoipcaaProg.lean LOADS. Nothing in Lean hashes anything: it is a label: what it is worth is what the hold of that sum in a sandbox is worth. -/
noncomputable def Try.pinned : Pinned := { name := "ytopggpjpnoipcaa", sum := "fc69f7754f0aa0ecef4b84687545a19a865087b8b83a3724f98361a796d59b6a", checked := Try.checked }
namespace Rows
def none {H : Type} : Left H := { results := [], args := [] }

/-- 'laws.FnExactValidBudget': WHATEVER THE INPUT: true; the input reads as it did. -/
def fnExactValidBudgetSpec : ChangeSpec := { name := "fnExactValidBudget", fn := fun _ => fun
  | [d] => { results := [.lit (.bool true)], args := [d] }
  | _ => none }
def fnExactValidBudgetRow : OpenClaim := { program := "ytopggpjpnoipcaa", sum := "fc69f7754f0aa0ecef4b84687545a19a865087b8b83a3724f98361a796d59b6a", func := "loop.example/telemetryagent/laws.FnExactValidBudget", spec := "fnExactValidBudget", apart := false }
def FnExactValidBudgetSaid : Prop := fnExactValidBudgetRow.holds Try.pinned (OpenSpec.ofChange fnExactValidBudgetSpec)

/-- ITS FALSE NEIGHBOUR: 'it returns false'. Refute it at one input. -/
def fnExactValidBudgetWrong : ChangeSpec := { name := "fnExactValidBudget", fn := fun _ => fun
  | [d] => { results := [.lit (.bool false)], args := [d] }
  | _ => none }
def FnExactValidBudgetWrongFalsely : Prop := fnExactValidBudgetRow.holds Try.pinned (OpenSpec.ofChange fnExactValidBudgetWrong)

/-- 'laws.FnExactRoomFor': WHATEVER THE INPUT: true; the input reads as it did. -/
def fnExactRoomForSpec : ChangeSpec := { name := "fnExactRoomFor", fn := fun _ => fun
  | [d1, d2] => { results := [.lit (.bool true)], args := [d1, d2] }
  | _ => none }
def fnExactRoomForRow : OpenClaim := { program := "ytopggpjpnoipcaa", sum := "fc69f7754f0aa0ecef4b84687545a19a865087b8b83a3724f98361a796d59b6a", func := "loop.example/telemetryagent/laws.FnExactRoomFor", spec := "fnExactRoomFor", apart := false }
def FnExactRoomForSaid : Prop := fnExactRoomForRow.holds Try.pinned (OpenSpec.ofChange fnExactRoomForSpec)

/-- ITS FALSE NEIGHBOUR: 'it returns false'. Refute it at one input. -/
def fnExactRoomForWrong : ChangeSpec := { name := "fnExactRoomFor", fn := fun _ => fun
  | [d1, d2] => { results := [.lit (.bool false)], args := [d1, d2] }
  | _ => none }
def FnExactRoomForWrongFalsely : Prop := fnExactRoomForRow.holds Try.pinned (OpenSpec.ofChange fnExactRoomForWrong)

/-- 'laws.FnExactTakeCredit': WHATEVER THE INPUT: true; the input reads as it did. -/
def fnExactTakeCreditSpec : ChangeSpec := { name := "fnExactTakeCredit", fn := fun _ => fun
  | [d1, d2, d3] => { results := [.lit (.bool true)], args := [d1, d2, d3] }
  | _ => none }
def fnExactTakeCreditRow : OpenClaim := { program := "ytopggpjpnoipcaa", sum := "fc69f7754f0aa0ecef4b84687545a19a865087b8b83a3724f98361a796d59b6a", func := "loop.example/telemetryagent/laws.FnExactTakeCredit", spec := "fnExactTakeCredit", apart := false }
def FnExactTakeCreditSaid : Prop := fnExactTakeCreditRow.holds Try.pinned (OpenSpec.ofChange fnExactTakeCreditSpec)

/-- ITS FALSE NEIGHBOUR: 'it returns false'. Refute it at one input. -/
def fnExactTakeCreditWrong : ChangeSpec := { name := "fnExactTakeCredit", fn := fun _ => fun
  | [d1, d2, d3] => { results := [.lit (.bool false)], args := [d1, d2, d3] }
  | _ => none }
def FnExactTakeCreditWrongFalsely : Prop := fnExactTakeCreditRow.holds Try.pinned (OpenSpec.ofChange fnExactTakeCreditWrong)

/-- 'laws.FnExactGiveCredit': WHATEVER THE INPUT: true; the input reads as it did. -/
def fnExactGiveCreditSpec : ChangeSpec := { name := "fnExactGiveCredit", fn := fun _ => fun
  | [d1, d2, d3] => { results := [.lit (.bool true)], args := [d1, d2, d3] }
  | _ => none }
def fnExactGiveCreditRow : OpenClaim := { program := "ytopggpjpnoipcaa", sum := "fc69f7754f0aa0ecef4b84687545a19a865087b8b83a3724f98361a796d59b6a", func := "loop.example/telemetryagent/laws.FnExactGiveCredit", spec := "fnExactGiveCredit", apart := false }
def FnExactGiveCreditSaid : Prop := fnExactGiveCreditRow.holds Try.pinned (OpenSpec.ofChange fnExactGiveCreditSpec)

/-- ITS FALSE NEIGHBOUR: 'it returns false'. Refute it at one input. -/
def fnExactGiveCreditWrong : ChangeSpec := { name := "fnExactGiveCredit", fn := fun _ => fun
  | [d1, d2, d3] => { results := [.lit (.bool false)], args := [d1, d2, d3] }
  | _ => none }
def FnExactGiveCreditWrongFalsely : Prop := fnExactGiveCreditRow.holds Try.pinned (OpenSpec.ofChange fnExactGiveCreditWrong)

/-- 'laws.FnExactUsedAll': WHATEVER THE INPUT: true; the input reads as it did. -/
def fnExactUsedAllSpec : ChangeSpec := { name := "fnExactUsedAll", fn := fun _ => fun
  | [d] => { results := [.lit (.bool true)], args := [d] }
  | _ => none }
def fnExactUsedAllRow : OpenClaim := { program := "ytopggpjpnoipcaa", sum := "fc69f7754f0aa0ecef4b84687545a19a865087b8b83a3724f98361a796d59b6a", func := "loop.example/telemetryagent/laws.FnExactUsedAll", spec := "fnExactUsedAll", apart := false }
def FnExactUsedAllSaid : Prop := fnExactUsedAllRow.holds Try.pinned (OpenSpec.ofChange fnExactUsedAllSpec)

/-- ITS FALSE NEIGHBOUR: 'it returns false'. Refute it at one input. -/
def fnExactUsedAllWrong : ChangeSpec := { name := "fnExactUsedAll", fn := fun _ => fun
  | [d] => { results := [.lit (.bool false)], args := [d] }
  | _ => none }
def FnExactUsedAllWrongFalsely : Prop := fnExactUsedAllRow.holds Try.pinned (OpenSpec.ofChange fnExactUsedAllWrong)

/- THE SECOND FORM. 'bulk': how many values and letters a reading holds, each counted each time it is reached (what is shared counts as often as it is met; a slice's spare places count too). A statement '..UptoSaid' is the law's where the arguments, and the package variables that the reading takes, are together of bulk at most 1048576: NARROWER than '..Said'. Prove '..Said' where nothing that the law and all that it calls make is longer than what came in: it says more and counts as full. Else prove '..UptoSaid'. A law counts once. -/
mutual
def uptoBulk {H : Type} : DataW H → Nat
  | .lit (.string bytes) => bytes.length + 1
  | .lit _ => 1
  | .nil => 1
  | .ptr d => uptoBulk d + 1
  | .slice elems spare => uptoBulkAll elems + uptoBulkAll spare + 1
  | .agg parts => uptoBulkAll parts + 1
  | .iface _ d => uptoBulk d + 1
  | .map entries => uptoBulkEntries entries + 1
  | .held _ => 1
def uptoBulkAll {H : Type} : List (DataW H) → Nat
  | [] => 0
  | d :: r => uptoBulk d + uptoBulkAll r
def uptoBulkEntries {H : Type} : List (Lit × DataW H) → Nat
  | [] => 0
  | x :: r => uptoBulkEntry x + uptoBulkEntries r
def uptoBulkEntry {H : Type} : Lit × DataW H → Nat
  | (.string bytes, d) => bytes.length + uptoBulk d + 1
  | (_, d) => uptoBulk d + 1
 end
def uptoSmall : (H : Type) → List (DataW H) → Bool := fun _ ds => decide (uptoBulkAll ds ≤ 1048576)
def OpenSpec.upto (s : _root_.Go.ChangeSpec) : _root_.Go.OpenSpec := { _root_.Go.OpenSpec.ofChange s with cond := some uptoSmall }

/-- 'laws.FnExactValidBudget', WHERE WHAT IT READS IS OF BULK AT MOST 1048576: true; the input reads as it did. -/
def fnExactValidBudgetUptoRow : OpenClaim := { program := "ytopggpjpnoipcaa", sum := "fc69f7754f0aa0ecef4b84687545a19a865087b8b83a3724f98361a796d59b6a", func := "loop.example/telemetryagent/laws.FnExactValidBudget", spec := "fnExactValidBudget", apart := false, narrowed := true }
def FnExactValidBudgetUptoSaid : Prop := fnExactValidBudgetUptoRow.holds Try.pinned (OpenSpec.upto fnExactValidBudgetSpec)

/-- 'laws.FnExactRoomFor', WHERE WHAT IT READS IS OF BULK AT MOST 1048576: true; the input reads as it did. -/
def fnExactRoomForUptoRow : OpenClaim := { program := "ytopggpjpnoipcaa", sum := "fc69f7754f0aa0ecef4b84687545a19a865087b8b83a3724f98361a796d59b6a", func := "loop.example/telemetryagent/laws.FnExactRoomFor", spec := "fnExactRoomFor", apart := false, narrowed := true }
def FnExactRoomForUptoSaid : Prop := fnExactRoomForUptoRow.holds Try.pinned (OpenSpec.upto fnExactRoomForSpec)

/-- 'laws.FnExactTakeCredit', WHERE WHAT IT READS IS OF BULK AT MOST 1048576: true; the input reads as it did. -/
def fnExactTakeCreditUptoRow : OpenClaim := { program := "ytopggpjpnoipcaa", sum := "fc69f7754f0aa0ecef4b84687545a19a865087b8b83a3724f98361a796d59b6a", func := "loop.example/telemetryagent/laws.FnExactTakeCredit", spec := "fnExactTakeCredit", apart := false, narrowed := true }
def FnExactTakeCreditUptoSaid : Prop := fnExactTakeCreditUptoRow.holds Try.pinned (OpenSpec.upto fnExactTakeCreditSpec)

/-- 'laws.FnExactGiveCredit', WHERE WHAT IT READS IS OF BULK AT MOST 1048576: true; the input reads as it did. -/
def fnExactGiveCreditUptoRow : OpenClaim := { program := "ytopggpjpnoipcaa", sum := "fc69f7754f0aa0ecef4b84687545a19a865087b8b83a3724f98361a796d59b6a", func := "loop.example/telemetryagent/laws.FnExactGiveCredit", spec := "fnExactGiveCredit", apart := false, narrowed := true }
def FnExactGiveCreditUptoSaid : Prop := fnExactGiveCreditUptoRow.holds Try.pinned (OpenSpec.upto fnExactGiveCreditSpec)

/-- 'laws.FnExactUsedAll', WHERE WHAT IT READS IS OF BULK AT MOST 1048576: true; the input reads as it did. -/
def fnExactUsedAllUptoRow : OpenClaim := { program := "ytopggpjpnoipcaa", sum := "fc69f7754f0aa0ecef4b84687545a19a865087b8b83a3724f98361a796d59b6a", func := "loop.example/telemetryagent/laws.FnExactUsedAll", spec := "fnExactUsedAll", apart := false, narrowed := true }
def FnExactUsedAllUptoSaid : Prop := fnExactUsedAllUptoRow.holds Try.pinned (OpenSpec.upto fnExactUsedAllSpec)

end Rows
end Go.Proofs.Ytopggpjpnoipcaa
