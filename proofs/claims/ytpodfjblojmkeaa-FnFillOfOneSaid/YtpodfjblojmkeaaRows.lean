/-
  No cell of these rows narrows 'for every input' (looked for: loops, veiled, ifaces, maps, wideKeys, modest, calm, conditions, laid).
  DERIVED. THE GIVEN ROWS OF THIS SEAT. 12 by the template 'for every input the law returns true; each argument reads behind the call as it read before'; 0 by the template 'total and deterministic' (their statements: YtpodfjblojmkeaaTotals.lean).
  GIVEN WITH THE SEED: the statements are not yours to turn. If you find one false, say at which input.
  Laid BY PROGRAM, IN A SANDBOX (cutbox-rows.mjs): the forced cells as the released guide's own fill.sh prints them over the translation fd7377521b4cbbf7… (all of the seat's roots in one cut). By AI agents, Wed Nov 11 2026. No macro, syntax, notation, axiom, sorry.
-/
import Derived.Test.YtpodfjblojmkeaaChecked
import GoSem.Claim
import GoSem.ClaimJoined
import GoSem.ClaimMapViews
import Derived.JoinedTies
import Derived.KernelRfl
namespace Go.Proofs.Ytpodfjblojmkeaa
/- THE CELL 'sum', in the pinned program and in every row, IS THE sha256 OF THE DUMP (.gsa) THAT YtpodfjblojmkeaaProg.lean LOADS. Nothing in Lean hashes anything: it is a label: what it is worth is what the hold of that sum in a sandbox is worth. -/
noncomputable def Try.pinned : Pinned := { name := "ytpodfjblojmkeaa", sum := "fd7377521b4cbbf78c2392adce7e1e2c636fb71cfb97b02595f69b6d60ed0ffb", checked := Try.checked }
namespace Rows
def none {H : Type} : Left H := { results := [], args := [] }

/-- 'laws.FnCutBatches': WHATEVER THE INPUT: true; the input reads as it did. -/
def fnCutBatchesSpec : ChangeSpec := { name := "fnCutBatches", fn := fun _ => fun
  | [d] => { results := [.lit (.bool true)], args := [d] }
  | _ => none }
def fnCutBatchesRow : OpenClaim := { program := "ytpodfjblojmkeaa", sum := "fd7377521b4cbbf78c2392adce7e1e2c636fb71cfb97b02595f69b6d60ed0ffb", func := "loop.example/telemetryagent/laws.FnCutBatches", spec := "fnCutBatches", unfollowed := true, recurses := true, apart := false }
def FnCutBatchesSaid : Prop := fnCutBatchesRow.holds Try.pinned (OpenSpec.ofChange fnCutBatchesSpec)

/-- ITS FALSE NEIGHBOUR: 'it returns false'. Refute it at one input. -/
def fnCutBatchesWrong : ChangeSpec := { name := "fnCutBatches", fn := fun _ => fun
  | [d] => { results := [.lit (.bool false)], args := [d] }
  | _ => none }
def FnCutBatchesWrongFalsely : Prop := fnCutBatchesRow.holds Try.pinned (OpenSpec.ofChange fnCutBatchesWrong)

/-- 'laws.FnExactCutBatches': WHATEVER THE INPUT: true; the input reads as it did. -/
def fnExactCutBatchesSpec : ChangeSpec := { name := "fnExactCutBatches", fn := fun _ => fun
  | [d1, d2, d3] => { results := [.lit (.bool true)], args := [d1, d2, d3] }
  | _ => none }
def fnExactCutBatchesRow : OpenClaim := { program := "ytpodfjblojmkeaa", sum := "fd7377521b4cbbf78c2392adce7e1e2c636fb71cfb97b02595f69b6d60ed0ffb", func := "loop.example/telemetryagent/laws.FnExactCutBatches", spec := "fnExactCutBatches", unfollowed := true, recurses := true, apart := false }
def FnExactCutBatchesSaid : Prop := fnExactCutBatchesRow.holds Try.pinned (OpenSpec.ofChange fnExactCutBatchesSpec)

/-- ITS FALSE NEIGHBOUR: 'it returns false'. Refute it at one input. -/
def fnExactCutBatchesWrong : ChangeSpec := { name := "fnExactCutBatches", fn := fun _ => fun
  | [d1, d2, d3] => { results := [.lit (.bool false)], args := [d1, d2, d3] }
  | _ => none }
def FnExactCutBatchesWrongFalsely : Prop := fnExactCutBatchesRow.holds Try.pinned (OpenSpec.ofChange fnExactCutBatchesWrong)

/-- 'laws.FnExactBatchBytes': WHATEVER THE INPUT: true; the input reads as it did. -/
def fnExactBatchBytesSpec : ChangeSpec := { name := "fnExactBatchBytes", fn := fun _ => fun
  | [d1, d2, d3] => { results := [.lit (.bool true)], args := [d1, d2, d3] }
  | _ => none }
def fnExactBatchBytesRow : OpenClaim := { program := "ytpodfjblojmkeaa", sum := "fd7377521b4cbbf78c2392adce7e1e2c636fb71cfb97b02595f69b6d60ed0ffb", func := "loop.example/telemetryagent/laws.FnExactBatchBytes", spec := "fnExactBatchBytes", unfollowed := true, recurses := true, apart := false }
def FnExactBatchBytesSaid : Prop := fnExactBatchBytesRow.holds Try.pinned (OpenSpec.ofChange fnExactBatchBytesSpec)

/-- ITS FALSE NEIGHBOUR: 'it returns false'. Refute it at one input. -/
def fnExactBatchBytesWrong : ChangeSpec := { name := "fnExactBatchBytes", fn := fun _ => fun
  | [d1, d2, d3] => { results := [.lit (.bool false)], args := [d1, d2, d3] }
  | _ => none }
def FnExactBatchBytesWrongFalsely : Prop := fnExactBatchBytesRow.holds Try.pinned (OpenSpec.ofChange fnExactBatchBytesWrong)

/-- 'laws.FnExactFillOf': WHATEVER THE INPUT: true; the input reads as it did. -/
def fnExactFillOfSpec : ChangeSpec := { name := "fnExactFillOf", fn := fun _ => fun
  | [d1, d2, d3] => { results := [.lit (.bool true)], args := [d1, d2, d3] }
  | _ => none }
def fnExactFillOfRow : OpenClaim := { program := "ytpodfjblojmkeaa", sum := "fd7377521b4cbbf78c2392adce7e1e2c636fb71cfb97b02595f69b6d60ed0ffb", func := "loop.example/telemetryagent/laws.FnExactFillOf", spec := "fnExactFillOf", unfollowed := true, recurses := true, apart := false }
def FnExactFillOfSaid : Prop := fnExactFillOfRow.holds Try.pinned (OpenSpec.ofChange fnExactFillOfSpec)

/-- ITS FALSE NEIGHBOUR: 'it returns false'. Refute it at one input. -/
def fnExactFillOfWrong : ChangeSpec := { name := "fnExactFillOf", fn := fun _ => fun
  | [d1, d2, d3] => { results := [.lit (.bool false)], args := [d1, d2, d3] }
  | _ => none }
def FnExactFillOfWrongFalsely : Prop := fnExactFillOfRow.holds Try.pinned (OpenSpec.ofChange fnExactFillOfWrong)

/-- 'laws.FnBatchBytes': WHATEVER THE INPUT: true; the input reads as it did. -/
def fnBatchBytesSpec : ChangeSpec := { name := "fnBatchBytes", fn := fun _ => fun
  | [d] => { results := [.lit (.bool true)], args := [d] }
  | _ => none }
def fnBatchBytesRow : OpenClaim := { program := "ytpodfjblojmkeaa", sum := "fd7377521b4cbbf78c2392adce7e1e2c636fb71cfb97b02595f69b6d60ed0ffb", func := "loop.example/telemetryagent/laws.FnBatchBytes", spec := "fnBatchBytes", unfollowed := true, recurses := true, apart := false }
def FnBatchBytesSaid : Prop := fnBatchBytesRow.holds Try.pinned (OpenSpec.ofChange fnBatchBytesSpec)

/-- ITS FALSE NEIGHBOUR: 'it returns false'. Refute it at one input. -/
def fnBatchBytesWrong : ChangeSpec := { name := "fnBatchBytes", fn := fun _ => fun
  | [d] => { results := [.lit (.bool false)], args := [d] }
  | _ => none }
def FnBatchBytesWrongFalsely : Prop := fnBatchBytesRow.holds Try.pinned (OpenSpec.ofChange fnBatchBytesWrong)

/-- 'laws.FnCutBatchesMore': WHATEVER THE INPUT: true; the input reads as it did. -/
def fnCutBatchesMoreSpec : ChangeSpec := { name := "fnCutBatchesMore", fn := fun _ => fun
  | [d] => { results := [.lit (.bool true)], args := [d] }
  | _ => none }
def fnCutBatchesMoreRow : OpenClaim := { program := "ytpodfjblojmkeaa", sum := "fd7377521b4cbbf78c2392adce7e1e2c636fb71cfb97b02595f69b6d60ed0ffb", func := "loop.example/telemetryagent/laws.FnCutBatchesMore", spec := "fnCutBatchesMore", unfollowed := true, recurses := true, apart := false }
def FnCutBatchesMoreSaid : Prop := fnCutBatchesMoreRow.holds Try.pinned (OpenSpec.ofChange fnCutBatchesMoreSpec)

/-- ITS FALSE NEIGHBOUR: 'it returns false'. Refute it at one input. -/
def fnCutBatchesMoreWrong : ChangeSpec := { name := "fnCutBatchesMore", fn := fun _ => fun
  | [d] => { results := [.lit (.bool false)], args := [d] }
  | _ => none }
def FnCutBatchesMoreWrongFalsely : Prop := fnCutBatchesMoreRow.holds Try.pinned (OpenSpec.ofChange fnCutBatchesMoreWrong)

/-- 'laws.FnCutBatchesOne': WHATEVER THE INPUT: true; the input reads as it did. -/
def fnCutBatchesOneSpec : ChangeSpec := { name := "fnCutBatchesOne", fn := fun _ => fun
  | [d] => { results := [.lit (.bool true)], args := [d] }
  | _ => none }
def fnCutBatchesOneRow : OpenClaim := { program := "ytpodfjblojmkeaa", sum := "fd7377521b4cbbf78c2392adce7e1e2c636fb71cfb97b02595f69b6d60ed0ffb", func := "loop.example/telemetryagent/laws.FnCutBatchesOne", spec := "fnCutBatchesOne", unfollowed := true, recurses := true, apart := false }
def FnCutBatchesOneSaid : Prop := fnCutBatchesOneRow.holds Try.pinned (OpenSpec.ofChange fnCutBatchesOneSpec)

/-- ITS FALSE NEIGHBOUR: 'it returns false'. Refute it at one input. -/
def fnCutBatchesOneWrong : ChangeSpec := { name := "fnCutBatchesOne", fn := fun _ => fun
  | [d] => { results := [.lit (.bool false)], args := [d] }
  | _ => none }
def FnCutBatchesOneWrongFalsely : Prop := fnCutBatchesOneRow.holds Try.pinned (OpenSpec.ofChange fnCutBatchesOneWrong)

/-- 'laws.FnBatchBytesOne': WHATEVER THE INPUT: true; the input reads as it did. -/
def fnBatchBytesOneSpec : ChangeSpec := { name := "fnBatchBytesOne", fn := fun _ => fun
  | [d] => { results := [.lit (.bool true)], args := [d] }
  | _ => none }
def fnBatchBytesOneRow : OpenClaim := { program := "ytpodfjblojmkeaa", sum := "fd7377521b4cbbf78c2392adce7e1e2c636fb71cfb97b02595f69b6d60ed0ffb", func := "loop.example/telemetryagent/laws.FnBatchBytesOne", spec := "fnBatchBytesOne", unfollowed := true, recurses := true, apart := false }
def FnBatchBytesOneSaid : Prop := fnBatchBytesOneRow.holds Try.pinned (OpenSpec.ofChange fnBatchBytesOneSpec)

/-- ITS FALSE NEIGHBOUR: 'it returns false'. Refute it at one input. -/
def fnBatchBytesOneWrong : ChangeSpec := { name := "fnBatchBytesOne", fn := fun _ => fun
  | [d] => { results := [.lit (.bool false)], args := [d] }
  | _ => none }
def FnBatchBytesOneWrongFalsely : Prop := fnBatchBytesOneRow.holds Try.pinned (OpenSpec.ofChange fnBatchBytesOneWrong)

/-- 'laws.FnCutBatchesFull': WHATEVER THE INPUT: true; the input reads as it did. -/
def fnCutBatchesFullSpec : ChangeSpec := { name := "fnCutBatchesFull", fn := fun _ => fun
  | [d] => { results := [.lit (.bool true)], args := [d] }
  | _ => none }
def fnCutBatchesFullRow : OpenClaim := { program := "ytpodfjblojmkeaa", sum := "fd7377521b4cbbf78c2392adce7e1e2c636fb71cfb97b02595f69b6d60ed0ffb", func := "loop.example/telemetryagent/laws.FnCutBatchesFull", spec := "fnCutBatchesFull", unfollowed := true, recurses := true, apart := false }
def FnCutBatchesFullSaid : Prop := fnCutBatchesFullRow.holds Try.pinned (OpenSpec.ofChange fnCutBatchesFullSpec)

/-- ITS FALSE NEIGHBOUR: 'it returns false'. Refute it at one input. -/
def fnCutBatchesFullWrong : ChangeSpec := { name := "fnCutBatchesFull", fn := fun _ => fun
  | [d] => { results := [.lit (.bool false)], args := [d] }
  | _ => none }
def FnCutBatchesFullWrongFalsely : Prop := fnCutBatchesFullRow.holds Try.pinned (OpenSpec.ofChange fnCutBatchesFullWrong)

/-- 'laws.FnBatchBytesPair': WHATEVER THE INPUT: true; the input reads as it did. -/
def fnBatchBytesPairSpec : ChangeSpec := { name := "fnBatchBytesPair", fn := fun _ => fun
  | [d] => { results := [.lit (.bool true)], args := [d] }
  | _ => none }
def fnBatchBytesPairRow : OpenClaim := { program := "ytpodfjblojmkeaa", sum := "fd7377521b4cbbf78c2392adce7e1e2c636fb71cfb97b02595f69b6d60ed0ffb", func := "loop.example/telemetryagent/laws.FnBatchBytesPair", spec := "fnBatchBytesPair", unfollowed := true, recurses := true, apart := false }
def FnBatchBytesPairSaid : Prop := fnBatchBytesPairRow.holds Try.pinned (OpenSpec.ofChange fnBatchBytesPairSpec)

/-- ITS FALSE NEIGHBOUR: 'it returns false'. Refute it at one input. -/
def fnBatchBytesPairWrong : ChangeSpec := { name := "fnBatchBytesPair", fn := fun _ => fun
  | [d] => { results := [.lit (.bool false)], args := [d] }
  | _ => none }
def FnBatchBytesPairWrongFalsely : Prop := fnBatchBytesPairRow.holds Try.pinned (OpenSpec.ofChange fnBatchBytesPairWrong)

/-- 'laws.FnFillOf': WHATEVER THE INPUT: true; the input reads as it did. -/
def fnFillOfSpec : ChangeSpec := { name := "fnFillOf", fn := fun _ => fun
  | [d] => { results := [.lit (.bool true)], args := [d] }
  | _ => none }
def fnFillOfRow : OpenClaim := { program := "ytpodfjblojmkeaa", sum := "fd7377521b4cbbf78c2392adce7e1e2c636fb71cfb97b02595f69b6d60ed0ffb", func := "loop.example/telemetryagent/laws.FnFillOf", spec := "fnFillOf", unfollowed := true, recurses := true, apart := false }
def FnFillOfSaid : Prop := fnFillOfRow.holds Try.pinned (OpenSpec.ofChange fnFillOfSpec)

/-- ITS FALSE NEIGHBOUR: 'it returns false'. Refute it at one input. -/
def fnFillOfWrong : ChangeSpec := { name := "fnFillOf", fn := fun _ => fun
  | [d] => { results := [.lit (.bool false)], args := [d] }
  | _ => none }
def FnFillOfWrongFalsely : Prop := fnFillOfRow.holds Try.pinned (OpenSpec.ofChange fnFillOfWrong)

/-- 'laws.FnFillOfOne': WHATEVER THE INPUT: true; the input reads as it did. -/
def fnFillOfOneSpec : ChangeSpec := { name := "fnFillOfOne", fn := fun _ => fun
  | [d] => { results := [.lit (.bool true)], args := [d] }
  | _ => none }
def fnFillOfOneRow : OpenClaim := { program := "ytpodfjblojmkeaa", sum := "fd7377521b4cbbf78c2392adce7e1e2c636fb71cfb97b02595f69b6d60ed0ffb", func := "loop.example/telemetryagent/laws.FnFillOfOne", spec := "fnFillOfOne", unfollowed := true, recurses := true, apart := false }
def FnFillOfOneSaid : Prop := fnFillOfOneRow.holds Try.pinned (OpenSpec.ofChange fnFillOfOneSpec)

/-- ITS FALSE NEIGHBOUR: 'it returns false'. Refute it at one input. -/
def fnFillOfOneWrong : ChangeSpec := { name := "fnFillOfOne", fn := fun _ => fun
  | [d] => { results := [.lit (.bool false)], args := [d] }
  | _ => none }
def FnFillOfOneWrongFalsely : Prop := fnFillOfOneRow.holds Try.pinned (OpenSpec.ofChange fnFillOfOneWrong)

/- THE SECOND FORM. 'bulk': how many values and letters a reading holds, each counted each time it is reached (what is shared counts as often as it is met; a slice's spare places count too). A statement '..UptoSaid' is the law's where the arguments, and the package variables that the reading takes, are together of bulk at most 1048576: NARROWER than '..Said'. Prove '..Said' where nothing that the law and all that it calls make is longer than what came in: it says more and counts as full. Else prove '..UptoSaid'. A law counts once. -/
mutual
def uptoBulk {H : Type} : DataW H → Nat
  | .lit (.string bytes) => bytes.length + 1
  | .lit _ => 1
  | .nil => 1
  | .ptr d => uptoBulk d + 1
  | .slice elems spare => uptoBulkAll elems + uptoBulkAll spare + 1
  | .agg parts => uptoBulkAll parts + 1
  | .iface _ d => uptoBulk d + 1
  | .map entries => uptoBulkEntries entries + 1
  | .held _ => 1
def uptoBulkAll {H : Type} : List (DataW H) → Nat
  | [] => 0
  | d :: r => uptoBulk d + uptoBulkAll r
def uptoBulkEntries {H : Type} : List (Lit × DataW H) → Nat
  | [] => 0
  | x :: r => uptoBulkEntry x + uptoBulkEntries r
def uptoBulkEntry {H : Type} : Lit × DataW H → Nat
  | (.string bytes, d) => bytes.length + uptoBulk d + 1
  | (_, d) => uptoBulk d + 1
 end
def uptoSmall : (H : Type) → List (DataW H) → Bool := fun _ ds => decide (uptoBulkAll ds ≤ 1048576)
def OpenSpec.upto (s : _root_.Go.ChangeSpec) : _root_.Go.OpenSpec := { _root_.Go.OpenSpec.ofChange s with cond := some uptoSmall }

/-- 'laws.FnCutBatches', WHERE WHAT IT READS IS OF BULK AT MOST 1048576: true; the input reads as it did. -/
def fnCutBatchesUptoRow : OpenClaim := { program := "ytpodfjblojmkeaa", sum := "fd7377521b4cbbf78c2392adce7e1e2c636fb71cfb97b02595f69b6d60ed0ffb", func := "loop.example/telemetryagent/laws.FnCutBatches", spec := "fnCutBatches", unfollowed := true, recurses := true, apart := false, narrowed := true }
def FnCutBatchesUptoSaid : Prop := fnCutBatchesUptoRow.holds Try.pinned (OpenSpec.upto fnCutBatchesSpec)

/-- 'laws.FnExactCutBatches', WHERE WHAT IT READS IS OF BULK AT MOST 1048576: true; the input reads as it did. -/
def fnExactCutBatchesUptoRow : OpenClaim := { program := "ytpodfjblojmkeaa", sum := "fd7377521b4cbbf78c2392adce7e1e2c636fb71cfb97b02595f69b6d60ed0ffb", func := "loop.example/telemetryagent/laws.FnExactCutBatches", spec := "fnExactCutBatches", unfollowed := true, recurses := true, apart := false, narrowed := true }
def FnExactCutBatchesUptoSaid : Prop := fnExactCutBatchesUptoRow.holds Try.pinned (OpenSpec.upto fnExactCutBatchesSpec)

/-- 'laws.FnExactBatchBytes', WHERE WHAT IT READS IS OF BULK AT MOST 1048576: true; the input reads as it did. -/
def fnExactBatchBytesUptoRow : OpenClaim := { program := "ytpodfjblojmkeaa", sum := "fd7377521b4cbbf78c2392adce7e1e2c636fb71cfb97b02595f69b6d60ed0ffb", func := "loop.example/telemetryagent/laws.FnExactBatchBytes", spec := "fnExactBatchBytes", unfollowed := true, recurses := true, apart := false, narrowed := true }
def FnExactBatchBytesUptoSaid : Prop := fnExactBatchBytesUptoRow.holds Try.pinned (OpenSpec.upto fnExactBatchBytesSpec)

/-- 'laws.FnExactFillOf', WHERE WHAT IT READS IS OF BULK AT MOST 1048576: true; the input reads as it did. -/
def fnExactFillOfUptoRow : OpenClaim := { program := "ytpodfjblojmkeaa", sum := "fd7377521b4cbbf78c2392adce7e1e2c636fb71cfb97b02595f69b6d60ed0ffb", func := "loop.example/telemetryagent/laws.FnExactFillOf", spec := "fnExactFillOf", unfollowed := true, recurses := true, apart := false, narrowed := true }
def FnExactFillOfUptoSaid : Prop := fnExactFillOfUptoRow.holds Try.pinned (OpenSpec.upto fnExactFillOfSpec)

/-- 'laws.FnBatchBytes', WHERE WHAT IT READS IS OF BULK AT MOST 1048576: true; the input reads as it did. -/
def fnBatchBytesUptoRow : OpenClaim := { program := "ytpodfjblojmkeaa", sum := "fd7377521b4cbbf78c2392adce7e1e2c636fb71cfb97b02595f69b6d60ed0ffb", func := "loop.example/telemetryagent/laws.FnBatchBytes", spec := "fnBatchBytes", unfollowed := true, recurses := true, apart := false, narrowed := true }
def FnBatchBytesUptoSaid : Prop := fnBatchBytesUptoRow.holds Try.pinned (OpenSpec.upto fnBatchBytesSpec)

/-- 'laws.FnCutBatchesMore', WHERE WHAT IT READS IS OF BULK AT MOST 1048576: true; the input reads as it did. -/
def fnCutBatchesMoreUptoRow : OpenClaim := { program := "ytpodfjblojmkeaa", sum := "fd7377521b4cbbf78c2392adce7e1e2c636fb71cfb97b02595f69b6d60ed0ffb", func := "loop.example/telemetryagent/laws.FnCutBatchesMore", spec := "fnCutBatchesMore", unfollowed := true, recurses := true, apart := false, narrowed := true }
def FnCutBatchesMoreUptoSaid : Prop := fnCutBatchesMoreUptoRow.holds Try.pinned (OpenSpec.upto fnCutBatchesMoreSpec)

/-- 'laws.FnCutBatchesOne', WHERE WHAT IT READS IS OF BULK AT MOST 1048576: true; the input reads as it did. -/
def fnCutBatchesOneUptoRow : OpenClaim := { program := "ytpodfjblojmkeaa", sum := "fd7377521b4cbbf78c2392adce7e1e2c636fb71cfb97b02595f69b6d60ed0ffb", func := "loop.example/telemetryagent/laws.FnCutBatchesOne", spec := "fnCutBatchesOne", unfollowed := true, recurses := true, apart := false, narrowed := true }
def FnCutBatchesOneUptoSaid : Prop := fnCutBatchesOneUptoRow.holds Try.pinned (OpenSpec.upto fnCutBatchesOneSpec)

/-- 'laws.FnBatchBytesOne', WHERE WHAT IT READS IS OF BULK AT MOST 1048576: true; the input reads as it did. -/
def fnBatchBytesOneUptoRow : OpenClaim := { program := "ytpodfjblojmkeaa", sum := "fd7377521b4cbbf78c2392adce7e1e2c636fb71cfb97b02595f69b6d60ed0ffb", func := "loop.example/telemetryagent/laws.FnBatchBytesOne", spec := "fnBatchBytesOne", unfollowed := true, recurses := true, apart := false, narrowed := true }
def FnBatchBytesOneUptoSaid : Prop := fnBatchBytesOneUptoRow.holds Try.pinned (OpenSpec.upto fnBatchBytesOneSpec)

/-- 'laws.FnCutBatchesFull', WHERE WHAT IT READS IS OF BULK AT MOST 1048576: true; the input reads as it did. -/
def fnCutBatchesFullUptoRow : OpenClaim := { program := "ytpodfjblojmkeaa", sum := "fd7377521b4cbbf78c2392adce7e1e2c636fb71cfb97b02595f69b6d60ed0ffb", func := "loop.example/telemetryagent/laws.FnCutBatchesFull", spec := "fnCutBatchesFull", unfollowed := true, recurses := true, apart := false, narrowed := true }
def FnCutBatchesFullUptoSaid : Prop := fnCutBatchesFullUptoRow.holds Try.pinned (OpenSpec.upto fnCutBatchesFullSpec)

/-- 'laws.FnBatchBytesPair', WHERE WHAT IT READS IS OF BULK AT MOST 1048576: true; the input reads as it did. -/
def fnBatchBytesPairUptoRow : OpenClaim := { program := "ytpodfjblojmkeaa", sum := "fd7377521b4cbbf78c2392adce7e1e2c636fb71cfb97b02595f69b6d60ed0ffb", func := "loop.example/telemetryagent/laws.FnBatchBytesPair", spec := "fnBatchBytesPair", unfollowed := true, recurses := true, apart := false, narrowed := true }
def FnBatchBytesPairUptoSaid : Prop := fnBatchBytesPairUptoRow.holds Try.pinned (OpenSpec.upto fnBatchBytesPairSpec)

/-- 'laws.FnFillOf', WHERE WHAT IT READS IS OF BULK AT MOST 1048576: true; the input reads as it did. -/
def fnFillOfUptoRow : OpenClaim := { program := "ytpodfjblojmkeaa", sum := "fd7377521b4cbbf78c2392adce7e1e2c636fb71cfb97b02595f69b6d60ed0ffb", func := "loop.example/telemetryagent/laws.FnFillOf", spec := "fnFillOf", unfollowed := true, recurses := true, apart := false, narrowed := true }
def FnFillOfUptoSaid : Prop := fnFillOfUptoRow.holds Try.pinned (OpenSpec.upto fnFillOfSpec)

/-- 'laws.FnFillOfOne', WHERE WHAT IT READS IS OF BULK AT MOST 1048576: true; the input reads as it did. -/
def fnFillOfOneUptoRow : OpenClaim := { program := "ytpodfjblojmkeaa", sum := "fd7377521b4cbbf78c2392adce7e1e2c636fb71cfb97b02595f69b6d60ed0ffb", func := "loop.example/telemetryagent/laws.FnFillOfOne", spec := "fnFillOfOne", unfollowed := true, recurses := true, apart := false, narrowed := true }
def FnFillOfOneUptoSaid : Prop := fnFillOfOneUptoRow.holds Try.pinned (OpenSpec.upto fnFillOfOneSpec)

end Rows
end Go.Proofs.Ytpodfjblojmkeaa
