/-
  No cell of these rows narrows 'for every input' (looked for: loops, veiled, ifaces, maps, wideKeys, modest, calm, conditions, laid).
  DERIVED. THE GIVEN ROWS OF THIS SEAT. 5 by the template 'for every input the law returns true; each argument reads behind the call as it read before'; 0 by the template 'total and deterministic' (their statements: YtkeiekhikpoeaaaTotals.lean).
  GIVEN WITH THE SEED: the statements are not yours to turn. If you find one false, say at which input.
  Laid BY PROGRAM, IN A SANDBOX (cutbox-rows.mjs): the forced cells as the released guide's own fill.sh prints them over the translation 96c5021f5b1fa5b2… (all of the seat's roots in one cut). By AI agents, Wed Nov 11 2026. No macro, syntax, notation, axiom, sorry.
-/
import Derived.Test.YtkeiekhikpoeaaaChecked
import GoSem.Claim
import GoSem.ClaimJoined
import GoSem.ClaimMapViews
import Derived.JoinedTies
import Derived.KernelRfl
namespace Go.Proofs.Ytkeiekhikpoeaaa
/- THE CELL 'sum', in the pinned program and in every row, IS THE sha256 OF THE DUMP (.gsa) THAT YtkeiekhikpoeaaaProg.lean LOADS. Nothing in Lean hashes anything: it is a label: what it is worth is what the hold of that sum in a sandbox is worth. -/
noncomputable def Try.pinned : Pinned := { name := "ytkeiekhikpoeaaa", sum := "96c5021f5b1fa5b2e1bed836f240217785bbbdca4e5f8b1db539f33dd3ac6ec8", checked := Try.checked }
namespace Rows
def none {H : Type} : Left H := { results := [], args := [] }

/-- 'laws.FnExactValidWindow': WHATEVER THE INPUT: true; the input reads as it did. -/
def fnExactValidWindowSpec : ChangeSpec := { name := "fnExactValidWindow", fn := fun _ => fun
  | [d] => { results := [.lit (.bool true)], args := [d] }
  | _ => none }
def fnExactValidWindowRow : OpenClaim := { program := "ytkeiekhikpoeaaa", sum := "96c5021f5b1fa5b2e1bed836f240217785bbbdca4e5f8b1db539f33dd3ac6ec8", func := "loop.example/telemetryagent/laws.FnExactValidWindow", spec := "fnExactValidWindow", apart := false }
def FnExactValidWindowSaid : Prop := fnExactValidWindowRow.holds Try.pinned (OpenSpec.ofChange fnExactValidWindowSpec)

/-- ITS FALSE NEIGHBOUR: 'it returns false'. Refute it at one input. -/
def fnExactValidWindowWrong : ChangeSpec := { name := "fnExactValidWindow", fn := fun _ => fun
  | [d] => { results := [.lit (.bool false)], args := [d] }
  | _ => none }
def FnExactValidWindowWrongFalsely : Prop := fnExactValidWindowRow.holds Try.pinned (OpenSpec.ofChange fnExactValidWindowWrong)

/-- 'laws.FnExactSendNext': WHATEVER THE INPUT: true; the input reads as it did. -/
def fnExactSendNextSpec : ChangeSpec := { name := "fnExactSendNext", fn := fun _ => fun
  | [d] => { results := [.lit (.bool true)], args := [d] }
  | _ => none }
def fnExactSendNextRow : OpenClaim := { program := "ytkeiekhikpoeaaa", sum := "96c5021f5b1fa5b2e1bed836f240217785bbbdca4e5f8b1db539f33dd3ac6ec8", func := "loop.example/telemetryagent/laws.FnExactSendNext", spec := "fnExactSendNext", apart := false }
def FnExactSendNextSaid : Prop := fnExactSendNextRow.holds Try.pinned (OpenSpec.ofChange fnExactSendNextSpec)

/-- ITS FALSE NEIGHBOUR: 'it returns false'. Refute it at one input. -/
def fnExactSendNextWrong : ChangeSpec := { name := "fnExactSendNext", fn := fun _ => fun
  | [d] => { results := [.lit (.bool false)], args := [d] }
  | _ => none }
def FnExactSendNextWrongFalsely : Prop := fnExactSendNextRow.holds Try.pinned (OpenSpec.ofChange fnExactSendNextWrong)

/-- 'laws.FnExactAckBatch': WHATEVER THE INPUT: true; the input reads as it did. -/
def fnExactAckBatchSpec : ChangeSpec := { name := "fnExactAckBatch", fn := fun _ => fun
  | [d1, d2] => { results := [.lit (.bool true)], args := [d1, d2] }
  | _ => none }
def fnExactAckBatchRow : OpenClaim := { program := "ytkeiekhikpoeaaa", sum := "96c5021f5b1fa5b2e1bed836f240217785bbbdca4e5f8b1db539f33dd3ac6ec8", func := "loop.example/telemetryagent/laws.FnExactAckBatch", spec := "fnExactAckBatch", apart := false }
def FnExactAckBatchSaid : Prop := fnExactAckBatchRow.holds Try.pinned (OpenSpec.ofChange fnExactAckBatchSpec)

/-- ITS FALSE NEIGHBOUR: 'it returns false'. Refute it at one input. -/
def fnExactAckBatchWrong : ChangeSpec := { name := "fnExactAckBatch", fn := fun _ => fun
  | [d1, d2] => { results := [.lit (.bool false)], args := [d1, d2] }
  | _ => none }
def FnExactAckBatchWrongFalsely : Prop := fnExactAckBatchRow.holds Try.pinned (OpenSpec.ofChange fnExactAckBatchWrong)

/-- 'laws.FnExactOpenBatches': WHATEVER THE INPUT: true; the input reads as it did. -/
def fnExactOpenBatchesSpec : ChangeSpec := { name := "fnExactOpenBatches", fn := fun _ => fun
  | [d] => { results := [.lit (.bool true)], args := [d] }
  | _ => none }
def fnExactOpenBatchesRow : OpenClaim := { program := "ytkeiekhikpoeaaa", sum := "96c5021f5b1fa5b2e1bed836f240217785bbbdca4e5f8b1db539f33dd3ac6ec8", func := "loop.example/telemetryagent/laws.FnExactOpenBatches", spec := "fnExactOpenBatches", apart := false }
def FnExactOpenBatchesSaid : Prop := fnExactOpenBatchesRow.holds Try.pinned (OpenSpec.ofChange fnExactOpenBatchesSpec)

/-- ITS FALSE NEIGHBOUR: 'it returns false'. Refute it at one input. -/
def fnExactOpenBatchesWrong : ChangeSpec := { name := "fnExactOpenBatches", fn := fun _ => fun
  | [d] => { results := [.lit (.bool false)], args := [d] }
  | _ => none }
def FnExactOpenBatchesWrongFalsely : Prop := fnExactOpenBatchesRow.holds Try.pinned (OpenSpec.ofChange fnExactOpenBatchesWrong)

/-- 'laws.FnExactLostBatches': WHATEVER THE INPUT: true; the input reads as it did. -/
def fnExactLostBatchesSpec : ChangeSpec := { name := "fnExactLostBatches", fn := fun _ => fun
  | [d1, d2] => { results := [.lit (.bool true)], args := [d1, d2] }
  | _ => none }
def fnExactLostBatchesRow : OpenClaim := { program := "ytkeiekhikpoeaaa", sum := "96c5021f5b1fa5b2e1bed836f240217785bbbdca4e5f8b1db539f33dd3ac6ec8", func := "loop.example/telemetryagent/laws.FnExactLostBatches", spec := "fnExactLostBatches", apart := false }
def FnExactLostBatchesSaid : Prop := fnExactLostBatchesRow.holds Try.pinned (OpenSpec.ofChange fnExactLostBatchesSpec)

/-- ITS FALSE NEIGHBOUR: 'it returns false'. Refute it at one input. -/
def fnExactLostBatchesWrong : ChangeSpec := { name := "fnExactLostBatches", fn := fun _ => fun
  | [d1, d2] => { results := [.lit (.bool false)], args := [d1, d2] }
  | _ => none }
def FnExactLostBatchesWrongFalsely : Prop := fnExactLostBatchesRow.holds Try.pinned (OpenSpec.ofChange fnExactLostBatchesWrong)

/- THE SECOND FORM. 'bulk': how many values and letters a reading holds, each counted each time it is reached (what is shared counts as often as it is met; a slice's spare places count too). A statement '..UptoSaid' is the law's where the arguments, and the package variables that the reading takes, are together of bulk at most 1048576: NARROWER than '..Said'. Prove '..Said' where nothing that the law and all that it calls make is longer than what came in: it says more and counts as full. Else prove '..UptoSaid'. A law counts once. -/
mutual
def uptoBulk {H : Type} : DataW H → Nat
  | .lit (.string bytes) => bytes.length + 1
  | .lit _ => 1
  | .nil => 1
  | .ptr d => uptoBulk d + 1
  | .slice elems spare => uptoBulkAll elems + uptoBulkAll spare + 1
  | .agg parts => uptoBulkAll parts + 1
  | .iface _ d => uptoBulk d + 1
  | .map entries => uptoBulkEntries entries + 1
  | .held _ => 1
def uptoBulkAll {H : Type} : List (DataW H) → Nat
  | [] => 0
  | d :: r => uptoBulk d + uptoBulkAll r
def uptoBulkEntries {H : Type} : List (Lit × DataW H) → Nat
  | [] => 0
  | x :: r => uptoBulkEntry x + uptoBulkEntries r
def uptoBulkEntry {H : Type} : Lit × DataW H → Nat
  | (.string bytes, d) => bytes.length + uptoBulk d + 1
  | (_, d) => uptoBulk d + 1
 end
def uptoSmall : (H : Type) → List (DataW H) → Bool := fun _ ds => decide (uptoBulkAll ds ≤ 1048576)
def OpenSpec.upto (s : _root_.Go.ChangeSpec) : _root_.Go.OpenSpec := { _root_.Go.OpenSpec.ofChange s with cond := some uptoSmall }

/-- 'laws.FnExactValidWindow', WHERE WHAT IT READS IS OF BULK AT MOST 1048576: true; the input reads as it did. -/
def fnExactValidWindowUptoRow : OpenClaim := { program := "ytkeiekhikpoeaaa", sum := "96c5021f5b1fa5b2e1bed836f240217785bbbdca4e5f8b1db539f33dd3ac6ec8", func := "loop.example/telemetryagent/laws.FnExactValidWindow", spec := "fnExactValidWindow", apart := false, narrowed := true }
def FnExactValidWindowUptoSaid : Prop := fnExactValidWindowUptoRow.holds Try.pinned (OpenSpec.upto fnExactValidWindowSpec)

/-- 'laws.FnExactSendNext', WHERE WHAT IT READS IS OF BULK AT MOST 1048576: true; the input reads as it did. -/
def fnExactSendNextUptoRow : OpenClaim := { program := "ytkeiekhikpoeaaa", sum := "96c5021f5b1fa5b2e1bed836f240217785bbbdca4e5f8b1db539f33dd3ac6ec8", func := "loop.example/telemetryagent/laws.FnExactSendNext", spec := "fnExactSendNext", apart := false, narrowed := true }
def FnExactSendNextUptoSaid : Prop := fnExactSendNextUptoRow.holds Try.pinned (OpenSpec.upto fnExactSendNextSpec)

/-- 'laws.FnExactAckBatch', WHERE WHAT IT READS IS OF BULK AT MOST 1048576: true; the input reads as it did. -/
def fnExactAckBatchUptoRow : OpenClaim := { program := "ytkeiekhikpoeaaa", sum := "96c5021f5b1fa5b2e1bed836f240217785bbbdca4e5f8b1db539f33dd3ac6ec8", func := "loop.example/telemetryagent/laws.FnExactAckBatch", spec := "fnExactAckBatch", apart := false, narrowed := true }
def FnExactAckBatchUptoSaid : Prop := fnExactAckBatchUptoRow.holds Try.pinned (OpenSpec.upto fnExactAckBatchSpec)

/-- 'laws.FnExactOpenBatches', WHERE WHAT IT READS IS OF BULK AT MOST 1048576: true; the input reads as it did. -/
def fnExactOpenBatchesUptoRow : OpenClaim := { program := "ytkeiekhikpoeaaa", sum := "96c5021f5b1fa5b2e1bed836f240217785bbbdca4e5f8b1db539f33dd3ac6ec8", func := "loop.example/telemetryagent/laws.FnExactOpenBatches", spec := "fnExactOpenBatches", apart := false, narrowed := true }
def FnExactOpenBatchesUptoSaid : Prop := fnExactOpenBatchesUptoRow.holds Try.pinned (OpenSpec.upto fnExactOpenBatchesSpec)

/-- 'laws.FnExactLostBatches', WHERE WHAT IT READS IS OF BULK AT MOST 1048576: true; the input reads as it did. -/
def fnExactLostBatchesUptoRow : OpenClaim := { program := "ytkeiekhikpoeaaa", sum := "96c5021f5b1fa5b2e1bed836f240217785bbbdca4e5f8b1db539f33dd3ac6ec8", func := "loop.example/telemetryagent/laws.FnExactLostBatches", spec := "fnExactLostBatches", apart := false, narrowed := true }
def FnExactLostBatchesUptoSaid : Prop := fnExactLostBatchesUptoRow.holds Try.pinned (OpenSpec.upto fnExactLostBatchesSpec)

end Rows
end Go.Proofs.Ytkeiekhikpoeaaa
