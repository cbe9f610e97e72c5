/-
  No cell of these rows narrows 'for every input' (looked for: loops, veiled, ifaces, maps, wideKeys, modest, calm, conditions, laid).
  DERIVED. THE GIVEN ROWS OF THIS SEAT. 5 by the template 'for every input the law returns true; each argument reads behind the call as it read before'; 0 by the template 'total and deterministic' (their statements: YtcbphifadokfeaaTotals.lean).
  GIVEN WITH THE SEED: the statements are not yours to turn. If you find one false, say at which input.
  Laid BY PROGRAM, IN A SANDBOX (cutbox-rows.mjs): the forced cells as the released guide's own fill.sh prints them over the translation 139e501b88852410… (all of the seat's roots in one cut). By AI agents, Wed Nov 11 2026. No macro, syntax, notation, axiom, sorry.
-/
import Derived.Test.YtcbphifadokfeaaChecked
import GoSem.Claim
import GoSem.ClaimJoined
import GoSem.ClaimMapViews
import Derived.JoinedTies
import Derived.KernelRfl
namespace Go.Proofs.Ytcbphifadokfeaa
/- THE CELL 'sum', in the pinned program and in every row, IS THE sha256 OF THE DUMP (.gsa) THAT YtcbphifadokfeaaProg.lean LOADS. Nothing in Lean hashes anything: it is a label: what it is worth is what the hold of that sum in a sandbox is worth. -/
noncomputable def Try.pinned : Pinned := { name := "ytcbphifadokfeaa", sum := "139e501b88852410f41423a453e4da00188371e134d89c03c4efeff834e7c2f5", checked := Try.checked }
namespace Rows
def none {H : Type} : Left H := { results := [], args := [] }

/-- 'laws.FnExactValidMarks': WHATEVER THE INPUT: true; the input reads as it did. -/
def fnExactValidMarksSpec : ChangeSpec := { name := "fnExactValidMarks", fn := fun _ => fun
  | [d] => { results := [.lit (.bool true)], args := [d] }
  | _ => none }
def fnExactValidMarksRow : OpenClaim := { program := "ytcbphifadokfeaa", sum := "139e501b88852410f41423a453e4da00188371e134d89c03c4efeff834e7c2f5", func := "loop.example/telemetryagent/laws.FnExactValidMarks", spec := "fnExactValidMarks", apart := false }
def FnExactValidMarksSaid : Prop := fnExactValidMarksRow.holds Try.pinned (OpenSpec.ofChange fnExactValidMarksSpec)

/-- ITS FALSE NEIGHBOUR: 'it returns false'. Refute it at one input. -/
def fnExactValidMarksWrong : ChangeSpec := { name := "fnExactValidMarks", fn := fun _ => fun
  | [d] => { results := [.lit (.bool false)], args := [d] }
  | _ => none }
def FnExactValidMarksWrongFalsely : Prop := fnExactValidMarksRow.holds Try.pinned (OpenSpec.ofChange fnExactValidMarksWrong)

/-- 'laws.FnExactLoadOf': WHATEVER THE INPUT: true; the input reads as it did. -/
def fnExactLoadOfSpec : ChangeSpec := { name := "fnExactLoadOf", fn := fun _ => fun
  | [d] => { results := [.lit (.bool true)], args := [d] }
  | _ => none }
def fnExactLoadOfRow : OpenClaim := { program := "ytcbphifadokfeaa", sum := "139e501b88852410f41423a453e4da00188371e134d89c03c4efeff834e7c2f5", func := "loop.example/telemetryagent/laws.FnExactLoadOf", spec := "fnExactLoadOf", apart := false }
def FnExactLoadOfSaid : Prop := fnExactLoadOfRow.holds Try.pinned (OpenSpec.ofChange fnExactLoadOfSpec)

/-- ITS FALSE NEIGHBOUR: 'it returns false'. Refute it at one input. -/
def fnExactLoadOfWrong : ChangeSpec := { name := "fnExactLoadOf", fn := fun _ => fun
  | [d] => { results := [.lit (.bool false)], args := [d] }
  | _ => none }
def FnExactLoadOfWrongFalsely : Prop := fnExactLoadOfRow.holds Try.pinned (OpenSpec.ofChange fnExactLoadOfWrong)

/-- 'laws.FnValidMarks': WHATEVER THE INPUT: true; the input reads as it did. -/
def fnValidMarksSpec : ChangeSpec := { name := "fnValidMarks", fn := fun _ => fun
  | [d] => { results := [.lit (.bool true)], args := [d] }
  | _ => none }
def fnValidMarksRow : OpenClaim := { program := "ytcbphifadokfeaa", sum := "139e501b88852410f41423a453e4da00188371e134d89c03c4efeff834e7c2f5", func := "loop.example/telemetryagent/laws.FnValidMarks", spec := "fnValidMarks", apart := false }
def FnValidMarksSaid : Prop := fnValidMarksRow.holds Try.pinned (OpenSpec.ofChange fnValidMarksSpec)

/-- ITS FALSE NEIGHBOUR: 'it returns false'. Refute it at one input. -/
def fnValidMarksWrong : ChangeSpec := { name := "fnValidMarks", fn := fun _ => fun
  | [d] => { results := [.lit (.bool false)], args := [d] }
  | _ => none }
def FnValidMarksWrongFalsely : Prop := fnValidMarksRow.holds Try.pinned (OpenSpec.ofChange fnValidMarksWrong)

/-- 'laws.FnLoadOf': WHATEVER THE INPUT: true; the input reads as it did. -/
def fnLoadOfSpec : ChangeSpec := { name := "fnLoadOf", fn := fun _ => fun
  | [d] => { results := [.lit (.bool true)], args := [d] }
  | _ => none }
def fnLoadOfRow : OpenClaim := { program := "ytcbphifadokfeaa", sum := "139e501b88852410f41423a453e4da00188371e134d89c03c4efeff834e7c2f5", func := "loop.example/telemetryagent/laws.FnLoadOf", spec := "fnLoadOf", apart := false }
def FnLoadOfSaid : Prop := fnLoadOfRow.holds Try.pinned (OpenSpec.ofChange fnLoadOfSpec)

/-- ITS FALSE NEIGHBOUR: 'it returns false'. Refute it at one input. -/
def fnLoadOfWrong : ChangeSpec := { name := "fnLoadOf", fn := fun _ => fun
  | [d] => { results := [.lit (.bool false)], args := [d] }
  | _ => none }
def FnLoadOfWrongFalsely : Prop := fnLoadOfRow.holds Try.pinned (OpenSpec.ofChange fnLoadOfWrong)

/-- 'laws.FnLoadOfTake': WHATEVER THE INPUT: true; the input reads as it did. -/
def fnLoadOfTakeSpec : ChangeSpec := { name := "fnLoadOfTake", fn := fun _ => fun
  | [d] => { results := [.lit (.bool true)], args := [d] }
  | _ => none }
def fnLoadOfTakeRow : OpenClaim := { program := "ytcbphifadokfeaa", sum := "139e501b88852410f41423a453e4da00188371e134d89c03c4efeff834e7c2f5", func := "loop.example/telemetryagent/laws.FnLoadOfTake", spec := "fnLoadOfTake", apart := false }
def FnLoadOfTakeSaid : Prop := fnLoadOfTakeRow.holds Try.pinned (OpenSpec.ofChange fnLoadOfTakeSpec)

/-- ITS FALSE NEIGHBOUR: 'it returns false'. Refute it at one input. -/
def fnLoadOfTakeWrong : ChangeSpec := { name := "fnLoadOfTake", fn := fun _ => fun
  | [d] => { results := [.lit (.bool false)], args := [d] }
  | _ => none }
def FnLoadOfTakeWrongFalsely : Prop := fnLoadOfTakeRow.holds Try.pinned (OpenSpec.ofChange fnLoadOfTakeWrong)

/- THE SECOND FORM. 'bulk': how many values and letters a reading holds, each counted each time it is reached (what is shared counts as often as it is met; a slice's spare places count too). A statement '..UptoSaid' is the law's where the arguments, and the package variables that the reading takes, are together of bulk at most 1048576: NARROWER than '..Said'. Prove '..Said' where nothing that the law and all that it calls make is longer than what came in: it says more and counts as full. Else prove '..UptoSaid'. A law counts once. -/
mutual
def uptoBulk {H : Type} : DataW H → Nat
  | .lit (.string bytes) => bytes.length + 1
  | .lit _ => 1
  | .nil => 1
  | .ptr d => uptoBulk d + 1
  | .slice elems spare => uptoBulkAll elems + uptoBulkAll spare + 1
  | .agg parts => uptoBulkAll parts + 1
  | .iface _ d => uptoBulk d + 1
  | .map entries => uptoBulkEntries entries + 1
  | .held _ => 1
def uptoBulkAll {H : Type} : List (DataW H) → Nat
  | [] => 0
  | d :: r => uptoBulk d + uptoBulkAll r
def uptoBulkEntries {H : Type} : List (Lit × DataW H) → Nat
  | [] => 0
  | x :: r => uptoBulkEntry x + uptoBulkEntries r
def uptoBulkEntry {H : Type} : Lit × DataW H → Nat
  | (.string bytes, d) => bytes.length + uptoBulk d + 1
  | (_, d) => uptoBulk d + 1
 end
def uptoSmall : (H : Type) → List (DataW H) → Bool := fun _ ds => decide (uptoBulkAll ds ≤ 1048576)
def OpenSpec.upto (s : _root_.Go.ChangeSpec) : _root_.Go.OpenSpec := { _root_.Go.OpenSpec.ofChange s with cond := some uptoSmall }

/-- 'laws.FnExactValidMarks', WHERE WHAT IT READS IS OF BULK AT MOST 1048576: true; the input reads as it did. -/
def fnExactValidMarksUptoRow : OpenClaim := { program := "ytcbphifadokfeaa", sum := "139e501b88852410f41423a453e4da00188371e134d89c03c4efeff834e7c2f5", func := "loop.example/telemetryagent/laws.FnExactValidMarks", spec := "fnExactValidMarks", apart := false, narrowed := true }
def FnExactValidMarksUptoSaid : Prop := fnExactValidMarksUptoRow.holds Try.pinned (OpenSpec.upto fnExactValidMarksSpec)

/-- 'laws.FnExactLoadOf', WHERE WHAT IT READS IS OF BULK AT MOST 1048576: true; the input reads as it did. -/
def fnExactLoadOfUptoRow : OpenClaim := { program := "ytcbphifadokfeaa", sum := "139e501b88852410f41423a453e4da00188371e134d89c03c4efeff834e7c2f5", func := "loop.example/telemetryagent/laws.FnExactLoadOf", spec := "fnExactLoadOf", apart := false, narrowed := true }
def FnExactLoadOfUptoSaid : Prop := fnExactLoadOfUptoRow.holds Try.pinned (OpenSpec.upto fnExactLoadOfSpec)

/-- 'laws.FnValidMarks', WHERE WHAT IT READS IS OF BULK AT MOST 1048576: true; the input reads as it did. -/
def fnValidMarksUptoRow : OpenClaim := { program := "ytcbphifadokfeaa", sum := "139e501b88852410f41423a453e4da00188371e134d89c03c4efeff834e7c2f5", func := "loop.example/telemetryagent/laws.FnValidMarks", spec := "fnValidMarks", apart := false, narrowed := true }
def FnValidMarksUptoSaid : Prop := fnValidMarksUptoRow.holds Try.pinned (OpenSpec.upto fnValidMarksSpec)

/-- 'laws.FnLoadOf', WHERE WHAT IT READS IS OF BULK AT MOST 1048576: true; the input reads as it did. -/
def fnLoadOfUptoRow : OpenClaim := { program := "ytcbphifadokfeaa", sum := "139e501b88852410f41423a453e4da00188371e134d89c03c4efeff834e7c2f5", func := "loop.example/telemetryagent/laws.FnLoadOf", spec := "fnLoadOf", apart := false, narrowed := true }
def FnLoadOfUptoSaid : Prop := fnLoadOfUptoRow.holds Try.pinned (OpenSpec.upto fnLoadOfSpec)

/-- 'laws.FnLoadOfTake', WHERE WHAT IT READS IS OF BULK AT MOST 1048576: true; the input reads as it did. -/
def fnLoadOfTakeUptoRow : OpenClaim := { program := "ytcbphifadokfeaa", sum := "139e501b88852410f41423a453e4da00188371e134d89c03c4efeff834e7c2f5", func := "loop.example/telemetryagent/laws.FnLoadOfTake", spec := "fnLoadOfTake", apart := false, narrowed := true }
def FnLoadOfTakeUptoSaid : Prop := fnLoadOfTakeUptoRow.holds Try.pinned (OpenSpec.upto fnLoadOfTakeSpec)

end Rows
end Go.Proofs.Ytcbphifadokfeaa
