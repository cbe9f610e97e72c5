/-
  No cell of these rows narrows 'for every input' (looked for: loops, veiled, ifaces, maps, wideKeys, modest, calm, conditions, laid).
  DERIVED. THE GIVEN ROWS OF THIS SEAT. 4 by the template 'for every input the law returns true; each argument reads behind the call as it read before'; 0 by the template 'total and deterministic' (their statements: YtdfhhjdefmogbaaTotals.lean).
  GIVEN WITH THE SEED: the statements are not yours to turn. If you find one false, say at which input.
  Laid BY PROGRAM, IN A SANDBOX (cutbox-rows.mjs): the forced cells as the released guide's own fill.sh prints them over the translation 17379010567f611d… (all of the seat's roots in one cut). By AI agents, Wed Nov 11 2026. No macro, syntax, notation, axiom, sorry.
-/
import Derived.Test.YtdfhhjdefmogbaaChecked
import GoSem.Claim
import GoSem.ClaimJoined
import GoSem.ClaimMapViews
import Derived.JoinedTies
import Derived.KernelRfl
namespace Go.Proofs.Ytdfhhjdefmogbaa
/- THE CELL 'sum', in the pinned program and in every row, IS THE sha256 OF THE DUMP (.gsa) THAT YtdfhhjdefmogbaaProg.lean LOADS. Nothing in Lean hashes anything: it is a label: what it is worth is what the hold of that sum in a sandbox is worth. -/
noncomputable def Try.pinned : Pinned := { name := "ytdfhhjdefmogbaa", sum := "17379010567f611dabab2092fe042d22066037393fad3fc5370547dab570ed9f", checked := Try.checked }
namespace Rows
def none {H : Type} : Left H := { results := [], args := [] }

/-- 'laws.FnExactFlushTimes': WHATEVER THE INPUT: true; the input reads as it did. -/
def fnExactFlushTimesSpec : ChangeSpec := { name := "fnExactFlushTimes", fn := fun _ => fun
  | [d1, d2, d3] => { results := [.lit (.bool true)], args := [d1, d2, d3] }
  | _ => none }
def fnExactFlushTimesRow : OpenClaim := { program := "ytdfhhjdefmogbaa", sum := "17379010567f611dabab2092fe042d22066037393fad3fc5370547dab570ed9f", func := "loop.example/telemetryagent/laws.FnExactFlushTimes", spec := "fnExactFlushTimes", apart := false }
def FnExactFlushTimesSaid : Prop := fnExactFlushTimesRow.holds Try.pinned (OpenSpec.ofChange fnExactFlushTimesSpec)

/-- ITS FALSE NEIGHBOUR: 'it returns false'. Refute it at one input. -/
def fnExactFlushTimesWrong : ChangeSpec := { name := "fnExactFlushTimes", fn := fun _ => fun
  | [d1, d2, d3] => { results := [.lit (.bool false)], args := [d1, d2, d3] }
  | _ => none }
def FnExactFlushTimesWrongFalsely : Prop := fnExactFlushTimesRow.holds Try.pinned (OpenSpec.ofChange fnExactFlushTimesWrong)

/-- 'laws.FnFlushTimes': WHATEVER THE INPUT: true; the input reads as it did. -/
def fnFlushTimesSpec : ChangeSpec := { name := "fnFlushTimes", fn := fun _ => fun
  | [d] => { results := [.lit (.bool true)], args := [d] }
  | _ => none }
def fnFlushTimesRow : OpenClaim := { program := "ytdfhhjdefmogbaa", sum := "17379010567f611dabab2092fe042d22066037393fad3fc5370547dab570ed9f", func := "loop.example/telemetryagent/laws.FnFlushTimes", spec := "fnFlushTimes", apart := false }
def FnFlushTimesSaid : Prop := fnFlushTimesRow.holds Try.pinned (OpenSpec.ofChange fnFlushTimesSpec)

/-- ITS FALSE NEIGHBOUR: 'it returns false'. Refute it at one input. -/
def fnFlushTimesWrong : ChangeSpec := { name := "fnFlushTimes", fn := fun _ => fun
  | [d] => { results := [.lit (.bool false)], args := [d] }
  | _ => none }
def FnFlushTimesWrongFalsely : Prop := fnFlushTimesRow.holds Try.pinned (OpenSpec.ofChange fnFlushTimesWrong)

/-- 'laws.FnFlushTimesOne': WHATEVER THE INPUT: true; the input reads as it did. -/
def fnFlushTimesOneSpec : ChangeSpec := { name := "fnFlushTimesOne", fn := fun _ => fun
  | [d] => { results := [.lit (.bool true)], args := [d] }
  | _ => none }
def fnFlushTimesOneRow : OpenClaim := { program := "ytdfhhjdefmogbaa", sum := "17379010567f611dabab2092fe042d22066037393fad3fc5370547dab570ed9f", func := "loop.example/telemetryagent/laws.FnFlushTimesOne", spec := "fnFlushTimesOne", apart := false }
def FnFlushTimesOneSaid : Prop := fnFlushTimesOneRow.holds Try.pinned (OpenSpec.ofChange fnFlushTimesOneSpec)

/-- ITS FALSE NEIGHBOUR: 'it returns false'. Refute it at one input. -/
def fnFlushTimesOneWrong : ChangeSpec := { name := "fnFlushTimesOne", fn := fun _ => fun
  | [d] => { results := [.lit (.bool false)], args := [d] }
  | _ => none }
def FnFlushTimesOneWrongFalsely : Prop := fnFlushTimesOneRow.holds Try.pinned (OpenSpec.ofChange fnFlushTimesOneWrong)

/-- 'laws.FnFlushTimesMove': WHATEVER THE INPUT: true; the input reads as it did. -/
def fnFlushTimesMoveSpec : ChangeSpec := { name := "fnFlushTimesMove", fn := fun _ => fun
  | [d] => { results := [.lit (.bool true)], args := [d] }
  | _ => none }
def fnFlushTimesMoveRow : OpenClaim := { program := "ytdfhhjdefmogbaa", sum := "17379010567f611dabab2092fe042d22066037393fad3fc5370547dab570ed9f", func := "loop.example/telemetryagent/laws.FnFlushTimesMove", spec := "fnFlushTimesMove", apart := false }
def FnFlushTimesMoveSaid : Prop := fnFlushTimesMoveRow.holds Try.pinned (OpenSpec.ofChange fnFlushTimesMoveSpec)

/-- ITS FALSE NEIGHBOUR: 'it returns false'. Refute it at one input. -/
def fnFlushTimesMoveWrong : ChangeSpec := { name := "fnFlushTimesMove", fn := fun _ => fun
  | [d] => { results := [.lit (.bool false)], args := [d] }
  | _ => none }
def FnFlushTimesMoveWrongFalsely : Prop := fnFlushTimesMoveRow.holds Try.pinned (OpenSpec.ofChange fnFlushTimesMoveWrong)

/- THE SECOND FORM. 'bulk': how many values and letters a reading holds, each counted each time it is reached (what is shared counts as often as it is met; a slice's spare places count too). A statement '..UptoSaid' is the law's where the arguments, and the package variables that the reading takes, are together of bulk at most 1048576: NARROWER than '..Said'. Prove '..Said' where nothing that the law and all that it calls make is longer than what came in: it says more and counts as full. Else prove '..UptoSaid'. A law counts once. -/
mutual
def uptoBulk {H : Type} : DataW H → Nat
  | .lit (.string bytes) => bytes.length + 1
  | .lit _ => 1
  | .nil => 1
  | .ptr d => uptoBulk d + 1
  | .slice elems spare => uptoBulkAll elems + uptoBulkAll spare + 1
  | .agg parts => uptoBulkAll parts + 1
  | .iface _ d => uptoBulk d + 1
  | .map entries => uptoBulkEntries entries + 1
  | .held _ => 1
def uptoBulkAll {H : Type} : List (DataW H) → Nat
  | [] => 0
  | d :: r => uptoBulk d + uptoBulkAll r
def uptoBulkEntries {H : Type} : List (Lit × DataW H) → Nat
  | [] => 0
  | x :: r => uptoBulkEntry x + uptoBulkEntries r
def uptoBulkEntry {H : Type} : Lit × DataW H → Nat
  | (.string bytes, d) => bytes.length + uptoBulk d + 1
  | (_, d) => uptoBulk d + 1
 end
def uptoSmall : (H : Type) → List (DataW H) → Bool := fun _ ds => decide (uptoBulkAll ds ≤ 1048576)
def OpenSpec.upto (s : _root_.Go.ChangeSpec) : _root_.Go.OpenSpec := { _root_.Go.OpenSpec.ofChange s with cond := some uptoSmall }

/-- 'laws.FnExactFlushTimes', WHERE WHAT IT READS IS OF BULK AT MOST 1048576: true; the input reads as it did. -/
def fnExactFlushTimesUptoRow : OpenClaim := { program := "ytdfhhjdefmogbaa", sum := "17379010567f611dabab2092fe042d22066037393fad3fc5370547dab570ed9f", func := "loop.example/telemetryagent/laws.FnExactFlushTimes", spec := "fnExactFlushTimes", apart := false, narrowed := true }
def FnExactFlushTimesUptoSaid : Prop := fnExactFlushTimesUptoRow.holds Try.pinned (OpenSpec.upto fnExactFlushTimesSpec)

/-- 'laws.FnFlushTimes', WHERE WHAT IT READS IS OF BULK AT MOST 1048576: true; the input reads as it did. -/
def fnFlushTimesUptoRow : OpenClaim := { program := "ytdfhhjdefmogbaa", sum := "17379010567f611dabab2092fe042d22066037393fad3fc5370547dab570ed9f", func := "loop.example/telemetryagent/laws.FnFlushTimes", spec := "fnFlushTimes", apart := false, narrowed := true }
def FnFlushTimesUptoSaid : Prop := fnFlushTimesUptoRow.holds Try.pinned (OpenSpec.upto fnFlushTimesSpec)

/-- 'laws.FnFlushTimesOne', WHERE WHAT IT READS IS OF BULK AT MOST 1048576: true; the input reads as it did. -/
def fnFlushTimesOneUptoRow : OpenClaim := { program := "ytdfhhjdefmogbaa", sum := "17379010567f611dabab2092fe042d22066037393fad3fc5370547dab570ed9f", func := "loop.example/telemetryagent/laws.FnFlushTimesOne", spec := "fnFlushTimesOne", apart := false, narrowed := true }
def FnFlushTimesOneUptoSaid : Prop := fnFlushTimesOneUptoRow.holds Try.pinned (OpenSpec.upto fnFlushTimesOneSpec)

/-- 'laws.FnFlushTimesMove', WHERE WHAT IT READS IS OF BULK AT MOST 1048576: true; the input reads as it did. -/
def fnFlushTimesMoveUptoRow : OpenClaim := { program := "ytdfhhjdefmogbaa", sum := "17379010567f611dabab2092fe042d22066037393fad3fc5370547dab570ed9f", func := "loop.example/telemetryagent/laws.FnFlushTimesMove", spec := "fnFlushTimesMove", apart := false, narrowed := true }
def FnFlushTimesMoveUptoSaid : Prop := fnFlushTimesMoveUptoRow.holds Try.pinned (OpenSpec.upto fnFlushTimesMoveSpec)

end Rows
end Go.Proofs.Ytdfhhjdefmogbaa
