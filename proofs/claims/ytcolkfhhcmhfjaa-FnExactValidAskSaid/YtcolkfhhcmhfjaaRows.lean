/-
  No cell of these rows narrows 'for every input' (looked for: loops, veiled, ifaces, maps, wideKeys, modest, calm, conditions, laid).
  DERIVED. THE GIVEN ROWS OF THIS SEAT. 5 by the template 'for every input the law returns true; each argument reads behind the call as it read before'; 0 by the template 'total and deterministic' (their statements: YtcolkfhhcmhfjaaTotals.lean).
  GIVEN WITH THE SEED: the statements are not yours to turn. If you find one false, say at which input.
  Laid BY PROGRAM, IN A SANDBOX (cutbox-rows.mjs): the forced cells as the released guide's own fill.sh prints them over the translation a000167d28c88c72… (all of the seat's roots in one cut). By AI agents, Wed Nov 11 2026. No macro, syntax, notation, axiom, sorry.
-/
import Derived.Test.YtcolkfhhcmhfjaaChecked
import GoSem.Claim
import GoSem.ClaimJoined
import GoSem.ClaimMapViews
import Derived.JoinedTies
import Derived.KernelRfl
namespace Go.Proofs.Ytcolkfhhcmhfjaa
/- THE CELL 'sum', in the pinned program and in every row, IS THE sha256 OF THE DUMP (.gsa) THAT YtcolkfhhcmhfjaaProg.lean LOADS. Nothing in Lean hashes anything: it is a label: what it is worth is what the hold of that sum in a sandbox is worth. -/
noncomputable def Try.pinned : Pinned := { name := "ytcolkfhhcmhfjaa", sum := "a000167d28c88c7241bb58954b7dfb9ccb88b7dfef66ab4c14199d16de3b67d4", checked := Try.checked }
namespace Rows
def none {H : Type} : Left H := { results := [], args := [] }

/-- 'laws.FnExactValidAsk': WHATEVER THE INPUT: true; the input reads as it did. -/
def fnExactValidAskSpec : ChangeSpec := { name := "fnExactValidAsk", fn := fun _ => fun
  | [d1, d2, d3, d4] => { results := [.lit (.bool true)], args := [d1, d2, d3, d4] }
  | _ => none }
def fnExactValidAskRow : OpenClaim := { program := "ytcolkfhhcmhfjaa", sum := "a000167d28c88c7241bb58954b7dfb9ccb88b7dfef66ab4c14199d16de3b67d4", func := "loop.example/telemetryagent/laws.FnExactValidAsk", spec := "fnExactValidAsk", apart := false }
def FnExactValidAskSaid : Prop := fnExactValidAskRow.holds Try.pinned (OpenSpec.ofChange fnExactValidAskSpec)

/-- ITS FALSE NEIGHBOUR: 'it returns false'. Refute it at one input. -/
def fnExactValidAskWrong : ChangeSpec := { name := "fnExactValidAsk", fn := fun _ => fun
  | [d1, d2, d3, d4] => { results := [.lit (.bool false)], args := [d1, d2, d3, d4] }
  | _ => none }
def FnExactValidAskWrongFalsely : Prop := fnExactValidAskRow.holds Try.pinned (OpenSpec.ofChange fnExactValidAskWrong)

/-- 'laws.FnExactAnswerFor': WHATEVER THE INPUT: true; the input reads as it did. -/
def fnExactAnswerForSpec : ChangeSpec := { name := "fnExactAnswerFor", fn := fun _ => fun
  | [d1, d2, d3, d4] => { results := [.lit (.bool true)], args := [d1, d2, d3, d4] }
  | _ => none }
def fnExactAnswerForRow : OpenClaim := { program := "ytcolkfhhcmhfjaa", sum := "a000167d28c88c7241bb58954b7dfb9ccb88b7dfef66ab4c14199d16de3b67d4", func := "loop.example/telemetryagent/laws.FnExactAnswerFor", spec := "fnExactAnswerFor", unfollowed := true, recurses := true, apart := false }
def FnExactAnswerForSaid : Prop := fnExactAnswerForRow.holds Try.pinned (OpenSpec.ofChange fnExactAnswerForSpec)

/-- ITS FALSE NEIGHBOUR: 'it returns false'. Refute it at one input. -/
def fnExactAnswerForWrong : ChangeSpec := { name := "fnExactAnswerFor", fn := fun _ => fun
  | [d1, d2, d3, d4] => { results := [.lit (.bool false)], args := [d1, d2, d3, d4] }
  | _ => none }
def FnExactAnswerForWrongFalsely : Prop := fnExactAnswerForRow.holds Try.pinned (OpenSpec.ofChange fnExactAnswerForWrong)

/-- 'laws.FnExactShedNames': WHATEVER THE INPUT: true; the input reads as it did. -/
def fnExactShedNamesSpec : ChangeSpec := { name := "fnExactShedNames", fn := fun _ => fun
  | [d1, d2, d3, d4] => { results := [.lit (.bool true)], args := [d1, d2, d3, d4] }
  | _ => none }
def fnExactShedNamesRow : OpenClaim := { program := "ytcolkfhhcmhfjaa", sum := "a000167d28c88c7241bb58954b7dfb9ccb88b7dfef66ab4c14199d16de3b67d4", func := "loop.example/telemetryagent/laws.FnExactShedNames", spec := "fnExactShedNames", unfollowed := true, recurses := true, apart := false }
def FnExactShedNamesSaid : Prop := fnExactShedNamesRow.holds Try.pinned (OpenSpec.ofChange fnExactShedNamesSpec)

/-- ITS FALSE NEIGHBOUR: 'it returns false'. Refute it at one input. -/
def fnExactShedNamesWrong : ChangeSpec := { name := "fnExactShedNames", fn := fun _ => fun
  | [d1, d2, d3, d4] => { results := [.lit (.bool false)], args := [d1, d2, d3, d4] }
  | _ => none }
def FnExactShedNamesWrongFalsely : Prop := fnExactShedNamesRow.holds Try.pinned (OpenSpec.ofChange fnExactShedNamesWrong)

/-- 'laws.FnExactTakeItem': WHATEVER THE INPUT: true; the input reads as it did. -/
def fnExactTakeItemSpec : ChangeSpec := { name := "fnExactTakeItem", fn := fun _ => fun
  | [d1, d2, d3, d4, d5] => { results := [.lit (.bool true)], args := [d1, d2, d3, d4, d5] }
  | _ => none }
def fnExactTakeItemRow : OpenClaim := { program := "ytcolkfhhcmhfjaa", sum := "a000167d28c88c7241bb58954b7dfb9ccb88b7dfef66ab4c14199d16de3b67d4", func := "loop.example/telemetryagent/laws.FnExactTakeItem", spec := "fnExactTakeItem", unfollowed := true, recurses := true, apart := false }
def FnExactTakeItemSaid : Prop := fnExactTakeItemRow.holds Try.pinned (OpenSpec.ofChange fnExactTakeItemSpec)

/-- ITS FALSE NEIGHBOUR: 'it returns false'. Refute it at one input. -/
def fnExactTakeItemWrong : ChangeSpec := { name := "fnExactTakeItem", fn := fun _ => fun
  | [d1, d2, d3, d4, d5] => { results := [.lit (.bool false)], args := [d1, d2, d3, d4, d5] }
  | _ => none }
def FnExactTakeItemWrongFalsely : Prop := fnExactTakeItemRow.holds Try.pinned (OpenSpec.ofChange fnExactTakeItemWrong)

/-- 'laws.FnExactWaitFor': WHATEVER THE INPUT: true; the input reads as it did. -/
def fnExactWaitForSpec : ChangeSpec := { name := "fnExactWaitFor", fn := fun _ => fun
  | [d1, d2, d3, d4, d5] => { results := [.lit (.bool true)], args := [d1, d2, d3, d4, d5] }
  | _ => none }
def fnExactWaitForRow : OpenClaim := { program := "ytcolkfhhcmhfjaa", sum := "a000167d28c88c7241bb58954b7dfb9ccb88b7dfef66ab4c14199d16de3b67d4", func := "loop.example/telemetryagent/laws.FnExactWaitFor", spec := "fnExactWaitFor", unfollowed := true, recurses := true, apart := false }
def FnExactWaitForSaid : Prop := fnExactWaitForRow.holds Try.pinned (OpenSpec.ofChange fnExactWaitForSpec)

/-- ITS FALSE NEIGHBOUR: 'it returns false'. Refute it at one input. -/
def fnExactWaitForWrong : ChangeSpec := { name := "fnExactWaitFor", fn := fun _ => fun
  | [d1, d2, d3, d4, d5] => { results := [.lit (.bool false)], args := [d1, d2, d3, d4, d5] }
  | _ => none }
def FnExactWaitForWrongFalsely : Prop := fnExactWaitForRow.holds Try.pinned (OpenSpec.ofChange fnExactWaitForWrong)

/- THE SECOND FORM. 'bulk': how many values and letters a reading holds, each counted each time it is reached (what is shared counts as often as it is met; a slice's spare places count too). A statement '..UptoSaid' is the law's where the arguments, and the package variables that the reading takes, are together of bulk at most 1048576: NARROWER than '..Said'. Prove '..Said' where nothing that the law and all that it calls make is longer than what came in: it says more and counts as full. Else prove '..UptoSaid'. A law counts once. -/
mutual
def uptoBulk {H : Type} : DataW H → Nat
  | .lit (.string bytes) => bytes.length + 1
  | .lit _ => 1
  | .nil => 1
  | .ptr d => uptoBulk d + 1
  | .slice elems spare => uptoBulkAll elems + uptoBulkAll spare + 1
  | .agg parts => uptoBulkAll parts + 1
  | .iface _ d => uptoBulk d + 1
  | .map entries => uptoBulkEntries entries + 1
  | .held _ => 1
def uptoBulkAll {H : Type} : List (DataW H) → Nat
  | [] => 0
  | d :: r => uptoBulk d + uptoBulkAll r
def uptoBulkEntries {H : Type} : List (Lit × DataW H) → Nat
  | [] => 0
  | x :: r => uptoBulkEntry x + uptoBulkEntries r
def uptoBulkEntry {H : Type} : Lit × DataW H → Nat
  | (.string bytes, d) => bytes.length + uptoBulk d + 1
  | (_, d) => uptoBulk d + 1
 end
def uptoSmall : (H : Type) → List (DataW H) → Bool := fun _ ds => decide (uptoBulkAll ds ≤ 1048576)
def OpenSpec.upto (s : _root_.Go.ChangeSpec) : _root_.Go.OpenSpec := { _root_.Go.OpenSpec.ofChange s with cond := some uptoSmall }

/-- 'laws.FnExactValidAsk', WHERE WHAT IT READS IS OF BULK AT MOST 1048576: true; the input reads as it did. -/
def fnExactValidAskUptoRow : OpenClaim := { program := "ytcolkfhhcmhfjaa", sum := "a000167d28c88c7241bb58954b7dfb9ccb88b7dfef66ab4c14199d16de3b67d4", func := "loop.example/telemetryagent/laws.FnExactValidAsk", spec := "fnExactValidAsk", apart := false, narrowed := true }
def FnExactValidAskUptoSaid : Prop := fnExactValidAskUptoRow.holds Try.pinned (OpenSpec.upto fnExactValidAskSpec)

/-- 'laws.FnExactAnswerFor', WHERE WHAT IT READS IS OF BULK AT MOST 1048576: true; the input reads as it did. -/
def fnExactAnswerForUptoRow : OpenClaim := { program := "ytcolkfhhcmhfjaa", sum := "a000167d28c88c7241bb58954b7dfb9ccb88b7dfef66ab4c14199d16de3b67d4", func := "loop.example/telemetryagent/laws.FnExactAnswerFor", spec := "fnExactAnswerFor", unfollowed := true, recurses := true, apart := false, narrowed := true }
def FnExactAnswerForUptoSaid : Prop := fnExactAnswerForUptoRow.holds Try.pinned (OpenSpec.upto fnExactAnswerForSpec)

/-- 'laws.FnExactShedNames', WHERE WHAT IT READS IS OF BULK AT MOST 1048576: true; the input reads as it did. -/
def fnExactShedNamesUptoRow : OpenClaim := { program := "ytcolkfhhcmhfjaa", sum := "a000167d28c88c7241bb58954b7dfb9ccb88b7dfef66ab4c14199d16de3b67d4", func := "loop.example/telemetryagent/laws.FnExactShedNames", spec := "fnExactShedNames", unfollowed := true, recurses := true, apart := false, narrowed := true }
def FnExactShedNamesUptoSaid : Prop := fnExactShedNamesUptoRow.holds Try.pinned (OpenSpec.upto fnExactShedNamesSpec)

/-- 'laws.FnExactTakeItem', WHERE WHAT IT READS IS OF BULK AT MOST 1048576: true; the input reads as it did. -/
def fnExactTakeItemUptoRow : OpenClaim := { program := "ytcolkfhhcmhfjaa", sum := "a000167d28c88c7241bb58954b7dfb9ccb88b7dfef66ab4c14199d16de3b67d4", func := "loop.example/telemetryagent/laws.FnExactTakeItem", spec := "fnExactTakeItem", unfollowed := true, recurses := true, apart := false, narrowed := true }
def FnExactTakeItemUptoSaid : Prop := fnExactTakeItemUptoRow.holds Try.pinned (OpenSpec.upto fnExactTakeItemSpec)

/-- 'laws.FnExactWaitFor', WHERE WHAT IT READS IS OF BULK AT MOST 1048576: true; the input reads as it did. -/
def fnExactWaitForUptoRow : OpenClaim := { program := "ytcolkfhhcmhfjaa", sum := "a000167d28c88c7241bb58954b7dfb9ccb88b7dfef66ab4c14199d16de3b67d4", func := "loop.example/telemetryagent/laws.FnExactWaitFor", spec := "fnExactWaitFor", unfollowed := true, recurses := true, apart := false, narrowed := true }
def FnExactWaitForUptoSaid : Prop := fnExactWaitForUptoRow.holds Try.pinned (OpenSpec.upto fnExactWaitForSpec)

end Rows
end Go.Proofs.Ytcolkfhhcmhfjaa
