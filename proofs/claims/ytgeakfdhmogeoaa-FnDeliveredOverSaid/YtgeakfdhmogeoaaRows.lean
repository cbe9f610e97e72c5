/-
  No cell of these rows narrows 'for every input' (looked for: loops, veiled, ifaces, maps, wideKeys, modest, calm, conditions, laid).
  DERIVED. THE GIVEN ROWS OF THIS SEAT. 8 by the template 'for every input the law returns true; each argument reads behind the call as it read before'; 0 by the template 'total and deterministic' (their statements: YtgeakfdhmogeoaaTotals.lean).
  GIVEN WITH THE SEED: the statements are not yours to turn. If you find one false, say at which input.
  Laid BY PROGRAM, IN A SANDBOX (cutbox-rows.mjs): the forced cells as the released guide's own fill.sh prints them over the translation d0077953b240d482… (all of the seat's roots in one cut). By AI agents, Wed Nov 11 2026. No macro, syntax, notation, axiom, sorry.
-/
import Derived.Test.YtgeakfdhmogeoaaChecked
import GoSem.Claim
import GoSem.ClaimJoined
import GoSem.ClaimMapViews
import Derived.JoinedTies
import Derived.KernelRfl
namespace Go.Proofs.Ytgeakfdhmogeoaa
/- THE CELL 'sum', in the pinned program and in every row, IS THE sha256 OF THE DUMP (.gsa) THAT YtgeakfdhmogeoaaProg.lean LOADS. Nothing in Lean hashes anything: it is a label: what it is worth is what the hold of that sum in a sandbox is worth. -/
noncomputable def Try.pinned : Pinned := { name := "ytgeakfdhmogeoaa", sum := "d0077953b240d482449d5c87e375baf09d2ff2479790af72cfbf5a4029a45ed9", checked := Try.checked }
namespace Rows
def none {H : Type} : Left H := { results := [], args := [] }

/-- 'laws.FnExactArrivedOver': WHATEVER THE INPUT: true; the input reads as it did. -/
def fnExactArrivedOverSpec : ChangeSpec := { name := "fnExactArrivedOver", fn := fun _ => fun
  | [d1, d2] => { results := [.lit (.bool true)], args := [d1, d2] }
  | _ => none }
def fnExactArrivedOverRow : OpenClaim := { program := "ytgeakfdhmogeoaa", sum := "d0077953b240d482449d5c87e375baf09d2ff2479790af72cfbf5a4029a45ed9", func := "loop.example/telemetryagent/laws.FnExactArrivedOver", spec := "fnExactArrivedOver", apart := false }
def FnExactArrivedOverSaid : Prop := fnExactArrivedOverRow.holds Try.pinned (OpenSpec.ofChange fnExactArrivedOverSpec)

/-- ITS FALSE NEIGHBOUR: 'it returns false'. Refute it at one input. -/
def fnExactArrivedOverWrong : ChangeSpec := { name := "fnExactArrivedOver", fn := fun _ => fun
  | [d1, d2] => { results := [.lit (.bool false)], args := [d1, d2] }
  | _ => none }
def FnExactArrivedOverWrongFalsely : Prop := fnExactArrivedOverRow.holds Try.pinned (OpenSpec.ofChange fnExactArrivedOverWrong)

/-- 'laws.FnExactDeliveredOver': WHATEVER THE INPUT: true; the input reads as it did. -/
def fnExactDeliveredOverSpec : ChangeSpec := { name := "fnExactDeliveredOver", fn := fun _ => fun
  | [d1, d2] => { results := [.lit (.bool true)], args := [d1, d2] }
  | _ => none }
def fnExactDeliveredOverRow : OpenClaim := { program := "ytgeakfdhmogeoaa", sum := "d0077953b240d482449d5c87e375baf09d2ff2479790af72cfbf5a4029a45ed9", func := "loop.example/telemetryagent/laws.FnExactDeliveredOver", spec := "fnExactDeliveredOver", apart := false }
def FnExactDeliveredOverSaid : Prop := fnExactDeliveredOverRow.holds Try.pinned (OpenSpec.ofChange fnExactDeliveredOverSpec)

/-- ITS FALSE NEIGHBOUR: 'it returns false'. Refute it at one input. -/
def fnExactDeliveredOverWrong : ChangeSpec := { name := "fnExactDeliveredOver", fn := fun _ => fun
  | [d1, d2] => { results := [.lit (.bool false)], args := [d1, d2] }
  | _ => none }
def FnExactDeliveredOverWrongFalsely : Prop := fnExactDeliveredOverRow.holds Try.pinned (OpenSpec.ofChange fnExactDeliveredOverWrong)

/-- 'laws.FnExactSendsOver': WHATEVER THE INPUT: true; the input reads as it did. -/
def fnExactSendsOverSpec : ChangeSpec := { name := "fnExactSendsOver", fn := fun _ => fun
  | [d1, d2] => { results := [.lit (.bool true)], args := [d1, d2] }
  | _ => none }
def fnExactSendsOverRow : OpenClaim := { program := "ytgeakfdhmogeoaa", sum := "d0077953b240d482449d5c87e375baf09d2ff2479790af72cfbf5a4029a45ed9", func := "loop.example/telemetryagent/laws.FnExactSendsOver", spec := "fnExactSendsOver", apart := false }
def FnExactSendsOverSaid : Prop := fnExactSendsOverRow.holds Try.pinned (OpenSpec.ofChange fnExactSendsOverSpec)

/-- ITS FALSE NEIGHBOUR: 'it returns false'. Refute it at one input. -/
def fnExactSendsOverWrong : ChangeSpec := { name := "fnExactSendsOver", fn := fun _ => fun
  | [d1, d2] => { results := [.lit (.bool false)], args := [d1, d2] }
  | _ => none }
def FnExactSendsOverWrongFalsely : Prop := fnExactSendsOverRow.holds Try.pinned (OpenSpec.ofChange fnExactSendsOverWrong)

/-- 'laws.FnArrivedOverNone': WHATEVER THE INPUT: true; the input reads as it did. -/
def fnArrivedOverNoneSpec : ChangeSpec := { name := "fnArrivedOverNone", fn := fun _ => fun
  | [d] => { results := [.lit (.bool true)], args := [d] }
  | _ => none }
def fnArrivedOverNoneRow : OpenClaim := { program := "ytgeakfdhmogeoaa", sum := "d0077953b240d482449d5c87e375baf09d2ff2479790af72cfbf5a4029a45ed9", func := "loop.example/telemetryagent/laws.FnArrivedOverNone", spec := "fnArrivedOverNone", apart := false }
def FnArrivedOverNoneSaid : Prop := fnArrivedOverNoneRow.holds Try.pinned (OpenSpec.ofChange fnArrivedOverNoneSpec)

/-- ITS FALSE NEIGHBOUR: 'it returns false'. Refute it at one input. -/
def fnArrivedOverNoneWrong : ChangeSpec := { name := "fnArrivedOverNone", fn := fun _ => fun
  | [d] => { results := [.lit (.bool false)], args := [d] }
  | _ => none }
def FnArrivedOverNoneWrongFalsely : Prop := fnArrivedOverNoneRow.holds Try.pinned (OpenSpec.ofChange fnArrivedOverNoneWrong)

/-- 'laws.FnArrivedOver': WHATEVER THE INPUT: true; the input reads as it did. -/
def fnArrivedOverSpec : ChangeSpec := { name := "fnArrivedOver", fn := fun _ => fun
  | [d] => { results := [.lit (.bool true)], args := [d] }
  | _ => none }
def fnArrivedOverRow : OpenClaim := { program := "ytgeakfdhmogeoaa", sum := "d0077953b240d482449d5c87e375baf09d2ff2479790af72cfbf5a4029a45ed9", func := "loop.example/telemetryagent/laws.FnArrivedOver", spec := "fnArrivedOver", apart := false }
def FnArrivedOverSaid : Prop := fnArrivedOverRow.holds Try.pinned (OpenSpec.ofChange fnArrivedOverSpec)

/-- ITS FALSE NEIGHBOUR: 'it returns false'. Refute it at one input. -/
def fnArrivedOverWrong : ChangeSpec := { name := "fnArrivedOver", fn := fun _ => fun
  | [d] => { results := [.lit (.bool false)], args := [d] }
  | _ => none }
def FnArrivedOverWrongFalsely : Prop := fnArrivedOverRow.holds Try.pinned (OpenSpec.ofChange fnArrivedOverWrong)

/-- 'laws.FnArrivedOverShort': WHATEVER THE INPUT: true; the input reads as it did. -/
def fnArrivedOverShortSpec : ChangeSpec := { name := "fnArrivedOverShort", fn := fun _ => fun
  | [d] => { results := [.lit (.bool true)], args := [d] }
  | _ => none }
def fnArrivedOverShortRow : OpenClaim := { program := "ytgeakfdhmogeoaa", sum := "d0077953b240d482449d5c87e375baf09d2ff2479790af72cfbf5a4029a45ed9", func := "loop.example/telemetryagent/laws.FnArrivedOverShort", spec := "fnArrivedOverShort", apart := false }
def FnArrivedOverShortSaid : Prop := fnArrivedOverShortRow.holds Try.pinned (OpenSpec.ofChange fnArrivedOverShortSpec)

/-- ITS FALSE NEIGHBOUR: 'it returns false'. Refute it at one input. -/
def fnArrivedOverShortWrong : ChangeSpec := { name := "fnArrivedOverShort", fn := fun _ => fun
  | [d] => { results := [.lit (.bool false)], args := [d] }
  | _ => none }
def FnArrivedOverShortWrongFalsely : Prop := fnArrivedOverShortRow.holds Try.pinned (OpenSpec.ofChange fnArrivedOverShortWrong)

/-- 'laws.FnDeliveredOver': WHATEVER THE INPUT: true; the input reads as it did. -/
def fnDeliveredOverSpec : ChangeSpec := { name := "fnDeliveredOver", fn := fun _ => fun
  | [d] => { results := [.lit (.bool true)], args := [d] }
  | _ => none }
def fnDeliveredOverRow : OpenClaim := { program := "ytgeakfdhmogeoaa", sum := "d0077953b240d482449d5c87e375baf09d2ff2479790af72cfbf5a4029a45ed9", func := "loop.example/telemetryagent/laws.FnDeliveredOver", spec := "fnDeliveredOver", apart := false }
def FnDeliveredOverSaid : Prop := fnDeliveredOverRow.holds Try.pinned (OpenSpec.ofChange fnDeliveredOverSpec)

/-- ITS FALSE NEIGHBOUR: 'it returns false'. Refute it at one input. -/
def fnDeliveredOverWrong : ChangeSpec := { name := "fnDeliveredOver", fn := fun _ => fun
  | [d] => { results := [.lit (.bool false)], args := [d] }
  | _ => none }
def FnDeliveredOverWrongFalsely : Prop := fnDeliveredOverRow.holds Try.pinned (OpenSpec.ofChange fnDeliveredOverWrong)

/-- 'laws.FnSendsOverGood': WHATEVER THE INPUT: true; the input reads as it did. -/
def fnSendsOverGoodSpec : ChangeSpec := { name := "fnSendsOverGood", fn := fun _ => fun
  | [d] => { results := [.lit (.bool true)], args := [d] }
  | _ => none }
def fnSendsOverGoodRow : OpenClaim := { program := "ytgeakfdhmogeoaa", sum := "d0077953b240d482449d5c87e375baf09d2ff2479790af72cfbf5a4029a45ed9", func := "loop.example/telemetryagent/laws.FnSendsOverGood", spec := "fnSendsOverGood", apart := false }
def FnSendsOverGoodSaid : Prop := fnSendsOverGoodRow.holds Try.pinned (OpenSpec.ofChange fnSendsOverGoodSpec)

/-- ITS FALSE NEIGHBOUR: 'it returns false'. Refute it at one input. -/
def fnSendsOverGoodWrong : ChangeSpec := { name := "fnSendsOverGood", fn := fun _ => fun
  | [d] => { results := [.lit (.bool false)], args := [d] }
  | _ => none }
def FnSendsOverGoodWrongFalsely : Prop := fnSendsOverGoodRow.holds Try.pinned (OpenSpec.ofChange fnSendsOverGoodWrong)

/- THE SECOND FORM. 'bulk': how many values and letters a reading holds, each counted each time it is reached (what is shared counts as often as it is met; a slice's spare places count too). A statement '..UptoSaid' is the law's where the arguments, and the package variables that the reading takes, are together of bulk at most 1048576: NARROWER than '..Said'. Prove '..Said' where nothing that the law and all that it calls make is longer than what came in: it says more and counts as full. Else prove '..UptoSaid'. A law counts once. -/
mutual
def uptoBulk {H : Type} : DataW H → Nat
  | .lit (.string bytes) => bytes.length + 1
  | .lit _ => 1
  | .nil => 1
  | .ptr d => uptoBulk d + 1
  | .slice elems spare => uptoBulkAll elems + uptoBulkAll spare + 1
  | .agg parts => uptoBulkAll parts + 1
  | .iface _ d => uptoBulk d + 1
  | .map entries => uptoBulkEntries entries + 1
  | .held _ => 1
def uptoBulkAll {H : Type} : List (DataW H) → Nat
  | [] => 0
  | d :: r => uptoBulk d + uptoBulkAll r
def uptoBulkEntries {H : Type} : List (Lit × DataW H) → Nat
  | [] => 0
  | x :: r => uptoBulkEntry x + uptoBulkEntries r
def uptoBulkEntry {H : Type} : Lit × DataW H → Nat
  | (.string bytes, d) => bytes.length + uptoBulk d + 1
  | (_, d) => uptoBulk d + 1
 end
def uptoSmall : (H : Type) → List (DataW H) → Bool := fun _ ds => decide (uptoBulkAll ds ≤ 1048576)
def OpenSpec.upto (s : _root_.Go.ChangeSpec) : _root_.Go.OpenSpec := { _root_.Go.OpenSpec.ofChange s with cond := some uptoSmall }

/-- 'laws.FnExactArrivedOver', WHERE WHAT IT READS IS OF BULK AT MOST 1048576: true; the input reads as it did. -/
def fnExactArrivedOverUptoRow : OpenClaim := { program := "ytgeakfdhmogeoaa", sum := "d0077953b240d482449d5c87e375baf09d2ff2479790af72cfbf5a4029a45ed9", func := "loop.example/telemetryagent/laws.FnExactArrivedOver", spec := "fnExactArrivedOver", apart := false, narrowed := true }
def FnExactArrivedOverUptoSaid : Prop := fnExactArrivedOverUptoRow.holds Try.pinned (OpenSpec.upto fnExactArrivedOverSpec)

/-- 'laws.FnExactDeliveredOver', WHERE WHAT IT READS IS OF BULK AT MOST 1048576: true; the input reads as it did. -/
def fnExactDeliveredOverUptoRow : OpenClaim := { program := "ytgeakfdhmogeoaa", sum := "d0077953b240d482449d5c87e375baf09d2ff2479790af72cfbf5a4029a45ed9", func := "loop.example/telemetryagent/laws.FnExactDeliveredOver", spec := "fnExactDeliveredOver", apart := false, narrowed := true }
def FnExactDeliveredOverUptoSaid : Prop := fnExactDeliveredOverUptoRow.holds Try.pinned (OpenSpec.upto fnExactDeliveredOverSpec)

/-- 'laws.FnExactSendsOver', WHERE WHAT IT READS IS OF BULK AT MOST 1048576: true; the input reads as it did. -/
def fnExactSendsOverUptoRow : OpenClaim := { program := "ytgeakfdhmogeoaa", sum := "d0077953b240d482449d5c87e375baf09d2ff2479790af72cfbf5a4029a45ed9", func := "loop.example/telemetryagent/laws.FnExactSendsOver", spec := "fnExactSendsOver", apart := false, narrowed := true }
def FnExactSendsOverUptoSaid : Prop := fnExactSendsOverUptoRow.holds Try.pinned (OpenSpec.upto fnExactSendsOverSpec)

/-- 'laws.FnArrivedOverNone', WHERE WHAT IT READS IS OF BULK AT MOST 1048576: true; the input reads as it did. -/
def fnArrivedOverNoneUptoRow : OpenClaim := { program := "ytgeakfdhmogeoaa", sum := "d0077953b240d482449d5c87e375baf09d2ff2479790af72cfbf5a4029a45ed9", func := "loop.example/telemetryagent/laws.FnArrivedOverNone", spec := "fnArrivedOverNone", apart := false, narrowed := true }
def FnArrivedOverNoneUptoSaid : Prop := fnArrivedOverNoneUptoRow.holds Try.pinned (OpenSpec.upto fnArrivedOverNoneSpec)

/-- 'laws.FnArrivedOver', WHERE WHAT IT READS IS OF BULK AT MOST 1048576: true; the input reads as it did. -/
def fnArrivedOverUptoRow : OpenClaim := { program := "ytgeakfdhmogeoaa", sum := "d0077953b240d482449d5c87e375baf09d2ff2479790af72cfbf5a4029a45ed9", func := "loop.example/telemetryagent/laws.FnArrivedOver", spec := "fnArrivedOver", apart := false, narrowed := true }
def FnArrivedOverUptoSaid : Prop := fnArrivedOverUptoRow.holds Try.pinned (OpenSpec.upto fnArrivedOverSpec)

/-- 'laws.FnArrivedOverShort', WHERE WHAT IT READS IS OF BULK AT MOST 1048576: true; the input reads as it did. -/
def fnArrivedOverShortUptoRow : OpenClaim := { program := "ytgeakfdhmogeoaa", sum := "d0077953b240d482449d5c87e375baf09d2ff2479790af72cfbf5a4029a45ed9", func := "loop.example/telemetryagent/laws.FnArrivedOverShort", spec := "fnArrivedOverShort", apart := false, narrowed := true }
def FnArrivedOverShortUptoSaid : Prop := fnArrivedOverShortUptoRow.holds Try.pinned (OpenSpec.upto fnArrivedOverShortSpec)

/-- 'laws.FnDeliveredOver', WHERE WHAT IT READS IS OF BULK AT MOST 1048576: true; the input reads as it did. -/
def fnDeliveredOverUptoRow : OpenClaim := { program := "ytgeakfdhmogeoaa", sum := "d0077953b240d482449d5c87e375baf09d2ff2479790af72cfbf5a4029a45ed9", func := "loop.example/telemetryagent/laws.FnDeliveredOver", spec := "fnDeliveredOver", apart := false, narrowed := true }
def FnDeliveredOverUptoSaid : Prop := fnDeliveredOverUptoRow.holds Try.pinned (OpenSpec.upto fnDeliveredOverSpec)

/-- 'laws.FnSendsOverGood', WHERE WHAT IT READS IS OF BULK AT MOST 1048576: true; the input reads as it did. -/
def fnSendsOverGoodUptoRow : OpenClaim := { program := "ytgeakfdhmogeoaa", sum := "d0077953b240d482449d5c87e375baf09d2ff2479790af72cfbf5a4029a45ed9", func := "loop.example/telemetryagent/laws.FnSendsOverGood", spec := "fnSendsOverGood", apart := false, narrowed := true }
def FnSendsOverGoodUptoSaid : Prop := fnSendsOverGoodUptoRow.holds Try.pinned (OpenSpec.upto fnSendsOverGoodSpec)

end Rows
end Go.Proofs.Ytgeakfdhmogeoaa
