/-
  No cell of these rows narrows 'for every input' (looked for: loops, veiled, ifaces, maps, wideKeys, modest, calm, conditions, laid).
  DERIVED. THE GIVEN ROWS OF THIS SEAT. 14 by the template 'for every input the law returns true; each argument reads behind the call as it read before'; 0 by the template 'total and deterministic' (their statements: YtegjmnkjdnknbaaTotals.lean).
  GIVEN WITH THE SEED: the statements are not yours to turn. If you find one false, say at which input.
  Laid BY PROGRAM, IN A SANDBOX (cutbox-rows.mjs): the forced cells as the released guide's own fill.sh prints them over the translation f195c149003057fd… (all of the seat's roots in one cut). By AI agents, Wed Nov 11 2026. No macro, syntax, notation, axiom, sorry.
-/
import Derived.Test.YtegjmnkjdnknbaaChecked
import GoSem.Claim
import GoSem.ClaimJoined
import GoSem.ClaimMapViews
import Derived.JoinedTies
import Derived.KernelRfl
namespace Go.Proofs.Ytegjmnkjdnknbaa
/- THE CELL 'sum', in the pinned program and in every row, IS THE sha256 OF THE DUMP (.gsa) THAT YtegjmnkjdnknbaaProg.lean LOADS. Nothing in Lean hashes anything: it is a label: what it is worth is what the hold of that sum in a sandbox is worth. -/
noncomputable def Try.pinned : Pinned := { name := "ytegjmnkjdnknbaa", sum := "f195c149003057fd88ce13b0f19d13b0301b80b2edddf7929e95c2e1ea1fd491", checked := Try.checked }
namespace Rows
def none {H : Type} : Left H := { results := [], args := [] }

/-- 'laws.FnExactArrivedOver': WHATEVER THE INPUT: true; the input reads as it did. -/
def fnExactArrivedOverSpec : ChangeSpec := { name := "fnExactArrivedOver", fn := fun _ => fun
  | [d1, d2] => { results := [.lit (.bool true)], args := [d1, d2] }
  | _ => none }
def fnExactArrivedOverRow : OpenClaim := { program := "ytegjmnkjdnknbaa", sum := "f195c149003057fd88ce13b0f19d13b0301b80b2edddf7929e95c2e1ea1fd491", func := "loop.example/telemetryagent/laws.FnExactArrivedOver", spec := "fnExactArrivedOver", apart := false }
def FnExactArrivedOverSaid : Prop := fnExactArrivedOverRow.holds Try.pinned (OpenSpec.ofChange fnExactArrivedOverSpec)

/-- ITS FALSE NEIGHBOUR: 'it returns false'. Refute it at one input. -/
def fnExactArrivedOverWrong : ChangeSpec := { name := "fnExactArrivedOver", fn := fun _ => fun
  | [d1, d2] => { results := [.lit (.bool false)], args := [d1, d2] }
  | _ => none }
def FnExactArrivedOverWrongFalsely : Prop := fnExactArrivedOverRow.holds Try.pinned (OpenSpec.ofChange fnExactArrivedOverWrong)

/-- 'laws.FnExactDeliveredOver': WHATEVER THE INPUT: true; the input reads as it did. -/
def fnExactDeliveredOverSpec : ChangeSpec := { name := "fnExactDeliveredOver", fn := fun _ => fun
  | [d1, d2] => { results := [.lit (.bool true)], args := [d1, d2] }
  | _ => none }
def fnExactDeliveredOverRow : OpenClaim := { program := "ytegjmnkjdnknbaa", sum := "f195c149003057fd88ce13b0f19d13b0301b80b2edddf7929e95c2e1ea1fd491", func := "loop.example/telemetryagent/laws.FnExactDeliveredOver", spec := "fnExactDeliveredOver", apart := false }
def FnExactDeliveredOverSaid : Prop := fnExactDeliveredOverRow.holds Try.pinned (OpenSpec.ofChange fnExactDeliveredOverSpec)

/-- ITS FALSE NEIGHBOUR: 'it returns false'. Refute it at one input. -/
def fnExactDeliveredOverWrong : ChangeSpec := { name := "fnExactDeliveredOver", fn := fun _ => fun
  | [d1, d2] => { results := [.lit (.bool false)], args := [d1, d2] }
  | _ => none }
def FnExactDeliveredOverWrongFalsely : Prop := fnExactDeliveredOverRow.holds Try.pinned (OpenSpec.ofChange fnExactDeliveredOverWrong)

/-- 'laws.FnExactSendsOver': WHATEVER THE INPUT: true; the input reads as it did. -/
def fnExactSendsOverSpec : ChangeSpec := { name := "fnExactSendsOver", fn := fun _ => fun
  | [d1, d2] => { results := [.lit (.bool true)], args := [d1, d2] }
  | _ => none }
def fnExactSendsOverRow : OpenClaim := { program := "ytegjmnkjdnknbaa", sum := "f195c149003057fd88ce13b0f19d13b0301b80b2edddf7929e95c2e1ea1fd491", func := "loop.example/telemetryagent/laws.FnExactSendsOver", spec := "fnExactSendsOver", apart := false }
def FnExactSendsOverSaid : Prop := fnExactSendsOverRow.holds Try.pinned (OpenSpec.ofChange fnExactSendsOverSpec)

/-- ITS FALSE NEIGHBOUR: 'it returns false'. Refute it at one input. -/
def fnExactSendsOverWrong : ChangeSpec := { name := "fnExactSendsOver", fn := fun _ => fun
  | [d1, d2] => { results := [.lit (.bool false)], args := [d1, d2] }
  | _ => none }
def FnExactSendsOverWrongFalsely : Prop := fnExactSendsOverRow.holds Try.pinned (OpenSpec.ofChange fnExactSendsOverWrong)

/-- 'laws.FnExactUnackedOver': WHATEVER THE INPUT: true; the input reads as it did. -/
def fnExactUnackedOverSpec : ChangeSpec := { name := "fnExactUnackedOver", fn := fun _ => fun
  | [d1, d2] => { results := [.lit (.bool true)], args := [d1, d2] }
  | _ => none }
def fnExactUnackedOverRow : OpenClaim := { program := "ytegjmnkjdnknbaa", sum := "f195c149003057fd88ce13b0f19d13b0301b80b2edddf7929e95c2e1ea1fd491", func := "loop.example/telemetryagent/laws.FnExactUnackedOver", spec := "fnExactUnackedOver", recurses := true, apart := false }
def FnExactUnackedOverSaid : Prop := fnExactUnackedOverRow.holds Try.pinned (OpenSpec.ofChange fnExactUnackedOverSpec)

/-- ITS FALSE NEIGHBOUR: 'it returns false'. Refute it at one input. -/
def fnExactUnackedOverWrong : ChangeSpec := { name := "fnExactUnackedOver", fn := fun _ => fun
  | [d1, d2] => { results := [.lit (.bool false)], args := [d1, d2] }
  | _ => none }
def FnExactUnackedOverWrongFalsely : Prop := fnExactUnackedOverRow.holds Try.pinned (OpenSpec.ofChange fnExactUnackedOverWrong)

/-- 'laws.FnArrivedOver': WHATEVER THE INPUT: true; the input reads as it did. -/
def fnArrivedOverSpec : ChangeSpec := { name := "fnArrivedOver", fn := fun _ => fun
  | [d] => { results := [.lit (.bool true)], args := [d] }
  | _ => none }
def fnArrivedOverRow : OpenClaim := { program := "ytegjmnkjdnknbaa", sum := "f195c149003057fd88ce13b0f19d13b0301b80b2edddf7929e95c2e1ea1fd491", func := "loop.example/telemetryagent/laws.FnArrivedOver", spec := "fnArrivedOver", apart := false }
def FnArrivedOverSaid : Prop := fnArrivedOverRow.holds Try.pinned (OpenSpec.ofChange fnArrivedOverSpec)

/-- ITS FALSE NEIGHBOUR: 'it returns false'. Refute it at one input. -/
def fnArrivedOverWrong : ChangeSpec := { name := "fnArrivedOver", fn := fun _ => fun
  | [d] => { results := [.lit (.bool false)], args := [d] }
  | _ => none }
def FnArrivedOverWrongFalsely : Prop := fnArrivedOverRow.holds Try.pinned (OpenSpec.ofChange fnArrivedOverWrong)

/-- 'laws.FnArrivedOverShort': WHATEVER THE INPUT: true; the input reads as it did. -/
def fnArrivedOverShortSpec : ChangeSpec := { name := "fnArrivedOverShort", fn := fun _ => fun
  | [d] => { results := [.lit (.bool true)], args := [d] }
  | _ => none }
def fnArrivedOverShortRow : OpenClaim := { program := "ytegjmnkjdnknbaa", sum := "f195c149003057fd88ce13b0f19d13b0301b80b2edddf7929e95c2e1ea1fd491", func := "loop.example/telemetryagent/laws.FnArrivedOverShort", spec := "fnArrivedOverShort", apart := false }
def FnArrivedOverShortSaid : Prop := fnArrivedOverShortRow.holds Try.pinned (OpenSpec.ofChange fnArrivedOverShortSpec)

/-- ITS FALSE NEIGHBOUR: 'it returns false'. Refute it at one input. -/
def fnArrivedOverShortWrong : ChangeSpec := { name := "fnArrivedOverShort", fn := fun _ => fun
  | [d] => { results := [.lit (.bool false)], args := [d] }
  | _ => none }
def FnArrivedOverShortWrongFalsely : Prop := fnArrivedOverShortRow.holds Try.pinned (OpenSpec.ofChange fnArrivedOverShortWrong)

/-- 'laws.FnDeliveredOver': WHATEVER THE INPUT: true; the input reads as it did. -/
def fnDeliveredOverSpec : ChangeSpec := { name := "fnDeliveredOver", fn := fun _ => fun
  | [d] => { results := [.lit (.bool true)], args := [d] }
  | _ => none }
def fnDeliveredOverRow : OpenClaim := { program := "ytegjmnkjdnknbaa", sum := "f195c149003057fd88ce13b0f19d13b0301b80b2edddf7929e95c2e1ea1fd491", func := "loop.example/telemetryagent/laws.FnDeliveredOver", spec := "fnDeliveredOver", apart := false }
def FnDeliveredOverSaid : Prop := fnDeliveredOverRow.holds Try.pinned (OpenSpec.ofChange fnDeliveredOverSpec)

/-- ITS FALSE NEIGHBOUR: 'it returns false'. Refute it at one input. -/
def fnDeliveredOverWrong : ChangeSpec := { name := "fnDeliveredOver", fn := fun _ => fun
  | [d] => { results := [.lit (.bool false)], args := [d] }
  | _ => none }
def FnDeliveredOverWrongFalsely : Prop := fnDeliveredOverRow.holds Try.pinned (OpenSpec.ofChange fnDeliveredOverWrong)

/-- 'laws.FnDeliveredOverAll': WHATEVER THE INPUT: true; the input reads as it did. -/
def fnDeliveredOverAllSpec : ChangeSpec := { name := "fnDeliveredOverAll", fn := fun _ => fun
  | [d] => { results := [.lit (.bool true)], args := [d] }
  | _ => none }
def fnDeliveredOverAllRow : OpenClaim := { program := "ytegjmnkjdnknbaa", sum := "f195c149003057fd88ce13b0f19d13b0301b80b2edddf7929e95c2e1ea1fd491", func := "loop.example/telemetryagent/laws.FnDeliveredOverAll", spec := "fnDeliveredOverAll", recurses := true, apart := false }
def FnDeliveredOverAllSaid : Prop := fnDeliveredOverAllRow.holds Try.pinned (OpenSpec.ofChange fnDeliveredOverAllSpec)

/-- ITS FALSE NEIGHBOUR: 'it returns false'. Refute it at one input. -/
def fnDeliveredOverAllWrong : ChangeSpec := { name := "fnDeliveredOverAll", fn := fun _ => fun
  | [d] => { results := [.lit (.bool false)], args := [d] }
  | _ => none }
def FnDeliveredOverAllWrongFalsely : Prop := fnDeliveredOverAllRow.holds Try.pinned (OpenSpec.ofChange fnDeliveredOverAllWrong)

/-- 'laws.FnSendsOver': WHATEVER THE INPUT: true; the input reads as it did. -/
def fnSendsOverSpec : ChangeSpec := { name := "fnSendsOver", fn := fun _ => fun
  | [d] => { results := [.lit (.bool true)], args := [d] }
  | _ => none }
def fnSendsOverRow : OpenClaim := { program := "ytegjmnkjdnknbaa", sum := "f195c149003057fd88ce13b0f19d13b0301b80b2edddf7929e95c2e1ea1fd491", func := "loop.example/telemetryagent/laws.FnSendsOver", spec := "fnSendsOver", recurses := true, apart := false }
def FnSendsOverSaid : Prop := fnSendsOverRow.holds Try.pinned (OpenSpec.ofChange fnSendsOverSpec)

/-- ITS FALSE NEIGHBOUR: 'it returns false'. Refute it at one input. -/
def fnSendsOverWrong : ChangeSpec := { name := "fnSendsOver", fn := fun _ => fun
  | [d] => { results := [.lit (.bool false)], args := [d] }
  | _ => none }
def FnSendsOverWrongFalsely : Prop := fnSendsOverRow.holds Try.pinned (OpenSpec.ofChange fnSendsOverWrong)

/-- 'laws.FnSendsOverGood': WHATEVER THE INPUT: true; the input reads as it did. -/
def fnSendsOverGoodSpec : ChangeSpec := { name := "fnSendsOverGood", fn := fun _ => fun
  | [d] => { results := [.lit (.bool true)], args := [d] }
  | _ => none }
def fnSendsOverGoodRow : OpenClaim := { program := "ytegjmnkjdnknbaa", sum := "f195c149003057fd88ce13b0f19d13b0301b80b2edddf7929e95c2e1ea1fd491", func := "loop.example/telemetryagent/laws.FnSendsOverGood", spec := "fnSendsOverGood", apart := false }
def FnSendsOverGoodSaid : Prop := fnSendsOverGoodRow.holds Try.pinned (OpenSpec.ofChange fnSendsOverGoodSpec)

/-- ITS FALSE NEIGHBOUR: 'it returns false'. Refute it at one input. -/
def fnSendsOverGoodWrong : ChangeSpec := { name := "fnSendsOverGood", fn := fun _ => fun
  | [d] => { results := [.lit (.bool false)], args := [d] }
  | _ => none }
def FnSendsOverGoodWrongFalsely : Prop := fnSendsOverGoodRow.holds Try.pinned (OpenSpec.ofChange fnSendsOverGoodWrong)

/-- 'laws.FnUnackedOver': WHATEVER THE INPUT: true; the input reads as it did. -/
def fnUnackedOverSpec : ChangeSpec := { name := "fnUnackedOver", fn := fun _ => fun
  | [d] => { results := [.lit (.bool true)], args := [d] }
  | _ => none }
def fnUnackedOverRow : OpenClaim := { program := "ytegjmnkjdnknbaa", sum := "f195c149003057fd88ce13b0f19d13b0301b80b2edddf7929e95c2e1ea1fd491", func := "loop.example/telemetryagent/laws.FnUnackedOver", spec := "fnUnackedOver", recurses := true, apart := false }
def FnUnackedOverSaid : Prop := fnUnackedOverRow.holds Try.pinned (OpenSpec.ofChange fnUnackedOverSpec)

/-- ITS FALSE NEIGHBOUR: 'it returns false'. Refute it at one input. -/
def fnUnackedOverWrong : ChangeSpec := { name := "fnUnackedOver", fn := fun _ => fun
  | [d] => { results := [.lit (.bool false)], args := [d] }
  | _ => none }
def FnUnackedOverWrongFalsely : Prop := fnUnackedOverRow.holds Try.pinned (OpenSpec.ofChange fnUnackedOverWrong)

/-- 'laws.FnArrivedOverNone': WHATEVER THE INPUT: true; the input reads as it did. -/
def fnArrivedOverNoneSpec : ChangeSpec := { name := "fnArrivedOverNone", fn := fun _ => fun
  | [d] => { results := [.lit (.bool true)], args := [d] }
  | _ => none }
def fnArrivedOverNoneRow : OpenClaim := { program := "ytegjmnkjdnknbaa", sum := "f195c149003057fd88ce13b0f19d13b0301b80b2edddf7929e95c2e1ea1fd491", func := "loop.example/telemetryagent/laws.FnArrivedOverNone", spec := "fnArrivedOverNone", apart := false }
def FnArrivedOverNoneSaid : Prop := fnArrivedOverNoneRow.holds Try.pinned (OpenSpec.ofChange fnArrivedOverNoneSpec)

/-- ITS FALSE NEIGHBOUR: 'it returns false'. Refute it at one input. -/
def fnArrivedOverNoneWrong : ChangeSpec := { name := "fnArrivedOverNone", fn := fun _ => fun
  | [d] => { results := [.lit (.bool false)], args := [d] }
  | _ => none }
def FnArrivedOverNoneWrongFalsely : Prop := fnArrivedOverNoneRow.holds Try.pinned (OpenSpec.ofChange fnArrivedOverNoneWrong)

/-- 'laws.FnDeliveredOverMute': WHATEVER THE INPUT: true; the input reads as it did. -/
def fnDeliveredOverMuteSpec : ChangeSpec := { name := "fnDeliveredOverMute", fn := fun _ => fun
  | [d] => { results := [.lit (.bool true)], args := [d] }
  | _ => none }
def fnDeliveredOverMuteRow : OpenClaim := { program := "ytegjmnkjdnknbaa", sum := "f195c149003057fd88ce13b0f19d13b0301b80b2edddf7929e95c2e1ea1fd491", func := "loop.example/telemetryagent/laws.FnDeliveredOverMute", spec := "fnDeliveredOverMute", recurses := true, apart := false }
def FnDeliveredOverMuteSaid : Prop := fnDeliveredOverMuteRow.holds Try.pinned (OpenSpec.ofChange fnDeliveredOverMuteSpec)

/-- ITS FALSE NEIGHBOUR: 'it returns false'. Refute it at one input. -/
def fnDeliveredOverMuteWrong : ChangeSpec := { name := "fnDeliveredOverMute", fn := fun _ => fun
  | [d] => { results := [.lit (.bool false)], args := [d] }
  | _ => none }
def FnDeliveredOverMuteWrongFalsely : Prop := fnDeliveredOverMuteRow.holds Try.pinned (OpenSpec.ofChange fnDeliveredOverMuteWrong)

/-- 'laws.FnUnackedOverShort': WHATEVER THE INPUT: true; the input reads as it did. -/
def fnUnackedOverShortSpec : ChangeSpec := { name := "fnUnackedOverShort", fn := fun _ => fun
  | [d] => { results := [.lit (.bool true)], args := [d] }
  | _ => none }
def fnUnackedOverShortRow : OpenClaim := { program := "ytegjmnkjdnknbaa", sum := "f195c149003057fd88ce13b0f19d13b0301b80b2edddf7929e95c2e1ea1fd491", func := "loop.example/telemetryagent/laws.FnUnackedOverShort", spec := "fnUnackedOverShort", recurses := true, apart := false }
def FnUnackedOverShortSaid : Prop := fnUnackedOverShortRow.holds Try.pinned (OpenSpec.ofChange fnUnackedOverShortSpec)

/-- ITS FALSE NEIGHBOUR: 'it returns false'. Refute it at one input. -/
def fnUnackedOverShortWrong : ChangeSpec := { name := "fnUnackedOverShort", fn := fun _ => fun
  | [d] => { results := [.lit (.bool false)], args := [d] }
  | _ => none }
def FnUnackedOverShortWrongFalsely : Prop := fnUnackedOverShortRow.holds Try.pinned (OpenSpec.ofChange fnUnackedOverShortWrong)

/- THE SECOND FORM. 'bulk': how many values and letters a reading holds, each counted each time it is reached (what is shared counts as often as it is met; a slice's spare places count too). A statement '..UptoSaid' is the law's where the arguments, and the package variables that the reading takes, are together of bulk at most 1048576: NARROWER than '..Said'. Prove '..Said' where nothing that the law and all that it calls make is longer than what came in: it says more and counts as full. Else prove '..UptoSaid'. A law counts once. -/
mutual
def uptoBulk {H : Type} : DataW H → Nat
  | .lit (.string bytes) => bytes.length + 1
  | .lit _ => 1
  | .nil => 1
  | .ptr d => uptoBulk d + 1
  | .slice elems spare => uptoBulkAll elems + uptoBulkAll spare + 1
  | .agg parts => uptoBulkAll parts + 1
  | .iface _ d => uptoBulk d + 1
  | .map entries => uptoBulkEntries entries + 1
  | .held _ => 1
def uptoBulkAll {H : Type} : List (DataW H) → Nat
  | [] => 0
  | d :: r => uptoBulk d + uptoBulkAll r
def uptoBulkEntries {H : Type} : List (Lit × DataW H) → Nat
  | [] => 0
  | x :: r => uptoBulkEntry x + uptoBulkEntries r
def uptoBulkEntry {H : Type} : Lit × DataW H → Nat
  | (.string bytes, d) => bytes.length + uptoBulk d + 1
  | (_, d) => uptoBulk d + 1
 end
def uptoSmall : (H : Type) → List (DataW H) → Bool := fun _ ds => decide (uptoBulkAll ds ≤ 1048576)
def OpenSpec.upto (s : _root_.Go.ChangeSpec) : _root_.Go.OpenSpec := { _root_.Go.OpenSpec.ofChange s with cond := some uptoSmall }

/-- 'laws.FnExactArrivedOver', WHERE WHAT IT READS IS OF BULK AT MOST 1048576: true; the input reads as it did. -/
def fnExactArrivedOverUptoRow : OpenClaim := { program := "ytegjmnkjdnknbaa", sum := "f195c149003057fd88ce13b0f19d13b0301b80b2edddf7929e95c2e1ea1fd491", func := "loop.example/telemetryagent/laws.FnExactArrivedOver", spec := "fnExactArrivedOver", apart := false, narrowed := true }
def FnExactArrivedOverUptoSaid : Prop := fnExactArrivedOverUptoRow.holds Try.pinned (OpenSpec.upto fnExactArrivedOverSpec)

/-- 'laws.FnExactDeliveredOver', WHERE WHAT IT READS IS OF BULK AT MOST 1048576: true; the input reads as it did. -/
def fnExactDeliveredOverUptoRow : OpenClaim := { program := "ytegjmnkjdnknbaa", sum := "f195c149003057fd88ce13b0f19d13b0301b80b2edddf7929e95c2e1ea1fd491", func := "loop.example/telemetryagent/laws.FnExactDeliveredOver", spec := "fnExactDeliveredOver", apart := false, narrowed := true }
def FnExactDeliveredOverUptoSaid : Prop := fnExactDeliveredOverUptoRow.holds Try.pinned (OpenSpec.upto fnExactDeliveredOverSpec)

/-- 'laws.FnExactSendsOver', WHERE WHAT IT READS IS OF BULK AT MOST 1048576: true; the input reads as it did. -/
def fnExactSendsOverUptoRow : OpenClaim := { program := "ytegjmnkjdnknbaa", sum := "f195c149003057fd88ce13b0f19d13b0301b80b2edddf7929e95c2e1ea1fd491", func := "loop.example/telemetryagent/laws.FnExactSendsOver", spec := "fnExactSendsOver", apart := false, narrowed := true }
def FnExactSendsOverUptoSaid : Prop := fnExactSendsOverUptoRow.holds Try.pinned (OpenSpec.upto fnExactSendsOverSpec)

/-- 'laws.FnExactUnackedOver', WHERE WHAT IT READS IS OF BULK AT MOST 1048576: true; the input reads as it did. -/
def fnExactUnackedOverUptoRow : OpenClaim := { program := "ytegjmnkjdnknbaa", sum := "f195c149003057fd88ce13b0f19d13b0301b80b2edddf7929e95c2e1ea1fd491", func := "loop.example/telemetryagent/laws.FnExactUnackedOver", spec := "fnExactUnackedOver", recurses := true, apart := false, narrowed := true }
def FnExactUnackedOverUptoSaid : Prop := fnExactUnackedOverUptoRow.holds Try.pinned (OpenSpec.upto fnExactUnackedOverSpec)

/-- 'laws.FnArrivedOver', WHERE WHAT IT READS IS OF BULK AT MOST 1048576: true; the input reads as it did. -/
def fnArrivedOverUptoRow : OpenClaim := { program := "ytegjmnkjdnknbaa", sum := "f195c149003057fd88ce13b0f19d13b0301b80b2edddf7929e95c2e1ea1fd491", func := "loop.example/telemetryagent/laws.FnArrivedOver", spec := "fnArrivedOver", apart := false, narrowed := true }
def FnArrivedOverUptoSaid : Prop := fnArrivedOverUptoRow.holds Try.pinned (OpenSpec.upto fnArrivedOverSpec)

/-- 'laws.FnArrivedOverShort', WHERE WHAT IT READS IS OF BULK AT MOST 1048576: true; the input reads as it did. -/
def fnArrivedOverShortUptoRow : OpenClaim := { program := "ytegjmnkjdnknbaa", sum := "f195c149003057fd88ce13b0f19d13b0301b80b2edddf7929e95c2e1ea1fd491", func := "loop.example/telemetryagent/laws.FnArrivedOverShort", spec := "fnArrivedOverShort", apart := false, narrowed := true }
def FnArrivedOverShortUptoSaid : Prop := fnArrivedOverShortUptoRow.holds Try.pinned (OpenSpec.upto fnArrivedOverShortSpec)

/-- 'laws.FnDeliveredOver', WHERE WHAT IT READS IS OF BULK AT MOST 1048576: true; the input reads as it did. -/
def fnDeliveredOverUptoRow : OpenClaim := { program := "ytegjmnkjdnknbaa", sum := "f195c149003057fd88ce13b0f19d13b0301b80b2edddf7929e95c2e1ea1fd491", func := "loop.example/telemetryagent/laws.FnDeliveredOver", spec := "fnDeliveredOver", apart := false, narrowed := true }
def FnDeliveredOverUptoSaid : Prop := fnDeliveredOverUptoRow.holds Try.pinned (OpenSpec.upto fnDeliveredOverSpec)

/-- 'laws.FnDeliveredOverAll', WHERE WHAT IT READS IS OF BULK AT MOST 1048576: true; the input reads as it did. -/
def fnDeliveredOverAllUptoRow : OpenClaim := { program := "ytegjmnkjdnknbaa", sum := "f195c149003057fd88ce13b0f19d13b0301b80b2edddf7929e95c2e1ea1fd491", func := "loop.example/telemetryagent/laws.FnDeliveredOverAll", spec := "fnDeliveredOverAll", recurses := true, apart := false, narrowed := true }
def FnDeliveredOverAllUptoSaid : Prop := fnDeliveredOverAllUptoRow.holds Try.pinned (OpenSpec.upto fnDeliveredOverAllSpec)

/-- 'laws.FnSendsOver', WHERE WHAT IT READS IS OF BULK AT MOST 1048576: true; the input reads as it did. -/
def fnSendsOverUptoRow : OpenClaim := { program := "ytegjmnkjdnknbaa", sum := "f195c149003057fd88ce13b0f19d13b0301b80b2edddf7929e95c2e1ea1fd491", func := "loop.example/telemetryagent/laws.FnSendsOver", spec := "fnSendsOver", recurses := true, apart := false, narrowed := true }
def FnSendsOverUptoSaid : Prop := fnSendsOverUptoRow.holds Try.pinned (OpenSpec.upto fnSendsOverSpec)

/-- 'laws.FnSendsOverGood', WHERE WHAT IT READS IS OF BULK AT MOST 1048576: true; the input reads as it did. -/
def fnSendsOverGoodUptoRow : OpenClaim := { program := "ytegjmnkjdnknbaa", sum := "f195c149003057fd88ce13b0f19d13b0301b80b2edddf7929e95c2e1ea1fd491", func := "loop.example/telemetryagent/laws.FnSendsOverGood", spec := "fnSendsOverGood", apart := false, narrowed := true }
def FnSendsOverGoodUptoSaid : Prop := fnSendsOverGoodUptoRow.holds Try.pinned (OpenSpec.upto fnSendsOverGoodSpec)

/-- 'laws.FnUnackedOver', WHERE WHAT IT READS IS OF BULK AT MOST 1048576: true; the input reads as it did. -/
def fnUnackedOverUptoRow : OpenClaim := { program := "ytegjmnkjdnknbaa", sum := "f195c149003057fd88ce13b0f19d13b0301b80b2edddf7929e95c2e1ea1fd491", func := "loop.example/telemetryagent/laws.FnUnackedOver", spec := "fnUnackedOver", recurses := true, apart := false, narrowed := true }
def FnUnackedOverUptoSaid : Prop := fnUnackedOverUptoRow.holds Try.pinned (OpenSpec.upto fnUnackedOverSpec)

/-- 'laws.FnArrivedOverNone', WHERE WHAT IT READS IS OF BULK AT MOST 1048576: true; the input reads as it did. -/
def fnArrivedOverNoneUptoRow : OpenClaim := { program := "ytegjmnkjdnknbaa", sum := "f195c149003057fd88ce13b0f19d13b0301b80b2edddf7929e95c2e1ea1fd491", func := "loop.example/telemetryagent/laws.FnArrivedOverNone", spec := "fnArrivedOverNone", apart := false, narrowed := true }
def FnArrivedOverNoneUptoSaid : Prop := fnArrivedOverNoneUptoRow.holds Try.pinned (OpenSpec.upto fnArrivedOverNoneSpec)

/-- 'laws.FnDeliveredOverMute', WHERE WHAT IT READS IS OF BULK AT MOST 1048576: true; the input reads as it did. -/
def fnDeliveredOverMuteUptoRow : OpenClaim := { program := "ytegjmnkjdnknbaa", sum := "f195c149003057fd88ce13b0f19d13b0301b80b2edddf7929e95c2e1ea1fd491", func := "loop.example/telemetryagent/laws.FnDeliveredOverMute", spec := "fnDeliveredOverMute", recurses := true, apart := false, narrowed := true }
def FnDeliveredOverMuteUptoSaid : Prop := fnDeliveredOverMuteUptoRow.holds Try.pinned (OpenSpec.upto fnDeliveredOverMuteSpec)

/-- 'laws.FnUnackedOverShort', WHERE WHAT IT READS IS OF BULK AT MOST 1048576: true; the input reads as it did. -/
def fnUnackedOverShortUptoRow : OpenClaim := { program := "ytegjmnkjdnknbaa", sum := "f195c149003057fd88ce13b0f19d13b0301b80b2edddf7929e95c2e1ea1fd491", func := "loop.example/telemetryagent/laws.FnUnackedOverShort", spec := "fnUnackedOverShort", recurses := true, apart := false, narrowed := true }
def FnUnackedOverShortUptoSaid : Prop := fnUnackedOverShortUptoRow.holds Try.pinned (OpenSpec.upto fnUnackedOverShortSpec)

end Rows
end Go.Proofs.Ytegjmnkjdnknbaa
