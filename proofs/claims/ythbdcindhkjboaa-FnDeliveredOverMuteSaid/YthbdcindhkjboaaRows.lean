/-
  No cell of these rows narrows 'for every input' (looked for: loops, veiled, ifaces, maps, wideKeys, modest, calm, conditions, laid).
  DERIVED. THE GIVEN ROWS OF THIS SEAT. 6 by the template 'for every input the law returns true; each argument reads behind the call as it read before'; 0 by the template 'total and deterministic' (their statements: YthbdcindhkjboaaTotals.lean).
  GIVEN WITH THE SEED: the statements are not yours to turn. If you find one false, say at which input.
  Laid BY PROGRAM, IN A SANDBOX (cutbox-rows.mjs): the forced cells as the released guide's own fill.sh prints them over the translation 339dc1473f2f2708… (all of the seat's roots in one cut). By AI agents, Wed Nov 11 2026. No macro, syntax, notation, axiom, sorry.
-/
import Derived.Test.YthbdcindhkjboaaChecked
import GoSem.Claim
import GoSem.ClaimJoined
import GoSem.ClaimMapViews
import Derived.JoinedTies
import Derived.KernelRfl
namespace Go.Proofs.Ythbdcindhkjboaa
/- THE CELL 'sum', in the pinned program and in every row, IS THE sha256 OF THE DUMP (.gsa) THAT YthbdcindhkjboaaProg.lean LOADS. Nothing in Lean hashes anything: it is a label: what it is worth is what the hold of that sum in a sandbox is worth. -/
noncomputable def Try.pinned : Pinned := { name := "ythbdcindhkjboaa", sum := "339dc1473f2f2708c69c36ff4d126c52bf1c7ecb9eb3f27636df4d27837e346a", checked := Try.checked }
namespace Rows
def none {H : Type} : Left H := { results := [], args := [] }

/-- 'laws.FnExactUnackedOver': WHATEVER THE INPUT: true; the input reads as it did. -/
def fnExactUnackedOverSpec : ChangeSpec := { name := "fnExactUnackedOver", fn := fun _ => fun
  | [d1, d2] => { results := [.lit (.bool true)], args := [d1, d2] }
  | _ => none }
def fnExactUnackedOverRow : OpenClaim := { program := "ythbdcindhkjboaa", sum := "339dc1473f2f2708c69c36ff4d126c52bf1c7ecb9eb3f27636df4d27837e346a", func := "loop.example/telemetryagent/laws.FnExactUnackedOver", spec := "fnExactUnackedOver", recurses := true, apart := false }
def FnExactUnackedOverSaid : Prop := fnExactUnackedOverRow.holds Try.pinned (OpenSpec.ofChange fnExactUnackedOverSpec)

/-- ITS FALSE NEIGHBOUR: 'it returns false'. Refute it at one input. -/
def fnExactUnackedOverWrong : ChangeSpec := { name := "fnExactUnackedOver", fn := fun _ => fun
  | [d1, d2] => { results := [.lit (.bool false)], args := [d1, d2] }
  | _ => none }
def FnExactUnackedOverWrongFalsely : Prop := fnExactUnackedOverRow.holds Try.pinned (OpenSpec.ofChange fnExactUnackedOverWrong)

/-- 'laws.FnUnackedOver': WHATEVER THE INPUT: true; the input reads as it did. -/
def fnUnackedOverSpec : ChangeSpec := { name := "fnUnackedOver", fn := fun _ => fun
  | [d] => { results := [.lit (.bool true)], args := [d] }
  | _ => none }
def fnUnackedOverRow : OpenClaim := { program := "ythbdcindhkjboaa", sum := "339dc1473f2f2708c69c36ff4d126c52bf1c7ecb9eb3f27636df4d27837e346a", func := "loop.example/telemetryagent/laws.FnUnackedOver", spec := "fnUnackedOver", recurses := true, apart := false }
def FnUnackedOverSaid : Prop := fnUnackedOverRow.holds Try.pinned (OpenSpec.ofChange fnUnackedOverSpec)

/-- ITS FALSE NEIGHBOUR: 'it returns false'. Refute it at one input. -/
def fnUnackedOverWrong : ChangeSpec := { name := "fnUnackedOver", fn := fun _ => fun
  | [d] => { results := [.lit (.bool false)], args := [d] }
  | _ => none }
def FnUnackedOverWrongFalsely : Prop := fnUnackedOverRow.holds Try.pinned (OpenSpec.ofChange fnUnackedOverWrong)

/-- 'laws.FnUnackedOverShort': WHATEVER THE INPUT: true; the input reads as it did. -/
def fnUnackedOverShortSpec : ChangeSpec := { name := "fnUnackedOverShort", fn := fun _ => fun
  | [d] => { results := [.lit (.bool true)], args := [d] }
  | _ => none }
def fnUnackedOverShortRow : OpenClaim := { program := "ythbdcindhkjboaa", sum := "339dc1473f2f2708c69c36ff4d126c52bf1c7ecb9eb3f27636df4d27837e346a", func := "loop.example/telemetryagent/laws.FnUnackedOverShort", spec := "fnUnackedOverShort", recurses := true, apart := false }
def FnUnackedOverShortSaid : Prop := fnUnackedOverShortRow.holds Try.pinned (OpenSpec.ofChange fnUnackedOverShortSpec)

/-- ITS FALSE NEIGHBOUR: 'it returns false'. Refute it at one input. -/
def fnUnackedOverShortWrong : ChangeSpec := { name := "fnUnackedOverShort", fn := fun _ => fun
  | [d] => { results := [.lit (.bool false)], args := [d] }
  | _ => none }
def FnUnackedOverShortWrongFalsely : Prop := fnUnackedOverShortRow.holds Try.pinned (OpenSpec.ofChange fnUnackedOverShortWrong)

/-- 'laws.FnDeliveredOverAll': WHATEVER THE INPUT: true; the input reads as it did. -/
def fnDeliveredOverAllSpec : ChangeSpec := { name := "fnDeliveredOverAll", fn := fun _ => fun
  | [d] => { results := [.lit (.bool true)], args := [d] }
  | _ => none }
def fnDeliveredOverAllRow : OpenClaim := { program := "ythbdcindhkjboaa", sum := "339dc1473f2f2708c69c36ff4d126c52bf1c7ecb9eb3f27636df4d27837e346a", func := "loop.example/telemetryagent/laws.FnDeliveredOverAll", spec := "fnDeliveredOverAll", recurses := true, apart := false }
def FnDeliveredOverAllSaid : Prop := fnDeliveredOverAllRow.holds Try.pinned (OpenSpec.ofChange fnDeliveredOverAllSpec)

/-- ITS FALSE NEIGHBOUR: 'it returns false'. Refute it at one input. -/
def fnDeliveredOverAllWrong : ChangeSpec := { name := "fnDeliveredOverAll", fn := fun _ => fun
  | [d] => { results := [.lit (.bool false)], args := [d] }
  | _ => none }
def FnDeliveredOverAllWrongFalsely : Prop := fnDeliveredOverAllRow.holds Try.pinned (OpenSpec.ofChange fnDeliveredOverAllWrong)

/-- 'laws.FnDeliveredOverMute': WHATEVER THE INPUT: true; the input reads as it did. -/
def fnDeliveredOverMuteSpec : ChangeSpec := { name := "fnDeliveredOverMute", fn := fun _ => fun
  | [d] => { results := [.lit (.bool true)], args := [d] }
  | _ => none }
def fnDeliveredOverMuteRow : OpenClaim := { program := "ythbdcindhkjboaa", sum := "339dc1473f2f2708c69c36ff4d126c52bf1c7ecb9eb3f27636df4d27837e346a", func := "loop.example/telemetryagent/laws.FnDeliveredOverMute", spec := "fnDeliveredOverMute", recurses := true, apart := false }
def FnDeliveredOverMuteSaid : Prop := fnDeliveredOverMuteRow.holds Try.pinned (OpenSpec.ofChange fnDeliveredOverMuteSpec)

/-- ITS FALSE NEIGHBOUR: 'it returns false'. Refute it at one input. -/
def fnDeliveredOverMuteWrong : ChangeSpec := { name := "fnDeliveredOverMute", fn := fun _ => fun
  | [d] => { results := [.lit (.bool false)], args := [d] }
  | _ => none }
def FnDeliveredOverMuteWrongFalsely : Prop := fnDeliveredOverMuteRow.holds Try.pinned (OpenSpec.ofChange fnDeliveredOverMuteWrong)

/-- 'laws.FnSendsOver': WHATEVER THE INPUT: true; the input reads as it did. -/
def fnSendsOverSpec : ChangeSpec := { name := "fnSendsOver", fn := fun _ => fun
  | [d] => { results := [.lit (.bool true)], args := [d] }
  | _ => none }
def fnSendsOverRow : OpenClaim := { program := "ythbdcindhkjboaa", sum := "339dc1473f2f2708c69c36ff4d126c52bf1c7ecb9eb3f27636df4d27837e346a", func := "loop.example/telemetryagent/laws.FnSendsOver", spec := "fnSendsOver", recurses := true, apart := false }
def FnSendsOverSaid : Prop := fnSendsOverRow.holds Try.pinned (OpenSpec.ofChange fnSendsOverSpec)

/-- ITS FALSE NEIGHBOUR: 'it returns false'. Refute it at one input. -/
def fnSendsOverWrong : ChangeSpec := { name := "fnSendsOver", fn := fun _ => fun
  | [d] => { results := [.lit (.bool false)], args := [d] }
  | _ => none }
def FnSendsOverWrongFalsely : Prop := fnSendsOverRow.holds Try.pinned (OpenSpec.ofChange fnSendsOverWrong)

/- THE SECOND FORM. 'bulk': how many values and letters a reading holds, each counted each time it is reached (what is shared counts as often as it is met; a slice's spare places count too). A statement '..UptoSaid' is the law's where the arguments, and the package variables that the reading takes, are together of bulk at most 1048576: NARROWER than '..Said'. Prove '..Said' where nothing that the law and all that it calls make is longer than what came in: it says more and counts as full. Else prove '..UptoSaid'. A law counts once. -/
mutual
def uptoBulk {H : Type} : DataW H → Nat
  | .lit (.string bytes) => bytes.length + 1
  | .lit _ => 1
  | .nil => 1
  | .ptr d => uptoBulk d + 1
  | .slice elems spare => uptoBulkAll elems + uptoBulkAll spare + 1
  | .agg parts => uptoBulkAll parts + 1
  | .iface _ d => uptoBulk d + 1
  | .map entries => uptoBulkEntries entries + 1
  | .held _ => 1
def uptoBulkAll {H : Type} : List (DataW H) → Nat
  | [] => 0
  | d :: r => uptoBulk d + uptoBulkAll r
def uptoBulkEntries {H : Type} : List (Lit × DataW H) → Nat
  | [] => 0
  | x :: r => uptoBulkEntry x + uptoBulkEntries r
def uptoBulkEntry {H : Type} : Lit × DataW H → Nat
  | (.string bytes, d) => bytes.length + uptoBulk d + 1
  | (_, d) => uptoBulk d + 1
 end
def uptoSmall : (H : Type) → List (DataW H) → Bool := fun _ ds => decide (uptoBulkAll ds ≤ 1048576)
def OpenSpec.upto (s : _root_.Go.ChangeSpec) : _root_.Go.OpenSpec := { _root_.Go.OpenSpec.ofChange s with cond := some uptoSmall }

/-- 'laws.FnExactUnackedOver', WHERE WHAT IT READS IS OF BULK AT MOST 1048576: true; the input reads as it did. -/
def fnExactUnackedOverUptoRow : OpenClaim := { program := "ythbdcindhkjboaa", sum := "339dc1473f2f2708c69c36ff4d126c52bf1c7ecb9eb3f27636df4d27837e346a", func := "loop.example/telemetryagent/laws.FnExactUnackedOver", spec := "fnExactUnackedOver", recurses := true, apart := false, narrowed := true }
def FnExactUnackedOverUptoSaid : Prop := fnExactUnackedOverUptoRow.holds Try.pinned (OpenSpec.upto fnExactUnackedOverSpec)

/-- 'laws.FnUnackedOver', WHERE WHAT IT READS IS OF BULK AT MOST 1048576: true; the input reads as it did. -/
def fnUnackedOverUptoRow : OpenClaim := { program := "ythbdcindhkjboaa", sum := "339dc1473f2f2708c69c36ff4d126c52bf1c7ecb9eb3f27636df4d27837e346a", func := "loop.example/telemetryagent/laws.FnUnackedOver", spec := "fnUnackedOver", recurses := true, apart := false, narrowed := true }
def FnUnackedOverUptoSaid : Prop := fnUnackedOverUptoRow.holds Try.pinned (OpenSpec.upto fnUnackedOverSpec)

/-- 'laws.FnUnackedOverShort', WHERE WHAT IT READS IS OF BULK AT MOST 1048576: true; the input reads as it did. -/
def fnUnackedOverShortUptoRow : OpenClaim := { program := "ythbdcindhkjboaa", sum := "339dc1473f2f2708c69c36ff4d126c52bf1c7ecb9eb3f27636df4d27837e346a", func := "loop.example/telemetryagent/laws.FnUnackedOverShort", spec := "fnUnackedOverShort", recurses := true, apart := false, narrowed := true }
def FnUnackedOverShortUptoSaid : Prop := fnUnackedOverShortUptoRow.holds Try.pinned (OpenSpec.upto fnUnackedOverShortSpec)

/-- 'laws.FnDeliveredOverAll', WHERE WHAT IT READS IS OF BULK AT MOST 1048576: true; the input reads as it did. -/
def fnDeliveredOverAllUptoRow : OpenClaim := { program := "ythbdcindhkjboaa", sum := "339dc1473f2f2708c69c36ff4d126c52bf1c7ecb9eb3f27636df4d27837e346a", func := "loop.example/telemetryagent/laws.FnDeliveredOverAll", spec := "fnDeliveredOverAll", recurses := true, apart := false, narrowed := true }
def FnDeliveredOverAllUptoSaid : Prop := fnDeliveredOverAllUptoRow.holds Try.pinned (OpenSpec.upto fnDeliveredOverAllSpec)

/-- 'laws.FnDeliveredOverMute', WHERE WHAT IT READS IS OF BULK AT MOST 1048576: true; the input reads as it did. -/
def fnDeliveredOverMuteUptoRow : OpenClaim := { program := "ythbdcindhkjboaa", sum := "339dc1473f2f2708c69c36ff4d126c52bf1c7ecb9eb3f27636df4d27837e346a", func := "loop.example/telemetryagent/laws.FnDeliveredOverMute", spec := "fnDeliveredOverMute", recurses := true, apart := false, narrowed := true }
def FnDeliveredOverMuteUptoSaid : Prop := fnDeliveredOverMuteUptoRow.holds Try.pinned (OpenSpec.upto fnDeliveredOverMuteSpec)

/-- 'laws.FnSendsOver', WHERE WHAT IT READS IS OF BULK AT MOST 1048576: true; the input reads as it did. -/
def fnSendsOverUptoRow : OpenClaim := { program := "ythbdcindhkjboaa", sum := "339dc1473f2f2708c69c36ff4d126c52bf1c7ecb9eb3f27636df4d27837e346a", func := "loop.example/telemetryagent/laws.FnSendsOver", spec := "fnSendsOver", recurses := true, apart := false, narrowed := true }
def FnSendsOverUptoSaid : Prop := fnSendsOverUptoRow.holds Try.pinned (OpenSpec.upto fnSendsOverSpec)

end Rows
end Go.Proofs.Ythbdcindhkjboaa
