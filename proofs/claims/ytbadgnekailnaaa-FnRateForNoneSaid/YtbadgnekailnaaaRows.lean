/-
  No cell of these rows narrows 'for every input' (looked for: loops, veiled, ifaces, maps, wideKeys, modest, calm, conditions, laid).
  DERIVED. THE GIVEN ROWS OF THIS SEAT. 14 by the template 'for every input the law returns true; each argument reads behind the call as it read before'; 0 by the template 'total and deterministic' (their statements: YtbadgnekailnaaaTotals.lean).
  GIVEN WITH THE SEED: the statements are not yours to turn. If you find one false, say at which input.
  Laid BY PROGRAM, IN A SANDBOX (cutbox-rows.mjs): the forced cells as the released guide's own fill.sh prints them over the translation 38e596d3790b87e5… (all of the seat's roots in one cut). By AI agents, Wed Nov 11 2026. No macro, syntax, notation, axiom, sorry.
-/
import Derived.Test.YtbadgnekailnaaaChecked
import GoSem.Claim
import GoSem.ClaimJoined
import GoSem.ClaimMapViews
import Derived.JoinedTies
import Derived.KernelRfl
namespace Go.Proofs.Ytbadgnekailnaaa
/- THE CELL 'sum', in the pinned program and in every row, IS THE sha256 OF THE DUMP (.gsa) THAT YtbadgnekailnaaaProg.lean LOADS. Nothing in Lean hashes anything: it is a label: what it is worth is what the hold of that sum in a sandbox is worth. -/
noncomputable def Try.pinned : Pinned := { name := "ytbadgnekailnaaa", sum := "38e596d3790b87e5bb2daa38d113418392821249937a3474c29053a6284556be", checked := Try.checked }
namespace Rows
def none {H : Type} : Left H := { results := [], args := [] }

/-- 'laws.FnExactKeepsKey': WHATEVER THE INPUT: true; the input reads as it did. -/
def fnExactKeepsKeySpec : ChangeSpec := { name := "fnExactKeepsKey", fn := fun _ => fun
  | [d1, d2] => { results := [.lit (.bool true)], args := [d1, d2] }
  | _ => none }
def fnExactKeepsKeyRow : OpenClaim := { program := "ytbadgnekailnaaa", sum := "38e596d3790b87e5bb2daa38d113418392821249937a3474c29053a6284556be", func := "loop.example/telemetryagent/laws.FnExactKeepsKey", spec := "fnExactKeepsKey", apart := false }
def FnExactKeepsKeySaid : Prop := fnExactKeepsKeyRow.holds Try.pinned (OpenSpec.ofChange fnExactKeepsKeySpec)

/-- ITS FALSE NEIGHBOUR: 'it returns false'. Refute it at one input. -/
def fnExactKeepsKeyWrong : ChangeSpec := { name := "fnExactKeepsKey", fn := fun _ => fun
  | [d1, d2] => { results := [.lit (.bool false)], args := [d1, d2] }
  | _ => none }
def FnExactKeepsKeyWrongFalsely : Prop := fnExactKeepsKeyRow.holds Try.pinned (OpenSpec.ofChange fnExactKeepsKeyWrong)

/-- 'laws.FnExactGuessAll': WHATEVER THE INPUT: true; the input reads as it did. -/
def fnExactGuessAllSpec : ChangeSpec := { name := "fnExactGuessAll", fn := fun _ => fun
  | [d1, d2] => { results := [.lit (.bool true)], args := [d1, d2] }
  | _ => none }
def fnExactGuessAllRow : OpenClaim := { program := "ytbadgnekailnaaa", sum := "38e596d3790b87e5bb2daa38d113418392821249937a3474c29053a6284556be", func := "loop.example/telemetryagent/laws.FnExactGuessAll", spec := "fnExactGuessAll", apart := false }
def FnExactGuessAllSaid : Prop := fnExactGuessAllRow.holds Try.pinned (OpenSpec.ofChange fnExactGuessAllSpec)

/-- ITS FALSE NEIGHBOUR: 'it returns false'. Refute it at one input. -/
def fnExactGuessAllWrong : ChangeSpec := { name := "fnExactGuessAll", fn := fun _ => fun
  | [d1, d2] => { results := [.lit (.bool false)], args := [d1, d2] }
  | _ => none }
def FnExactGuessAllWrongFalsely : Prop := fnExactGuessAllRow.holds Try.pinned (OpenSpec.ofChange fnExactGuessAllWrong)

/-- 'laws.FnExactSampleKeys': WHATEVER THE INPUT: true; the input reads as it did. -/
def fnExactSampleKeysSpec : ChangeSpec := { name := "fnExactSampleKeys", fn := fun _ => fun
  | [d1, d2] => { results := [.lit (.bool true)], args := [d1, d2] }
  | _ => none }
def fnExactSampleKeysRow : OpenClaim := { program := "ytbadgnekailnaaa", sum := "38e596d3790b87e5bb2daa38d113418392821249937a3474c29053a6284556be", func := "loop.example/telemetryagent/laws.FnExactSampleKeys", spec := "fnExactSampleKeys", apart := false }
def FnExactSampleKeysSaid : Prop := fnExactSampleKeysRow.holds Try.pinned (OpenSpec.ofChange fnExactSampleKeysSpec)

/-- ITS FALSE NEIGHBOUR: 'it returns false'. Refute it at one input. -/
def fnExactSampleKeysWrong : ChangeSpec := { name := "fnExactSampleKeys", fn := fun _ => fun
  | [d1, d2] => { results := [.lit (.bool false)], args := [d1, d2] }
  | _ => none }
def FnExactSampleKeysWrongFalsely : Prop := fnExactSampleKeysRow.holds Try.pinned (OpenSpec.ofChange fnExactSampleKeysWrong)

/-- 'laws.FnExactRateFor': WHATEVER THE INPUT: true; the input reads as it did. -/
def fnExactRateForSpec : ChangeSpec := { name := "fnExactRateFor", fn := fun _ => fun
  | [d1, d2] => { results := [.lit (.bool true)], args := [d1, d2] }
  | _ => none }
def fnExactRateForRow : OpenClaim := { program := "ytbadgnekailnaaa", sum := "38e596d3790b87e5bb2daa38d113418392821249937a3474c29053a6284556be", func := "loop.example/telemetryagent/laws.FnExactRateFor", spec := "fnExactRateFor", apart := false }
def FnExactRateForSaid : Prop := fnExactRateForRow.holds Try.pinned (OpenSpec.ofChange fnExactRateForSpec)

/-- ITS FALSE NEIGHBOUR: 'it returns false'. Refute it at one input. -/
def fnExactRateForWrong : ChangeSpec := { name := "fnExactRateFor", fn := fun _ => fun
  | [d1, d2] => { results := [.lit (.bool false)], args := [d1, d2] }
  | _ => none }
def FnExactRateForWrongFalsely : Prop := fnExactRateForRow.holds Try.pinned (OpenSpec.ofChange fnExactRateForWrong)

/-- 'laws.FnKeepsKey': WHATEVER THE INPUT: true; the input reads as it did. -/
def fnKeepsKeySpec : ChangeSpec := { name := "fnKeepsKey", fn := fun _ => fun
  | [d] => { results := [.lit (.bool true)], args := [d] }
  | _ => none }
def fnKeepsKeyRow : OpenClaim := { program := "ytbadgnekailnaaa", sum := "38e596d3790b87e5bb2daa38d113418392821249937a3474c29053a6284556be", func := "loop.example/telemetryagent/laws.FnKeepsKey", spec := "fnKeepsKey", apart := false }
def FnKeepsKeySaid : Prop := fnKeepsKeyRow.holds Try.pinned (OpenSpec.ofChange fnKeepsKeySpec)

/-- ITS FALSE NEIGHBOUR: 'it returns false'. Refute it at one input. -/
def fnKeepsKeyWrong : ChangeSpec := { name := "fnKeepsKey", fn := fun _ => fun
  | [d] => { results := [.lit (.bool false)], args := [d] }
  | _ => none }
def FnKeepsKeyWrongFalsely : Prop := fnKeepsKeyRow.holds Try.pinned (OpenSpec.ofChange fnKeepsKeyWrong)

/-- 'laws.FnKeepsKeyCount': WHATEVER THE INPUT: true; the input reads as it did. -/
def fnKeepsKeyCountSpec : ChangeSpec := { name := "fnKeepsKeyCount", fn := fun _ => fun
  | [d] => { results := [.lit (.bool true)], args := [d] }
  | _ => none }
def fnKeepsKeyCountRow : OpenClaim := { program := "ytbadgnekailnaaa", sum := "38e596d3790b87e5bb2daa38d113418392821249937a3474c29053a6284556be", func := "loop.example/telemetryagent/laws.FnKeepsKeyCount", spec := "fnKeepsKeyCount", apart := false }
def FnKeepsKeyCountSaid : Prop := fnKeepsKeyCountRow.holds Try.pinned (OpenSpec.ofChange fnKeepsKeyCountSpec)

/-- ITS FALSE NEIGHBOUR: 'it returns false'. Refute it at one input. -/
def fnKeepsKeyCountWrong : ChangeSpec := { name := "fnKeepsKeyCount", fn := fun _ => fun
  | [d] => { results := [.lit (.bool false)], args := [d] }
  | _ => none }
def FnKeepsKeyCountWrongFalsely : Prop := fnKeepsKeyCountRow.holds Try.pinned (OpenSpec.ofChange fnKeepsKeyCountWrong)

/-- 'laws.FnSampleKeys': WHATEVER THE INPUT: true; the input reads as it did. -/
def fnSampleKeysSpec : ChangeSpec := { name := "fnSampleKeys", fn := fun _ => fun
  | [d] => { results := [.lit (.bool true)], args := [d] }
  | _ => none }
def fnSampleKeysRow : OpenClaim := { program := "ytbadgnekailnaaa", sum := "38e596d3790b87e5bb2daa38d113418392821249937a3474c29053a6284556be", func := "loop.example/telemetryagent/laws.FnSampleKeys", spec := "fnSampleKeys", apart := false }
def FnSampleKeysSaid : Prop := fnSampleKeysRow.holds Try.pinned (OpenSpec.ofChange fnSampleKeysSpec)

/-- ITS FALSE NEIGHBOUR: 'it returns false'. Refute it at one input. -/
def fnSampleKeysWrong : ChangeSpec := { name := "fnSampleKeys", fn := fun _ => fun
  | [d] => { results := [.lit (.bool false)], args := [d] }
  | _ => none }
def FnSampleKeysWrongFalsely : Prop := fnSampleKeysRow.holds Try.pinned (OpenSpec.ofChange fnSampleKeysWrong)

/-- 'laws.FnSampleKeysParts': WHATEVER THE INPUT: true; the input reads as it did. -/
def fnSampleKeysPartsSpec : ChangeSpec := { name := "fnSampleKeysParts", fn := fun _ => fun
  | [d] => { results := [.lit (.bool true)], args := [d] }
  | _ => none }
def fnSampleKeysPartsRow : OpenClaim := { program := "ytbadgnekailnaaa", sum := "38e596d3790b87e5bb2daa38d113418392821249937a3474c29053a6284556be", func := "loop.example/telemetryagent/laws.FnSampleKeysParts", spec := "fnSampleKeysParts", apart := false }
def FnSampleKeysPartsSaid : Prop := fnSampleKeysPartsRow.holds Try.pinned (OpenSpec.ofChange fnSampleKeysPartsSpec)

/-- ITS FALSE NEIGHBOUR: 'it returns false'. Refute it at one input. -/
def fnSampleKeysPartsWrong : ChangeSpec := { name := "fnSampleKeysParts", fn := fun _ => fun
  | [d] => { results := [.lit (.bool false)], args := [d] }
  | _ => none }
def FnSampleKeysPartsWrongFalsely : Prop := fnSampleKeysPartsRow.holds Try.pinned (OpenSpec.ofChange fnSampleKeysPartsWrong)

/-- 'laws.FnSampleKeysMore': WHATEVER THE INPUT: true; the input reads as it did. -/
def fnSampleKeysMoreSpec : ChangeSpec := { name := "fnSampleKeysMore", fn := fun _ => fun
  | [d] => { results := [.lit (.bool true)], args := [d] }
  | _ => none }
def fnSampleKeysMoreRow : OpenClaim := { program := "ytbadgnekailnaaa", sum := "38e596d3790b87e5bb2daa38d113418392821249937a3474c29053a6284556be", func := "loop.example/telemetryagent/laws.FnSampleKeysMore", spec := "fnSampleKeysMore", apart := false }
def FnSampleKeysMoreSaid : Prop := fnSampleKeysMoreRow.holds Try.pinned (OpenSpec.ofChange fnSampleKeysMoreSpec)

/-- ITS FALSE NEIGHBOUR: 'it returns false'. Refute it at one input. -/
def fnSampleKeysMoreWrong : ChangeSpec := { name := "fnSampleKeysMore", fn := fun _ => fun
  | [d] => { results := [.lit (.bool false)], args := [d] }
  | _ => none }
def FnSampleKeysMoreWrongFalsely : Prop := fnSampleKeysMoreRow.holds Try.pinned (OpenSpec.ofChange fnSampleKeysMoreWrong)

/-- 'laws.FnGuessAll': WHATEVER THE INPUT: true; the input reads as it did. -/
def fnGuessAllSpec : ChangeSpec := { name := "fnGuessAll", fn := fun _ => fun
  | [d] => { results := [.lit (.bool true)], args := [d] }
  | _ => none }
def fnGuessAllRow : OpenClaim := { program := "ytbadgnekailnaaa", sum := "38e596d3790b87e5bb2daa38d113418392821249937a3474c29053a6284556be", func := "loop.example/telemetryagent/laws.FnGuessAll", spec := "fnGuessAll", apart := false }
def FnGuessAllSaid : Prop := fnGuessAllRow.holds Try.pinned (OpenSpec.ofChange fnGuessAllSpec)

/-- ITS FALSE NEIGHBOUR: 'it returns false'. Refute it at one input. -/
def fnGuessAllWrong : ChangeSpec := { name := "fnGuessAll", fn := fun _ => fun
  | [d] => { results := [.lit (.bool false)], args := [d] }
  | _ => none }
def FnGuessAllWrongFalsely : Prop := fnGuessAllRow.holds Try.pinned (OpenSpec.ofChange fnGuessAllWrong)

/-- 'laws.FnGuessAllSample': WHATEVER THE INPUT: true; the input reads as it did. -/
def fnGuessAllSampleSpec : ChangeSpec := { name := "fnGuessAllSample", fn := fun _ => fun
  | [d] => { results := [.lit (.bool true)], args := [d] }
  | _ => none }
def fnGuessAllSampleRow : OpenClaim := { program := "ytbadgnekailnaaa", sum := "38e596d3790b87e5bb2daa38d113418392821249937a3474c29053a6284556be", func := "loop.example/telemetryagent/laws.FnGuessAllSample", spec := "fnGuessAllSample", apart := false }
def FnGuessAllSampleSaid : Prop := fnGuessAllSampleRow.holds Try.pinned (OpenSpec.ofChange fnGuessAllSampleSpec)

/-- ITS FALSE NEIGHBOUR: 'it returns false'. Refute it at one input. -/
def fnGuessAllSampleWrong : ChangeSpec := { name := "fnGuessAllSample", fn := fun _ => fun
  | [d] => { results := [.lit (.bool false)], args := [d] }
  | _ => none }
def FnGuessAllSampleWrongFalsely : Prop := fnGuessAllSampleRow.holds Try.pinned (OpenSpec.ofChange fnGuessAllSampleWrong)

/-- 'laws.FnRateFor': WHATEVER THE INPUT: true; the input reads as it did. -/
def fnRateForSpec : ChangeSpec := { name := "fnRateFor", fn := fun _ => fun
  | [d] => { results := [.lit (.bool true)], args := [d] }
  | _ => none }
def fnRateForRow : OpenClaim := { program := "ytbadgnekailnaaa", sum := "38e596d3790b87e5bb2daa38d113418392821249937a3474c29053a6284556be", func := "loop.example/telemetryagent/laws.FnRateFor", spec := "fnRateFor", apart := false }
def FnRateForSaid : Prop := fnRateForRow.holds Try.pinned (OpenSpec.ofChange fnRateForSpec)

/-- ITS FALSE NEIGHBOUR: 'it returns false'. Refute it at one input. -/
def fnRateForWrong : ChangeSpec := { name := "fnRateFor", fn := fun _ => fun
  | [d] => { results := [.lit (.bool false)], args := [d] }
  | _ => none }
def FnRateForWrongFalsely : Prop := fnRateForRow.holds Try.pinned (OpenSpec.ofChange fnRateForWrong)

/-- 'laws.FnRateForMore': WHATEVER THE INPUT: true; the input reads as it did. -/
def fnRateForMoreSpec : ChangeSpec := { name := "fnRateForMore", fn := fun _ => fun
  | [d] => { results := [.lit (.bool true)], args := [d] }
  | _ => none }
def fnRateForMoreRow : OpenClaim := { program := "ytbadgnekailnaaa", sum := "38e596d3790b87e5bb2daa38d113418392821249937a3474c29053a6284556be", func := "loop.example/telemetryagent/laws.FnRateForMore", spec := "fnRateForMore", apart := false }
def FnRateForMoreSaid : Prop := fnRateForMoreRow.holds Try.pinned (OpenSpec.ofChange fnRateForMoreSpec)

/-- ITS FALSE NEIGHBOUR: 'it returns false'. Refute it at one input. -/
def fnRateForMoreWrong : ChangeSpec := { name := "fnRateForMore", fn := fun _ => fun
  | [d] => { results := [.lit (.bool false)], args := [d] }
  | _ => none }
def FnRateForMoreWrongFalsely : Prop := fnRateForMoreRow.holds Try.pinned (OpenSpec.ofChange fnRateForMoreWrong)

/-- 'laws.FnRateForNone': WHATEVER THE INPUT: true; the input reads as it did. -/
def fnRateForNoneSpec : ChangeSpec := { name := "fnRateForNone", fn := fun _ => fun
  | [d] => { results := [.lit (.bool true)], args := [d] }
  | _ => none }
def fnRateForNoneRow : OpenClaim := { program := "ytbadgnekailnaaa", sum := "38e596d3790b87e5bb2daa38d113418392821249937a3474c29053a6284556be", func := "loop.example/telemetryagent/laws.FnRateForNone", spec := "fnRateForNone", apart := false }
def FnRateForNoneSaid : Prop := fnRateForNoneRow.holds Try.pinned (OpenSpec.ofChange fnRateForNoneSpec)

/-- ITS FALSE NEIGHBOUR: 'it returns false'. Refute it at one input. -/
def fnRateForNoneWrong : ChangeSpec := { name := "fnRateForNone", fn := fun _ => fun
  | [d] => { results := [.lit (.bool false)], args := [d] }
  | _ => none }
def FnRateForNoneWrongFalsely : Prop := fnRateForNoneRow.holds Try.pinned (OpenSpec.ofChange fnRateForNoneWrong)

/- THE SECOND FORM. 'bulk': how many values and letters a reading holds, each counted each time it is reached (what is shared counts as often as it is met; a slice's spare places count too). A statement '..UptoSaid' is the law's where the arguments, and the package variables that the reading takes, are together of bulk at most 1048576: NARROWER than '..Said'. Prove '..Said' where nothing that the law and all that it calls make is longer than what came in: it says more and counts as full. Else prove '..UptoSaid'. A law counts once. -/
mutual
def uptoBulk {H : Type} : DataW H → Nat
  | .lit (.string bytes) => bytes.length + 1
  | .lit _ => 1
  | .nil => 1
  | .ptr d => uptoBulk d + 1
  | .slice elems spare => uptoBulkAll elems + uptoBulkAll spare + 1
  | .agg parts => uptoBulkAll parts + 1
  | .iface _ d => uptoBulk d + 1
  | .map entries => uptoBulkEntries entries + 1
  | .held _ => 1
def uptoBulkAll {H : Type} : List (DataW H) → Nat
  | [] => 0
  | d :: r => uptoBulk d + uptoBulkAll r
def uptoBulkEntries {H : Type} : List (Lit × DataW H) → Nat
  | [] => 0
  | x :: r => uptoBulkEntry x + uptoBulkEntries r
def uptoBulkEntry {H : Type} : Lit × DataW H → Nat
  | (.string bytes, d) => bytes.length + uptoBulk d + 1
  | (_, d) => uptoBulk d + 1
 end
def uptoSmall : (H : Type) → List (DataW H) → Bool := fun _ ds => decide (uptoBulkAll ds ≤ 1048576)
def OpenSpec.upto (s : _root_.Go.ChangeSpec) : _root_.Go.OpenSpec := { _root_.Go.OpenSpec.ofChange s with cond := some uptoSmall }

/-- 'laws.FnExactKeepsKey', WHERE WHAT IT READS IS OF BULK AT MOST 1048576: true; the input reads as it did. -/
def fnExactKeepsKeyUptoRow : OpenClaim := { program := "ytbadgnekailnaaa", sum := "38e596d3790b87e5bb2daa38d113418392821249937a3474c29053a6284556be", func := "loop.example/telemetryagent/laws.FnExactKeepsKey", spec := "fnExactKeepsKey", apart := false, narrowed := true }
def FnExactKeepsKeyUptoSaid : Prop := fnExactKeepsKeyUptoRow.holds Try.pinned (OpenSpec.upto fnExactKeepsKeySpec)

/-- 'laws.FnExactGuessAll', WHERE WHAT IT READS IS OF BULK AT MOST 1048576: true; the input reads as it did. -/
def fnExactGuessAllUptoRow : OpenClaim := { program := "ytbadgnekailnaaa", sum := "38e596d3790b87e5bb2daa38d113418392821249937a3474c29053a6284556be", func := "loop.example/telemetryagent/laws.FnExactGuessAll", spec := "fnExactGuessAll", apart := false, narrowed := true }
def FnExactGuessAllUptoSaid : Prop := fnExactGuessAllUptoRow.holds Try.pinned (OpenSpec.upto fnExactGuessAllSpec)

/-- 'laws.FnExactSampleKeys', WHERE WHAT IT READS IS OF BULK AT MOST 1048576: true; the input reads as it did. -/
def fnExactSampleKeysUptoRow : OpenClaim := { program := "ytbadgnekailnaaa", sum := "38e596d3790b87e5bb2daa38d113418392821249937a3474c29053a6284556be", func := "loop.example/telemetryagent/laws.FnExactSampleKeys", spec := "fnExactSampleKeys", apart := false, narrowed := true }
def FnExactSampleKeysUptoSaid : Prop := fnExactSampleKeysUptoRow.holds Try.pinned (OpenSpec.upto fnExactSampleKeysSpec)

/-- 'laws.FnExactRateFor', WHERE WHAT IT READS IS OF BULK AT MOST 1048576: true; the input reads as it did. -/
def fnExactRateForUptoRow : OpenClaim := { program := "ytbadgnekailnaaa", sum := "38e596d3790b87e5bb2daa38d113418392821249937a3474c29053a6284556be", func := "loop.example/telemetryagent/laws.FnExactRateFor", spec := "fnExactRateFor", apart := false, narrowed := true }
def FnExactRateForUptoSaid : Prop := fnExactRateForUptoRow.holds Try.pinned (OpenSpec.upto fnExactRateForSpec)

/-- 'laws.FnKeepsKey', WHERE WHAT IT READS IS OF BULK AT MOST 1048576: true; the input reads as it did. -/
def fnKeepsKeyUptoRow : OpenClaim := { program := "ytbadgnekailnaaa", sum := "38e596d3790b87e5bb2daa38d113418392821249937a3474c29053a6284556be", func := "loop.example/telemetryagent/laws.FnKeepsKey", spec := "fnKeepsKey", apart := false, narrowed := true }
def FnKeepsKeyUptoSaid : Prop := fnKeepsKeyUptoRow.holds Try.pinned (OpenSpec.upto fnKeepsKeySpec)

/-- 'laws.FnKeepsKeyCount', WHERE WHAT IT READS IS OF BULK AT MOST 1048576: true; the input reads as it did. -/
def fnKeepsKeyCountUptoRow : OpenClaim := { program := "ytbadgnekailnaaa", sum := "38e596d3790b87e5bb2daa38d113418392821249937a3474c29053a6284556be", func := "loop.example/telemetryagent/laws.FnKeepsKeyCount", spec := "fnKeepsKeyCount", apart := false, narrowed := true }
def FnKeepsKeyCountUptoSaid : Prop := fnKeepsKeyCountUptoRow.holds Try.pinned (OpenSpec.upto fnKeepsKeyCountSpec)

/-- 'laws.FnSampleKeys', WHERE WHAT IT READS IS OF BULK AT MOST 1048576: true; the input reads as it did. -/
def fnSampleKeysUptoRow : OpenClaim := { program := "ytbadgnekailnaaa", sum := "38e596d3790b87e5bb2daa38d113418392821249937a3474c29053a6284556be", func := "loop.example/telemetryagent/laws.FnSampleKeys", spec := "fnSampleKeys", apart := false, narrowed := true }
def FnSampleKeysUptoSaid : Prop := fnSampleKeysUptoRow.holds Try.pinned (OpenSpec.upto fnSampleKeysSpec)

/-- 'laws.FnSampleKeysParts', WHERE WHAT IT READS IS OF BULK AT MOST 1048576: true; the input reads as it did. -/
def fnSampleKeysPartsUptoRow : OpenClaim := { program := "ytbadgnekailnaaa", sum := "38e596d3790b87e5bb2daa38d113418392821249937a3474c29053a6284556be", func := "loop.example/telemetryagent/laws.FnSampleKeysParts", spec := "fnSampleKeysParts", apart := false, narrowed := true }
def FnSampleKeysPartsUptoSaid : Prop := fnSampleKeysPartsUptoRow.holds Try.pinned (OpenSpec.upto fnSampleKeysPartsSpec)

/-- 'laws.FnSampleKeysMore', WHERE WHAT IT READS IS OF BULK AT MOST 1048576: true; the input reads as it did. -/
def fnSampleKeysMoreUptoRow : OpenClaim := { program := "ytbadgnekailnaaa", sum := "38e596d3790b87e5bb2daa38d113418392821249937a3474c29053a6284556be", func := "loop.example/telemetryagent/laws.FnSampleKeysMore", spec := "fnSampleKeysMore", apart := false, narrowed := true }
def FnSampleKeysMoreUptoSaid : Prop := fnSampleKeysMoreUptoRow.holds Try.pinned (OpenSpec.upto fnSampleKeysMoreSpec)

/-- 'laws.FnGuessAll', WHERE WHAT IT READS IS OF BULK AT MOST 1048576: true; the input reads as it did. -/
def fnGuessAllUptoRow : OpenClaim := { program := "ytbadgnekailnaaa", sum := "38e596d3790b87e5bb2daa38d113418392821249937a3474c29053a6284556be", func := "loop.example/telemetryagent/laws.FnGuessAll", spec := "fnGuessAll", apart := false, narrowed := true }
def FnGuessAllUptoSaid : Prop := fnGuessAllUptoRow.holds Try.pinned (OpenSpec.upto fnGuessAllSpec)

/-- 'laws.FnGuessAllSample', WHERE WHAT IT READS IS OF BULK AT MOST 1048576: true; the input reads as it did. -/
def fnGuessAllSampleUptoRow : OpenClaim := { program := "ytbadgnekailnaaa", sum := "38e596d3790b87e5bb2daa38d113418392821249937a3474c29053a6284556be", func := "loop.example/telemetryagent/laws.FnGuessAllSample", spec := "fnGuessAllSample", apart := false, narrowed := true }
def FnGuessAllSampleUptoSaid : Prop := fnGuessAllSampleUptoRow.holds Try.pinned (OpenSpec.upto fnGuessAllSampleSpec)

/-- 'laws.FnRateFor', WHERE WHAT IT READS IS OF BULK AT MOST 1048576: true; the input reads as it did. -/
def fnRateForUptoRow : OpenClaim := { program := "ytbadgnekailnaaa", sum := "38e596d3790b87e5bb2daa38d113418392821249937a3474c29053a6284556be", func := "loop.example/telemetryagent/laws.FnRateFor", spec := "fnRateFor", apart := false, narrowed := true }
def FnRateForUptoSaid : Prop := fnRateForUptoRow.holds Try.pinned (OpenSpec.upto fnRateForSpec)

/-- 'laws.FnRateForMore', WHERE WHAT IT READS IS OF BULK AT MOST 1048576: true; the input reads as it did. -/
def fnRateForMoreUptoRow : OpenClaim := { program := "ytbadgnekailnaaa", sum := "38e596d3790b87e5bb2daa38d113418392821249937a3474c29053a6284556be", func := "loop.example/telemetryagent/laws.FnRateForMore", spec := "fnRateForMore", apart := false, narrowed := true }
def FnRateForMoreUptoSaid : Prop := fnRateForMoreUptoRow.holds Try.pinned (OpenSpec.upto fnRateForMoreSpec)

/-- 'laws.FnRateForNone', WHERE WHAT IT READS IS OF BULK AT MOST 1048576: true; the input reads as it did. -/
def fnRateForNoneUptoRow : OpenClaim := { program := "ytbadgnekailnaaa", sum := "38e596d3790b87e5bb2daa38d113418392821249937a3474c29053a6284556be", func := "loop.example/telemetryagent/laws.FnRateForNone", spec := "fnRateForNone", apart := false, narrowed := true }
def FnRateForNoneUptoSaid : Prop := fnRateForNoneUptoRow.holds Try.pinned (OpenSpec.upto fnRateForNoneSpec)

end Rows
end Go.Proofs.Ytbadgnekailnaaa
