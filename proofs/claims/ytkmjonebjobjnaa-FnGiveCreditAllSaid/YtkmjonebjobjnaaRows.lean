/-
  No cell of these rows narrows 'for every input' (looked for: loops, veiled, ifaces, maps, wideKeys, modest, calm, conditions, laid).
  DERIVED. THE GIVEN ROWS OF THIS SEAT. 11 by the template 'for every input the law returns true; each argument reads behind the call as it read before'; 0 by the template 'total and deterministic' (their statements: YtkmjonebjobjnaaTotals.lean).
  GIVEN WITH THE SEED: the statements are not yours to turn. If you find one false, say at which input.
  Laid BY PROGRAM, IN A SANDBOX (cutbox-rows.mjs): the forced cells as the released guide's own fill.sh prints them over the translation ccec7cd93f948446… (all of the seat's roots in one cut). By AI agents, Wed Nov 11 2026. No macro, syntax, notation, axiom, sorry.
-/
import Derived.Test.YtkmjonebjobjnaaChecked
import GoSem.Claim
import GoSem.ClaimJoined
import GoSem.ClaimMapViews
import Derived.JoinedTies
import Derived.KernelRfl
namespace Go.Proofs.Ytkmjonebjobjnaa
/- THE CELL 'sum', in the pinned program and in every row, IS THE sha256 OF THE DUMP (.gsa) THAT YtkmjonebjobjnaaProg.lean LOADS. Nothing in Lean hashes anything: it is a label: what it is worth is what the hold of that sum in a sandbox is worth. -/
noncomputable def Try.pinned : Pinned := { name := "ytkmjonebjobjnaa", sum := "ccec7cd93f9484465971fb18946c8436db9cca14903e80b033ddedd4f3386f24", checked := Try.checked }
namespace Rows
def none {H : Type} : Left H := { results := [], args := [] }

/-- 'laws.FnValidBudget': WHATEVER THE INPUT: true; the input reads as it did. -/
def fnValidBudgetSpec : ChangeSpec := { name := "fnValidBudget", fn := fun _ => fun
  | [d] => { results := [.lit (.bool true)], args := [d] }
  | _ => none }
def fnValidBudgetRow : OpenClaim := { program := "ytkmjonebjobjnaa", sum := "ccec7cd93f9484465971fb18946c8436db9cca14903e80b033ddedd4f3386f24", func := "loop.example/telemetryagent/laws.FnValidBudget", spec := "fnValidBudget", apart := false }
def FnValidBudgetSaid : Prop := fnValidBudgetRow.holds Try.pinned (OpenSpec.ofChange fnValidBudgetSpec)

/-- ITS FALSE NEIGHBOUR: 'it returns false'. Refute it at one input. -/
def fnValidBudgetWrong : ChangeSpec := { name := "fnValidBudget", fn := fun _ => fun
  | [d] => { results := [.lit (.bool false)], args := [d] }
  | _ => none }
def FnValidBudgetWrongFalsely : Prop := fnValidBudgetRow.holds Try.pinned (OpenSpec.ofChange fnValidBudgetWrong)

/-- 'laws.FnRoomFor': WHATEVER THE INPUT: true; the input reads as it did. -/
def fnRoomForSpec : ChangeSpec := { name := "fnRoomFor", fn := fun _ => fun
  | [d] => { results := [.lit (.bool true)], args := [d] }
  | _ => none }
def fnRoomForRow : OpenClaim := { program := "ytkmjonebjobjnaa", sum := "ccec7cd93f9484465971fb18946c8436db9cca14903e80b033ddedd4f3386f24", func := "loop.example/telemetryagent/laws.FnRoomFor", spec := "fnRoomFor", apart := false }
def FnRoomForSaid : Prop := fnRoomForRow.holds Try.pinned (OpenSpec.ofChange fnRoomForSpec)

/-- ITS FALSE NEIGHBOUR: 'it returns false'. Refute it at one input. -/
def fnRoomForWrong : ChangeSpec := { name := "fnRoomFor", fn := fun _ => fun
  | [d] => { results := [.lit (.bool false)], args := [d] }
  | _ => none }
def FnRoomForWrongFalsely : Prop := fnRoomForRow.holds Try.pinned (OpenSpec.ofChange fnRoomForWrong)

/-- 'laws.FnRoomForKept': WHATEVER THE INPUT: true; the input reads as it did. -/
def fnRoomForKeptSpec : ChangeSpec := { name := "fnRoomForKept", fn := fun _ => fun
  | [d] => { results := [.lit (.bool true)], args := [d] }
  | _ => none }
def fnRoomForKeptRow : OpenClaim := { program := "ytkmjonebjobjnaa", sum := "ccec7cd93f9484465971fb18946c8436db9cca14903e80b033ddedd4f3386f24", func := "loop.example/telemetryagent/laws.FnRoomForKept", spec := "fnRoomForKept", apart := false }
def FnRoomForKeptSaid : Prop := fnRoomForKeptRow.holds Try.pinned (OpenSpec.ofChange fnRoomForKeptSpec)

/-- ITS FALSE NEIGHBOUR: 'it returns false'. Refute it at one input. -/
def fnRoomForKeptWrong : ChangeSpec := { name := "fnRoomForKept", fn := fun _ => fun
  | [d] => { results := [.lit (.bool false)], args := [d] }
  | _ => none }
def FnRoomForKeptWrongFalsely : Prop := fnRoomForKeptRow.holds Try.pinned (OpenSpec.ofChange fnRoomForKeptWrong)

/-- 'laws.FnTakeCredit': WHATEVER THE INPUT: true; the input reads as it did. -/
def fnTakeCreditSpec : ChangeSpec := { name := "fnTakeCredit", fn := fun _ => fun
  | [d] => { results := [.lit (.bool true)], args := [d] }
  | _ => none }
def fnTakeCreditRow : OpenClaim := { program := "ytkmjonebjobjnaa", sum := "ccec7cd93f9484465971fb18946c8436db9cca14903e80b033ddedd4f3386f24", func := "loop.example/telemetryagent/laws.FnTakeCredit", spec := "fnTakeCredit", apart := false }
def FnTakeCreditSaid : Prop := fnTakeCreditRow.holds Try.pinned (OpenSpec.ofChange fnTakeCreditSpec)

/-- ITS FALSE NEIGHBOUR: 'it returns false'. Refute it at one input. -/
def fnTakeCreditWrong : ChangeSpec := { name := "fnTakeCredit", fn := fun _ => fun
  | [d] => { results := [.lit (.bool false)], args := [d] }
  | _ => none }
def FnTakeCreditWrongFalsely : Prop := fnTakeCreditRow.holds Try.pinned (OpenSpec.ofChange fnTakeCreditWrong)

/-- 'laws.FnTakeCreditParts': WHATEVER THE INPUT: true; the input reads as it did. -/
def fnTakeCreditPartsSpec : ChangeSpec := { name := "fnTakeCreditParts", fn := fun _ => fun
  | [d] => { results := [.lit (.bool true)], args := [d] }
  | _ => none }
def fnTakeCreditPartsRow : OpenClaim := { program := "ytkmjonebjobjnaa", sum := "ccec7cd93f9484465971fb18946c8436db9cca14903e80b033ddedd4f3386f24", func := "loop.example/telemetryagent/laws.FnTakeCreditParts", spec := "fnTakeCreditParts", apart := false }
def FnTakeCreditPartsSaid : Prop := fnTakeCreditPartsRow.holds Try.pinned (OpenSpec.ofChange fnTakeCreditPartsSpec)

/-- ITS FALSE NEIGHBOUR: 'it returns false'. Refute it at one input. -/
def fnTakeCreditPartsWrong : ChangeSpec := { name := "fnTakeCreditParts", fn := fun _ => fun
  | [d] => { results := [.lit (.bool false)], args := [d] }
  | _ => none }
def FnTakeCreditPartsWrongFalsely : Prop := fnTakeCreditPartsRow.holds Try.pinned (OpenSpec.ofChange fnTakeCreditPartsWrong)

/-- 'laws.FnGiveCredit': WHATEVER THE INPUT: true; the input reads as it did. -/
def fnGiveCreditSpec : ChangeSpec := { name := "fnGiveCredit", fn := fun _ => fun
  | [d] => { results := [.lit (.bool true)], args := [d] }
  | _ => none }
def fnGiveCreditRow : OpenClaim := { program := "ytkmjonebjobjnaa", sum := "ccec7cd93f9484465971fb18946c8436db9cca14903e80b033ddedd4f3386f24", func := "loop.example/telemetryagent/laws.FnGiveCredit", spec := "fnGiveCredit", apart := false }
def FnGiveCreditSaid : Prop := fnGiveCreditRow.holds Try.pinned (OpenSpec.ofChange fnGiveCreditSpec)

/-- ITS FALSE NEIGHBOUR: 'it returns false'. Refute it at one input. -/
def fnGiveCreditWrong : ChangeSpec := { name := "fnGiveCredit", fn := fun _ => fun
  | [d] => { results := [.lit (.bool false)], args := [d] }
  | _ => none }
def FnGiveCreditWrongFalsely : Prop := fnGiveCreditRow.holds Try.pinned (OpenSpec.ofChange fnGiveCreditWrong)

/-- 'laws.FnUsedAll': WHATEVER THE INPUT: true; the input reads as it did. -/
def fnUsedAllSpec : ChangeSpec := { name := "fnUsedAll", fn := fun _ => fun
  | [d] => { results := [.lit (.bool true)], args := [d] }
  | _ => none }
def fnUsedAllRow : OpenClaim := { program := "ytkmjonebjobjnaa", sum := "ccec7cd93f9484465971fb18946c8436db9cca14903e80b033ddedd4f3386f24", func := "loop.example/telemetryagent/laws.FnUsedAll", spec := "fnUsedAll", apart := false }
def FnUsedAllSaid : Prop := fnUsedAllRow.holds Try.pinned (OpenSpec.ofChange fnUsedAllSpec)

/-- ITS FALSE NEIGHBOUR: 'it returns false'. Refute it at one input. -/
def fnUsedAllWrong : ChangeSpec := { name := "fnUsedAll", fn := fun _ => fun
  | [d] => { results := [.lit (.bool false)], args := [d] }
  | _ => none }
def FnUsedAllWrongFalsely : Prop := fnUsedAllRow.holds Try.pinned (OpenSpec.ofChange fnUsedAllWrong)

/-- 'laws.FnValidBudgetMore': WHATEVER THE INPUT: true; the input reads as it did. -/
def fnValidBudgetMoreSpec : ChangeSpec := { name := "fnValidBudgetMore", fn := fun _ => fun
  | [d] => { results := [.lit (.bool true)], args := [d] }
  | _ => none }
def fnValidBudgetMoreRow : OpenClaim := { program := "ytkmjonebjobjnaa", sum := "ccec7cd93f9484465971fb18946c8436db9cca14903e80b033ddedd4f3386f24", func := "loop.example/telemetryagent/laws.FnValidBudgetMore", spec := "fnValidBudgetMore", apart := false }
def FnValidBudgetMoreSaid : Prop := fnValidBudgetMoreRow.holds Try.pinned (OpenSpec.ofChange fnValidBudgetMoreSpec)

/-- ITS FALSE NEIGHBOUR: 'it returns false'. Refute it at one input. -/
def fnValidBudgetMoreWrong : ChangeSpec := { name := "fnValidBudgetMore", fn := fun _ => fun
  | [d] => { results := [.lit (.bool false)], args := [d] }
  | _ => none }
def FnValidBudgetMoreWrongFalsely : Prop := fnValidBudgetMoreRow.holds Try.pinned (OpenSpec.ofChange fnValidBudgetMoreWrong)

/-- 'laws.FnRoomForMore': WHATEVER THE INPUT: true; the input reads as it did. -/
def fnRoomForMoreSpec : ChangeSpec := { name := "fnRoomForMore", fn := fun _ => fun
  | [d] => { results := [.lit (.bool true)], args := [d] }
  | _ => none }
def fnRoomForMoreRow : OpenClaim := { program := "ytkmjonebjobjnaa", sum := "ccec7cd93f9484465971fb18946c8436db9cca14903e80b033ddedd4f3386f24", func := "loop.example/telemetryagent/laws.FnRoomForMore", spec := "fnRoomForMore", apart := false }
def FnRoomForMoreSaid : Prop := fnRoomForMoreRow.holds Try.pinned (OpenSpec.ofChange fnRoomForMoreSpec)

/-- ITS FALSE NEIGHBOUR: 'it returns false'. Refute it at one input. -/
def fnRoomForMoreWrong : ChangeSpec := { name := "fnRoomForMore", fn := fun _ => fun
  | [d] => { results := [.lit (.bool false)], args := [d] }
  | _ => none }
def FnRoomForMoreWrongFalsely : Prop := fnRoomForMoreRow.holds Try.pinned (OpenSpec.ofChange fnRoomForMoreWrong)

/-- 'laws.FnTakeCreditOrder': WHATEVER THE INPUT: true; the input reads as it did. -/
def fnTakeCreditOrderSpec : ChangeSpec := { name := "fnTakeCreditOrder", fn := fun _ => fun
  | [d] => { results := [.lit (.bool true)], args := [d] }
  | _ => none }
def fnTakeCreditOrderRow : OpenClaim := { program := "ytkmjonebjobjnaa", sum := "ccec7cd93f9484465971fb18946c8436db9cca14903e80b033ddedd4f3386f24", func := "loop.example/telemetryagent/laws.FnTakeCreditOrder", spec := "fnTakeCreditOrder", apart := false }
def FnTakeCreditOrderSaid : Prop := fnTakeCreditOrderRow.holds Try.pinned (OpenSpec.ofChange fnTakeCreditOrderSpec)

/-- ITS FALSE NEIGHBOUR: 'it returns false'. Refute it at one input. -/
def fnTakeCreditOrderWrong : ChangeSpec := { name := "fnTakeCreditOrder", fn := fun _ => fun
  | [d] => { results := [.lit (.bool false)], args := [d] }
  | _ => none }
def FnTakeCreditOrderWrongFalsely : Prop := fnTakeCreditOrderRow.holds Try.pinned (OpenSpec.ofChange fnTakeCreditOrderWrong)

/-- 'laws.FnGiveCreditAll': WHATEVER THE INPUT: true; the input reads as it did. -/
def fnGiveCreditAllSpec : ChangeSpec := { name := "fnGiveCreditAll", fn := fun _ => fun
  | [d] => { results := [.lit (.bool true)], args := [d] }
  | _ => none }
def fnGiveCreditAllRow : OpenClaim := { program := "ytkmjonebjobjnaa", sum := "ccec7cd93f9484465971fb18946c8436db9cca14903e80b033ddedd4f3386f24", func := "loop.example/telemetryagent/laws.FnGiveCreditAll", spec := "fnGiveCreditAll", apart := false }
def FnGiveCreditAllSaid : Prop := fnGiveCreditAllRow.holds Try.pinned (OpenSpec.ofChange fnGiveCreditAllSpec)

/-- ITS FALSE NEIGHBOUR: 'it returns false'. Refute it at one input. -/
def fnGiveCreditAllWrong : ChangeSpec := { name := "fnGiveCreditAll", fn := fun _ => fun
  | [d] => { results := [.lit (.bool false)], args := [d] }
  | _ => none }
def FnGiveCreditAllWrongFalsely : Prop := fnGiveCreditAllRow.holds Try.pinned (OpenSpec.ofChange fnGiveCreditAllWrong)

/- THE SECOND FORM. 'bulk': how many values and letters a reading holds, each counted each time it is reached (what is shared counts as often as it is met; a slice's spare places count too). A statement '..UptoSaid' is the law's where the arguments, and the package variables that the reading takes, are together of bulk at most 1048576: NARROWER than '..Said'. Prove '..Said' where nothing that the law and all that it calls make is longer than what came in: it says more and counts as full. Else prove '..UptoSaid'. A law counts once. -/
mutual
def uptoBulk {H : Type} : DataW H → Nat
  | .lit (.string bytes) => bytes.length + 1
  | .lit _ => 1
  | .nil => 1
  | .ptr d => uptoBulk d + 1
  | .slice elems spare => uptoBulkAll elems + uptoBulkAll spare + 1
  | .agg parts => uptoBulkAll parts + 1
  | .iface _ d => uptoBulk d + 1
  | .map entries => uptoBulkEntries entries + 1
  | .held _ => 1
def uptoBulkAll {H : Type} : List (DataW H) → Nat
  | [] => 0
  | d :: r => uptoBulk d + uptoBulkAll r
def uptoBulkEntries {H : Type} : List (Lit × DataW H) → Nat
  | [] => 0
  | x :: r => uptoBulkEntry x + uptoBulkEntries r
def uptoBulkEntry {H : Type} : Lit × DataW H → Nat
  | (.string bytes, d) => bytes.length + uptoBulk d + 1
  | (_, d) => uptoBulk d + 1
 end
def uptoSmall : (H : Type) → List (DataW H) → Bool := fun _ ds => decide (uptoBulkAll ds ≤ 1048576)
def OpenSpec.upto (s : _root_.Go.ChangeSpec) : _root_.Go.OpenSpec := { _root_.Go.OpenSpec.ofChange s with cond := some uptoSmall }

/-- 'laws.FnValidBudget', WHERE WHAT IT READS IS OF BULK AT MOST 1048576: true; the input reads as it did. -/
def fnValidBudgetUptoRow : OpenClaim := { program := "ytkmjonebjobjnaa", sum := "ccec7cd93f9484465971fb18946c8436db9cca14903e80b033ddedd4f3386f24", func := "loop.example/telemetryagent/laws.FnValidBudget", spec := "fnValidBudget", apart := false, narrowed := true }
def FnValidBudgetUptoSaid : Prop := fnValidBudgetUptoRow.holds Try.pinned (OpenSpec.upto fnValidBudgetSpec)

/-- 'laws.FnRoomFor', WHERE WHAT IT READS IS OF BULK AT MOST 1048576: true; the input reads as it did. -/
def fnRoomForUptoRow : OpenClaim := { program := "ytkmjonebjobjnaa", sum := "ccec7cd93f9484465971fb18946c8436db9cca14903e80b033ddedd4f3386f24", func := "loop.example/telemetryagent/laws.FnRoomFor", spec := "fnRoomFor", apart := false, narrowed := true }
def FnRoomForUptoSaid : Prop := fnRoomForUptoRow.holds Try.pinned (OpenSpec.upto fnRoomForSpec)

/-- 'laws.FnRoomForKept', WHERE WHAT IT READS IS OF BULK AT MOST 1048576: true; the input reads as it did. -/
def fnRoomForKeptUptoRow : OpenClaim := { program := "ytkmjonebjobjnaa", sum := "ccec7cd93f9484465971fb18946c8436db9cca14903e80b033ddedd4f3386f24", func := "loop.example/telemetryagent/laws.FnRoomForKept", spec := "fnRoomForKept", apart := false, narrowed := true }
def FnRoomForKeptUptoSaid : Prop := fnRoomForKeptUptoRow.holds Try.pinned (OpenSpec.upto fnRoomForKeptSpec)

/-- 'laws.FnTakeCredit', WHERE WHAT IT READS IS OF BULK AT MOST 1048576: true; the input reads as it did. -/
def fnTakeCreditUptoRow : OpenClaim := { program := "ytkmjonebjobjnaa", sum := "ccec7cd93f9484465971fb18946c8436db9cca14903e80b033ddedd4f3386f24", func := "loop.example/telemetryagent/laws.FnTakeCredit", spec := "fnTakeCredit", apart := false, narrowed := true }
def FnTakeCreditUptoSaid : Prop := fnTakeCreditUptoRow.holds Try.pinned (OpenSpec.upto fnTakeCreditSpec)

/-- 'laws.FnTakeCreditParts', WHERE WHAT IT READS IS OF BULK AT MOST 1048576: true; the input reads as it did. -/
def fnTakeCreditPartsUptoRow : OpenClaim := { program := "ytkmjonebjobjnaa", sum := "ccec7cd93f9484465971fb18946c8436db9cca14903e80b033ddedd4f3386f24", func := "loop.example/telemetryagent/laws.FnTakeCreditParts", spec := "fnTakeCreditParts", apart := false, narrowed := true }
def FnTakeCreditPartsUptoSaid : Prop := fnTakeCreditPartsUptoRow.holds Try.pinned (OpenSpec.upto fnTakeCreditPartsSpec)

/-- 'laws.FnGiveCredit', WHERE WHAT IT READS IS OF BULK AT MOST 1048576: true; the input reads as it did. -/
def fnGiveCreditUptoRow : OpenClaim := { program := "ytkmjonebjobjnaa", sum := "ccec7cd93f9484465971fb18946c8436db9cca14903e80b033ddedd4f3386f24", func := "loop.example/telemetryagent/laws.FnGiveCredit", spec := "fnGiveCredit", apart := false, narrowed := true }
def FnGiveCreditUptoSaid : Prop := fnGiveCreditUptoRow.holds Try.pinned (OpenSpec.upto fnGiveCreditSpec)

/-- 'laws.FnUsedAll', WHERE WHAT IT READS IS OF BULK AT MOST 1048576: true; the input reads as it did. -/
def fnUsedAllUptoRow : OpenClaim := { program := "ytkmjonebjobjnaa", sum := "ccec7cd93f9484465971fb18946c8436db9cca14903e80b033ddedd4f3386f24", func := "loop.example/telemetryagent/laws.FnUsedAll", spec := "fnUsedAll", apart := false, narrowed := true }
def FnUsedAllUptoSaid : Prop := fnUsedAllUptoRow.holds Try.pinned (OpenSpec.upto fnUsedAllSpec)

/-- 'laws.FnValidBudgetMore', WHERE WHAT IT READS IS OF BULK AT MOST 1048576: true; the input reads as it did. -/
def fnValidBudgetMoreUptoRow : OpenClaim := { program := "ytkmjonebjobjnaa", sum := "ccec7cd93f9484465971fb18946c8436db9cca14903e80b033ddedd4f3386f24", func := "loop.example/telemetryagent/laws.FnValidBudgetMore", spec := "fnValidBudgetMore", apart := false, narrowed := true }
def FnValidBudgetMoreUptoSaid : Prop := fnValidBudgetMoreUptoRow.holds Try.pinned (OpenSpec.upto fnValidBudgetMoreSpec)

/-- 'laws.FnRoomForMore', WHERE WHAT IT READS IS OF BULK AT MOST 1048576: true; the input reads as it did. -/
def fnRoomForMoreUptoRow : OpenClaim := { program := "ytkmjonebjobjnaa", sum := "ccec7cd93f9484465971fb18946c8436db9cca14903e80b033ddedd4f3386f24", func := "loop.example/telemetryagent/laws.FnRoomForMore", spec := "fnRoomForMore", apart := false, narrowed := true }
def FnRoomForMoreUptoSaid : Prop := fnRoomForMoreUptoRow.holds Try.pinned (OpenSpec.upto fnRoomForMoreSpec)

/-- 'laws.FnTakeCreditOrder', WHERE WHAT IT READS IS OF BULK AT MOST 1048576: true; the input reads as it did. -/
def fnTakeCreditOrderUptoRow : OpenClaim := { program := "ytkmjonebjobjnaa", sum := "ccec7cd93f9484465971fb18946c8436db9cca14903e80b033ddedd4f3386f24", func := "loop.example/telemetryagent/laws.FnTakeCreditOrder", spec := "fnTakeCreditOrder", apart := false, narrowed := true }
def FnTakeCreditOrderUptoSaid : Prop := fnTakeCreditOrderUptoRow.holds Try.pinned (OpenSpec.upto fnTakeCreditOrderSpec)

/-- 'laws.FnGiveCreditAll', WHERE WHAT IT READS IS OF BULK AT MOST 1048576: true; the input reads as it did. -/
def fnGiveCreditAllUptoRow : OpenClaim := { program := "ytkmjonebjobjnaa", sum := "ccec7cd93f9484465971fb18946c8436db9cca14903e80b033ddedd4f3386f24", func := "loop.example/telemetryagent/laws.FnGiveCreditAll", spec := "fnGiveCreditAll", apart := false, narrowed := true }
def FnGiveCreditAllUptoSaid : Prop := fnGiveCreditAllUptoRow.holds Try.pinned (OpenSpec.upto fnGiveCreditAllSpec)

end Rows
end Go.Proofs.Ytkmjonebjobjnaa
