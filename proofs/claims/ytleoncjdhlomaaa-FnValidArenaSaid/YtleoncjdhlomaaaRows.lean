/-
  No cell of these rows narrows 'for every input' (looked for: loops, veiled, ifaces, maps, wideKeys, modest, calm, conditions, laid).
  DERIVED. THE GIVEN ROWS OF THIS SEAT. 11 by the template 'for every input the law returns true; each argument reads behind the call as it read before'; 0 by the template 'total and deterministic' (their statements: YtleoncjdhlomaaaTotals.lean).
  GIVEN WITH THE SEED: the statements are not yours to turn. If you find one false, say at which input.
  Laid BY PROGRAM, IN A SANDBOX (cutbox-rows.mjs): the forced cells as the released guide's own fill.sh prints them over the translation d042a1ef7c296303… (all of the seat's roots in one cut). By AI agents, Wed Nov 11 2026. No macro, syntax, notation, axiom, sorry.
-/
import Derived.Test.YtleoncjdhlomaaaChecked
import GoSem.Claim
import GoSem.ClaimJoined
import GoSem.ClaimMapViews
import Derived.JoinedTies
import Derived.KernelRfl
namespace Go.Proofs.Ytleoncjdhlomaaa
/- THE CELL 'sum', in the pinned program and in every row, IS THE sha256 OF THE DUMP (.gsa) THAT YtleoncjdhlomaaaProg.lean LOADS. Nothing in Lean hashes anything: it is a label: what it is worth is what the hold of that sum in a sandbox is worth. -/
noncomputable def Try.pinned : Pinned := { name := "ytleoncjdhlomaaa", sum := "d042a1ef7c296303ad6effd0247f692c2f8db78ba088ce33c61eeaa030f9b42c", checked := Try.checked }
namespace Rows
def none {H : Type} : Left H := { results := [], args := [] }

/-- 'laws.FnValidArena': WHATEVER THE INPUT: true; the input reads as it did. -/
def fnValidArenaSpec : ChangeSpec := { name := "fnValidArena", fn := fun _ => fun
  | [d] => { results := [.lit (.bool true)], args := [d] }
  | _ => none }
def fnValidArenaRow : OpenClaim := { program := "ytleoncjdhlomaaa", sum := "d042a1ef7c296303ad6effd0247f692c2f8db78ba088ce33c61eeaa030f9b42c", func := "loop.example/telemetryagent/laws.FnValidArena", spec := "fnValidArena", apart := false }
def FnValidArenaSaid : Prop := fnValidArenaRow.holds Try.pinned (OpenSpec.ofChange fnValidArenaSpec)

/-- ITS FALSE NEIGHBOUR: 'it returns false'. Refute it at one input. -/
def fnValidArenaWrong : ChangeSpec := { name := "fnValidArena", fn := fun _ => fun
  | [d] => { results := [.lit (.bool false)], args := [d] }
  | _ => none }
def FnValidArenaWrongFalsely : Prop := fnValidArenaRow.holds Try.pinned (OpenSpec.ofChange fnValidArenaWrong)

/-- 'laws.FnAllocBlock': WHATEVER THE INPUT: true; the input reads as it did. -/
def fnAllocBlockSpec : ChangeSpec := { name := "fnAllocBlock", fn := fun _ => fun
  | [d] => { results := [.lit (.bool true)], args := [d] }
  | _ => none }
def fnAllocBlockRow : OpenClaim := { program := "ytleoncjdhlomaaa", sum := "d042a1ef7c296303ad6effd0247f692c2f8db78ba088ce33c61eeaa030f9b42c", func := "loop.example/telemetryagent/laws.FnAllocBlock", spec := "fnAllocBlock", apart := false }
def FnAllocBlockSaid : Prop := fnAllocBlockRow.holds Try.pinned (OpenSpec.ofChange fnAllocBlockSpec)

/-- ITS FALSE NEIGHBOUR: 'it returns false'. Refute it at one input. -/
def fnAllocBlockWrong : ChangeSpec := { name := "fnAllocBlock", fn := fun _ => fun
  | [d] => { results := [.lit (.bool false)], args := [d] }
  | _ => none }
def FnAllocBlockWrongFalsely : Prop := fnAllocBlockRow.holds Try.pinned (OpenSpec.ofChange fnAllocBlockWrong)

/-- 'laws.FnAllocBlockGap': WHATEVER THE INPUT: true; the input reads as it did. -/
def fnAllocBlockGapSpec : ChangeSpec := { name := "fnAllocBlockGap", fn := fun _ => fun
  | [d] => { results := [.lit (.bool true)], args := [d] }
  | _ => none }
def fnAllocBlockGapRow : OpenClaim := { program := "ytleoncjdhlomaaa", sum := "d042a1ef7c296303ad6effd0247f692c2f8db78ba088ce33c61eeaa030f9b42c", func := "loop.example/telemetryagent/laws.FnAllocBlockGap", spec := "fnAllocBlockGap", apart := false }
def FnAllocBlockGapSaid : Prop := fnAllocBlockGapRow.holds Try.pinned (OpenSpec.ofChange fnAllocBlockGapSpec)

/-- ITS FALSE NEIGHBOUR: 'it returns false'. Refute it at one input. -/
def fnAllocBlockGapWrong : ChangeSpec := { name := "fnAllocBlockGap", fn := fun _ => fun
  | [d] => { results := [.lit (.bool false)], args := [d] }
  | _ => none }
def FnAllocBlockGapWrongFalsely : Prop := fnAllocBlockGapRow.holds Try.pinned (OpenSpec.ofChange fnAllocBlockGapWrong)

/-- 'laws.FnFreeBlock': WHATEVER THE INPUT: true; the input reads as it did. -/
def fnFreeBlockSpec : ChangeSpec := { name := "fnFreeBlock", fn := fun _ => fun
  | [d] => { results := [.lit (.bool true)], args := [d] }
  | _ => none }
def fnFreeBlockRow : OpenClaim := { program := "ytleoncjdhlomaaa", sum := "d042a1ef7c296303ad6effd0247f692c2f8db78ba088ce33c61eeaa030f9b42c", func := "loop.example/telemetryagent/laws.FnFreeBlock", spec := "fnFreeBlock", apart := false }
def FnFreeBlockSaid : Prop := fnFreeBlockRow.holds Try.pinned (OpenSpec.ofChange fnFreeBlockSpec)

/-- ITS FALSE NEIGHBOUR: 'it returns false'. Refute it at one input. -/
def fnFreeBlockWrong : ChangeSpec := { name := "fnFreeBlock", fn := fun _ => fun
  | [d] => { results := [.lit (.bool false)], args := [d] }
  | _ => none }
def FnFreeBlockWrongFalsely : Prop := fnFreeBlockRow.holds Try.pinned (OpenSpec.ofChange fnFreeBlockWrong)

/-- 'laws.FnCompactArena': WHATEVER THE INPUT: true; the input reads as it did. -/
def fnCompactArenaSpec : ChangeSpec := { name := "fnCompactArena", fn := fun _ => fun
  | [d] => { results := [.lit (.bool true)], args := [d] }
  | _ => none }
def fnCompactArenaRow : OpenClaim := { program := "ytleoncjdhlomaaa", sum := "d042a1ef7c296303ad6effd0247f692c2f8db78ba088ce33c61eeaa030f9b42c", func := "loop.example/telemetryagent/laws.FnCompactArena", spec := "fnCompactArena", apart := false }
def FnCompactArenaSaid : Prop := fnCompactArenaRow.holds Try.pinned (OpenSpec.ofChange fnCompactArenaSpec)

/-- ITS FALSE NEIGHBOUR: 'it returns false'. Refute it at one input. -/
def fnCompactArenaWrong : ChangeSpec := { name := "fnCompactArena", fn := fun _ => fun
  | [d] => { results := [.lit (.bool false)], args := [d] }
  | _ => none }
def FnCompactArenaWrongFalsely : Prop := fnCompactArenaRow.holds Try.pinned (OpenSpec.ofChange fnCompactArenaWrong)

/-- 'laws.FnCompactArenaTwice': WHATEVER THE INPUT: true; the input reads as it did. -/
def fnCompactArenaTwiceSpec : ChangeSpec := { name := "fnCompactArenaTwice", fn := fun _ => fun
  | [d] => { results := [.lit (.bool true)], args := [d] }
  | _ => none }
def fnCompactArenaTwiceRow : OpenClaim := { program := "ytleoncjdhlomaaa", sum := "d042a1ef7c296303ad6effd0247f692c2f8db78ba088ce33c61eeaa030f9b42c", func := "loop.example/telemetryagent/laws.FnCompactArenaTwice", spec := "fnCompactArenaTwice", apart := false }
def FnCompactArenaTwiceSaid : Prop := fnCompactArenaTwiceRow.holds Try.pinned (OpenSpec.ofChange fnCompactArenaTwiceSpec)

/-- ITS FALSE NEIGHBOUR: 'it returns false'. Refute it at one input. -/
def fnCompactArenaTwiceWrong : ChangeSpec := { name := "fnCompactArenaTwice", fn := fun _ => fun
  | [d] => { results := [.lit (.bool false)], args := [d] }
  | _ => none }
def FnCompactArenaTwiceWrongFalsely : Prop := fnCompactArenaTwiceRow.holds Try.pinned (OpenSpec.ofChange fnCompactArenaTwiceWrong)

/-- 'laws.FnValidArenaSize': WHATEVER THE INPUT: true; the input reads as it did. -/
def fnValidArenaSizeSpec : ChangeSpec := { name := "fnValidArenaSize", fn := fun _ => fun
  | [d] => { results := [.lit (.bool true)], args := [d] }
  | _ => none }
def fnValidArenaSizeRow : OpenClaim := { program := "ytleoncjdhlomaaa", sum := "d042a1ef7c296303ad6effd0247f692c2f8db78ba088ce33c61eeaa030f9b42c", func := "loop.example/telemetryagent/laws.FnValidArenaSize", spec := "fnValidArenaSize", apart := false }
def FnValidArenaSizeSaid : Prop := fnValidArenaSizeRow.holds Try.pinned (OpenSpec.ofChange fnValidArenaSizeSpec)

/-- ITS FALSE NEIGHBOUR: 'it returns false'. Refute it at one input. -/
def fnValidArenaSizeWrong : ChangeSpec := { name := "fnValidArenaSize", fn := fun _ => fun
  | [d] => { results := [.lit (.bool false)], args := [d] }
  | _ => none }
def FnValidArenaSizeWrongFalsely : Prop := fnValidArenaSizeRow.holds Try.pinned (OpenSpec.ofChange fnValidArenaSizeWrong)

/-- 'laws.FnAllocBlockCompact': WHATEVER THE INPUT: true; the input reads as it did. -/
def fnAllocBlockCompactSpec : ChangeSpec := { name := "fnAllocBlockCompact", fn := fun _ => fun
  | [d] => { results := [.lit (.bool true)], args := [d] }
  | _ => none }
def fnAllocBlockCompactRow : OpenClaim := { program := "ytleoncjdhlomaaa", sum := "d042a1ef7c296303ad6effd0247f692c2f8db78ba088ce33c61eeaa030f9b42c", func := "loop.example/telemetryagent/laws.FnAllocBlockCompact", spec := "fnAllocBlockCompact", apart := false }
def FnAllocBlockCompactSaid : Prop := fnAllocBlockCompactRow.holds Try.pinned (OpenSpec.ofChange fnAllocBlockCompactSpec)

/-- ITS FALSE NEIGHBOUR: 'it returns false'. Refute it at one input. -/
def fnAllocBlockCompactWrong : ChangeSpec := { name := "fnAllocBlockCompact", fn := fun _ => fun
  | [d] => { results := [.lit (.bool false)], args := [d] }
  | _ => none }
def FnAllocBlockCompactWrongFalsely : Prop := fnAllocBlockCompactRow.holds Try.pinned (OpenSpec.ofChange fnAllocBlockCompactWrong)

/-- 'laws.FnFreeBlockOrder': WHATEVER THE INPUT: true; the input reads as it did. -/
def fnFreeBlockOrderSpec : ChangeSpec := { name := "fnFreeBlockOrder", fn := fun _ => fun
  | [d] => { results := [.lit (.bool true)], args := [d] }
  | _ => none }
def fnFreeBlockOrderRow : OpenClaim := { program := "ytleoncjdhlomaaa", sum := "d042a1ef7c296303ad6effd0247f692c2f8db78ba088ce33c61eeaa030f9b42c", func := "loop.example/telemetryagent/laws.FnFreeBlockOrder", spec := "fnFreeBlockOrder", apart := false }
def FnFreeBlockOrderSaid : Prop := fnFreeBlockOrderRow.holds Try.pinned (OpenSpec.ofChange fnFreeBlockOrderSpec)

/-- ITS FALSE NEIGHBOUR: 'it returns false'. Refute it at one input. -/
def fnFreeBlockOrderWrong : ChangeSpec := { name := "fnFreeBlockOrder", fn := fun _ => fun
  | [d] => { results := [.lit (.bool false)], args := [d] }
  | _ => none }
def FnFreeBlockOrderWrongFalsely : Prop := fnFreeBlockOrderRow.holds Try.pinned (OpenSpec.ofChange fnFreeBlockOrderWrong)

/-- 'laws.FnUsedPlacesFree': WHATEVER THE INPUT: true; the input reads as it did. -/
def fnUsedPlacesFreeSpec : ChangeSpec := { name := "fnUsedPlacesFree", fn := fun _ => fun
  | [d] => { results := [.lit (.bool true)], args := [d] }
  | _ => none }
def fnUsedPlacesFreeRow : OpenClaim := { program := "ytleoncjdhlomaaa", sum := "d042a1ef7c296303ad6effd0247f692c2f8db78ba088ce33c61eeaa030f9b42c", func := "loop.example/telemetryagent/laws.FnUsedPlacesFree", spec := "fnUsedPlacesFree", apart := false }
def FnUsedPlacesFreeSaid : Prop := fnUsedPlacesFreeRow.holds Try.pinned (OpenSpec.ofChange fnUsedPlacesFreeSpec)

/-- ITS FALSE NEIGHBOUR: 'it returns false'. Refute it at one input. -/
def fnUsedPlacesFreeWrong : ChangeSpec := { name := "fnUsedPlacesFree", fn := fun _ => fun
  | [d] => { results := [.lit (.bool false)], args := [d] }
  | _ => none }
def FnUsedPlacesFreeWrongFalsely : Prop := fnUsedPlacesFreeRow.holds Try.pinned (OpenSpec.ofChange fnUsedPlacesFreeWrong)

/-- 'laws.FnExactAllocBlock': WHATEVER THE INPUT: true; the input reads as it did. -/
def fnExactAllocBlockSpec : ChangeSpec := { name := "fnExactAllocBlock", fn := fun _ => fun
  | [d1, d2, d3] => { results := [.lit (.bool true)], args := [d1, d2, d3] }
  | _ => none }
def fnExactAllocBlockRow : OpenClaim := { program := "ytleoncjdhlomaaa", sum := "d042a1ef7c296303ad6effd0247f692c2f8db78ba088ce33c61eeaa030f9b42c", func := "loop.example/telemetryagent/laws.FnExactAllocBlock", spec := "fnExactAllocBlock", apart := false }
def FnExactAllocBlockSaid : Prop := fnExactAllocBlockRow.holds Try.pinned (OpenSpec.ofChange fnExactAllocBlockSpec)

/-- ITS FALSE NEIGHBOUR: 'it returns false'. Refute it at one input. -/
def fnExactAllocBlockWrong : ChangeSpec := { name := "fnExactAllocBlock", fn := fun _ => fun
  | [d1, d2, d3] => { results := [.lit (.bool false)], args := [d1, d2, d3] }
  | _ => none }
def FnExactAllocBlockWrongFalsely : Prop := fnExactAllocBlockRow.holds Try.pinned (OpenSpec.ofChange fnExactAllocBlockWrong)

/- THE SECOND FORM. 'bulk': how many values and letters a reading holds, each counted each time it is reached (what is shared counts as often as it is met; a slice's spare places count too). A statement '..UptoSaid' is the law's where the arguments, and the package variables that the reading takes, are together of bulk at most 1048576: NARROWER than '..Said'. Prove '..Said' where nothing that the law and all that it calls make is longer than what came in: it says more and counts as full. Else prove '..UptoSaid'. A law counts once. -/
mutual
def uptoBulk {H : Type} : DataW H → Nat
  | .lit (.string bytes) => bytes.length + 1
  | .lit _ => 1
  | .nil => 1
  | .ptr d => uptoBulk d + 1
  | .slice elems spare => uptoBulkAll elems + uptoBulkAll spare + 1
  | .agg parts => uptoBulkAll parts + 1
  | .iface _ d => uptoBulk d + 1
  | .map entries => uptoBulkEntries entries + 1
  | .held _ => 1
def uptoBulkAll {H : Type} : List (DataW H) → Nat
  | [] => 0
  | d :: r => uptoBulk d + uptoBulkAll r
def uptoBulkEntries {H : Type} : List (Lit × DataW H) → Nat
  | [] => 0
  | x :: r => uptoBulkEntry x + uptoBulkEntries r
def uptoBulkEntry {H : Type} : Lit × DataW H → Nat
  | (.string bytes, d) => bytes.length + uptoBulk d + 1
  | (_, d) => uptoBulk d + 1
 end
def uptoSmall : (H : Type) → List (DataW H) → Bool := fun _ ds => decide (uptoBulkAll ds ≤ 1048576)
def OpenSpec.upto (s : _root_.Go.ChangeSpec) : _root_.Go.OpenSpec := { _root_.Go.OpenSpec.ofChange s with cond := some uptoSmall }

/-- 'laws.FnValidArena', WHERE WHAT IT READS IS OF BULK AT MOST 1048576: true; the input reads as it did. -/
def fnValidArenaUptoRow : OpenClaim := { program := "ytleoncjdhlomaaa", sum := "d042a1ef7c296303ad6effd0247f692c2f8db78ba088ce33c61eeaa030f9b42c", func := "loop.example/telemetryagent/laws.FnValidArena", spec := "fnValidArena", apart := false, narrowed := true }
def FnValidArenaUptoSaid : Prop := fnValidArenaUptoRow.holds Try.pinned (OpenSpec.upto fnValidArenaSpec)

/-- 'laws.FnAllocBlock', WHERE WHAT IT READS IS OF BULK AT MOST 1048576: true; the input reads as it did. -/
def fnAllocBlockUptoRow : OpenClaim := { program := "ytleoncjdhlomaaa", sum := "d042a1ef7c296303ad6effd0247f692c2f8db78ba088ce33c61eeaa030f9b42c", func := "loop.example/telemetryagent/laws.FnAllocBlock", spec := "fnAllocBlock", apart := false, narrowed := true }
def FnAllocBlockUptoSaid : Prop := fnAllocBlockUptoRow.holds Try.pinned (OpenSpec.upto fnAllocBlockSpec)

/-- 'laws.FnAllocBlockGap', WHERE WHAT IT READS IS OF BULK AT MOST 1048576: true; the input reads as it did. -/
def fnAllocBlockGapUptoRow : OpenClaim := { program := "ytleoncjdhlomaaa", sum := "d042a1ef7c296303ad6effd0247f692c2f8db78ba088ce33c61eeaa030f9b42c", func := "loop.example/telemetryagent/laws.FnAllocBlockGap", spec := "fnAllocBlockGap", apart := false, narrowed := true }
def FnAllocBlockGapUptoSaid : Prop := fnAllocBlockGapUptoRow.holds Try.pinned (OpenSpec.upto fnAllocBlockGapSpec)

/-- 'laws.FnFreeBlock', WHERE WHAT IT READS IS OF BULK AT MOST 1048576: true; the input reads as it did. -/
def fnFreeBlockUptoRow : OpenClaim := { program := "ytleoncjdhlomaaa", sum := "d042a1ef7c296303ad6effd0247f692c2f8db78ba088ce33c61eeaa030f9b42c", func := "loop.example/telemetryagent/laws.FnFreeBlock", spec := "fnFreeBlock", apart := false, narrowed := true }
def FnFreeBlockUptoSaid : Prop := fnFreeBlockUptoRow.holds Try.pinned (OpenSpec.upto fnFreeBlockSpec)

/-- 'laws.FnCompactArena', WHERE WHAT IT READS IS OF BULK AT MOST 1048576: true; the input reads as it did. -/
def fnCompactArenaUptoRow : OpenClaim := { program := "ytleoncjdhlomaaa", sum := "d042a1ef7c296303ad6effd0247f692c2f8db78ba088ce33c61eeaa030f9b42c", func := "loop.example/telemetryagent/laws.FnCompactArena", spec := "fnCompactArena", apart := false, narrowed := true }
def FnCompactArenaUptoSaid : Prop := fnCompactArenaUptoRow.holds Try.pinned (OpenSpec.upto fnCompactArenaSpec)

/-- 'laws.FnCompactArenaTwice', WHERE WHAT IT READS IS OF BULK AT MOST 1048576: true; the input reads as it did. -/
def fnCompactArenaTwiceUptoRow : OpenClaim := { program := "ytleoncjdhlomaaa", sum := "d042a1ef7c296303ad6effd0247f692c2f8db78ba088ce33c61eeaa030f9b42c", func := "loop.example/telemetryagent/laws.FnCompactArenaTwice", spec := "fnCompactArenaTwice", apart := false, narrowed := true }
def FnCompactArenaTwiceUptoSaid : Prop := fnCompactArenaTwiceUptoRow.holds Try.pinned (OpenSpec.upto fnCompactArenaTwiceSpec)

/-- 'laws.FnValidArenaSize', WHERE WHAT IT READS IS OF BULK AT MOST 1048576: true; the input reads as it did. -/
def fnValidArenaSizeUptoRow : OpenClaim := { program := "ytleoncjdhlomaaa", sum := "d042a1ef7c296303ad6effd0247f692c2f8db78ba088ce33c61eeaa030f9b42c", func := "loop.example/telemetryagent/laws.FnValidArenaSize", spec := "fnValidArenaSize", apart := false, narrowed := true }
def FnValidArenaSizeUptoSaid : Prop := fnValidArenaSizeUptoRow.holds Try.pinned (OpenSpec.upto fnValidArenaSizeSpec)

/-- 'laws.FnAllocBlockCompact', WHERE WHAT IT READS IS OF BULK AT MOST 1048576: true; the input reads as it did. -/
def fnAllocBlockCompactUptoRow : OpenClaim := { program := "ytleoncjdhlomaaa", sum := "d042a1ef7c296303ad6effd0247f692c2f8db78ba088ce33c61eeaa030f9b42c", func := "loop.example/telemetryagent/laws.FnAllocBlockCompact", spec := "fnAllocBlockCompact", apart := false, narrowed := true }
def FnAllocBlockCompactUptoSaid : Prop := fnAllocBlockCompactUptoRow.holds Try.pinned (OpenSpec.upto fnAllocBlockCompactSpec)

/-- 'laws.FnFreeBlockOrder', WHERE WHAT IT READS IS OF BULK AT MOST 1048576: true; the input reads as it did. -/
def fnFreeBlockOrderUptoRow : OpenClaim := { program := "ytleoncjdhlomaaa", sum := "d042a1ef7c296303ad6effd0247f692c2f8db78ba088ce33c61eeaa030f9b42c", func := "loop.example/telemetryagent/laws.FnFreeBlockOrder", spec := "fnFreeBlockOrder", apart := false, narrowed := true }
def FnFreeBlockOrderUptoSaid : Prop := fnFreeBlockOrderUptoRow.holds Try.pinned (OpenSpec.upto fnFreeBlockOrderSpec)

/-- 'laws.FnUsedPlacesFree', WHERE WHAT IT READS IS OF BULK AT MOST 1048576: true; the input reads as it did. -/
def fnUsedPlacesFreeUptoRow : OpenClaim := { program := "ytleoncjdhlomaaa", sum := "d042a1ef7c296303ad6effd0247f692c2f8db78ba088ce33c61eeaa030f9b42c", func := "loop.example/telemetryagent/laws.FnUsedPlacesFree", spec := "fnUsedPlacesFree", apart := false, narrowed := true }
def FnUsedPlacesFreeUptoSaid : Prop := fnUsedPlacesFreeUptoRow.holds Try.pinned (OpenSpec.upto fnUsedPlacesFreeSpec)

/-- 'laws.FnExactAllocBlock', WHERE WHAT IT READS IS OF BULK AT MOST 1048576: true; the input reads as it did. -/
def fnExactAllocBlockUptoRow : OpenClaim := { program := "ytleoncjdhlomaaa", sum := "d042a1ef7c296303ad6effd0247f692c2f8db78ba088ce33c61eeaa030f9b42c", func := "loop.example/telemetryagent/laws.FnExactAllocBlock", spec := "fnExactAllocBlock", apart := false, narrowed := true }
def FnExactAllocBlockUptoSaid : Prop := fnExactAllocBlockUptoRow.holds Try.pinned (OpenSpec.upto fnExactAllocBlockSpec)

end Rows
end Go.Proofs.Ytleoncjdhlomaaa
