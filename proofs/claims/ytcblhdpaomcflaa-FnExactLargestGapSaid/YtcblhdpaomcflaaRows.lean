/-
  No cell of these rows narrows 'for every input' (looked for: loops, veiled, ifaces, maps, wideKeys, modest, calm, conditions, laid).
  DERIVED. THE GIVEN ROWS OF THIS SEAT. 6 by the template 'for every input the law returns true; each argument reads behind the call as it read before'; 0 by the template 'total and deterministic' (their statements: YtcblhdpaomcflaaTotals.lean).
  GIVEN WITH THE SEED: the statements are not yours to turn. If you find one false, say at which input.
  Laid BY PROGRAM, IN A SANDBOX (cutbox-rows.mjs): the forced cells as the released guide's own fill.sh prints them over the translation c92d7d5a06c88f5d… (all of the seat's roots in one cut). By AI agents, Wed Nov 11 2026. No macro, syntax, notation, axiom, sorry.
-/
import Derived.Test.YtcblhdpaomcflaaChecked
import GoSem.Claim
import GoSem.ClaimJoined
import GoSem.ClaimMapViews
import Derived.JoinedTies
import Derived.KernelRfl
namespace Go.Proofs.Ytcblhdpaomcflaa
/- THE CELL 'sum', in the pinned program and in every row, IS THE sha256 OF THE DUMP (.gsa) THAT YtcblhdpaomcflaaProg.lean LOADS. Nothing in Lean hashes anything: it is a label: what it is worth is what the hold of that sum in a sandbox is worth. -/
noncomputable def Try.pinned : Pinned := { name := "ytcblhdpaomcflaa", sum := "c92d7d5a06c88f5d9e3df38ef888e3e2da773d50d6626badc1618786286c2f37", checked := Try.checked }
namespace Rows
def none {H : Type} : Left H := { results := [], args := [] }

/-- 'laws.FnExactValidArena': WHATEVER THE INPUT: true; the input reads as it did. -/
def fnExactValidArenaSpec : ChangeSpec := { name := "fnExactValidArena", fn := fun _ => fun
  | [d] => { results := [.lit (.bool true)], args := [d] }
  | _ => none }
def fnExactValidArenaRow : OpenClaim := { program := "ytcblhdpaomcflaa", sum := "c92d7d5a06c88f5d9e3df38ef888e3e2da773d50d6626badc1618786286c2f37", func := "loop.example/telemetryagent/laws.FnExactValidArena", spec := "fnExactValidArena", apart := false }
def FnExactValidArenaSaid : Prop := fnExactValidArenaRow.holds Try.pinned (OpenSpec.ofChange fnExactValidArenaSpec)

/-- ITS FALSE NEIGHBOUR: 'it returns false'. Refute it at one input. -/
def fnExactValidArenaWrong : ChangeSpec := { name := "fnExactValidArena", fn := fun _ => fun
  | [d] => { results := [.lit (.bool false)], args := [d] }
  | _ => none }
def FnExactValidArenaWrongFalsely : Prop := fnExactValidArenaRow.holds Try.pinned (OpenSpec.ofChange fnExactValidArenaWrong)

/-- 'laws.FnExactAllocBlock': WHATEVER THE INPUT: true; the input reads as it did. -/
def fnExactAllocBlockSpec : ChangeSpec := { name := "fnExactAllocBlock", fn := fun _ => fun
  | [d1, d2, d3] => { results := [.lit (.bool true)], args := [d1, d2, d3] }
  | _ => none }
def fnExactAllocBlockRow : OpenClaim := { program := "ytcblhdpaomcflaa", sum := "c92d7d5a06c88f5d9e3df38ef888e3e2da773d50d6626badc1618786286c2f37", func := "loop.example/telemetryagent/laws.FnExactAllocBlock", spec := "fnExactAllocBlock", apart := false }
def FnExactAllocBlockSaid : Prop := fnExactAllocBlockRow.holds Try.pinned (OpenSpec.ofChange fnExactAllocBlockSpec)

/-- ITS FALSE NEIGHBOUR: 'it returns false'. Refute it at one input. -/
def fnExactAllocBlockWrong : ChangeSpec := { name := "fnExactAllocBlock", fn := fun _ => fun
  | [d1, d2, d3] => { results := [.lit (.bool false)], args := [d1, d2, d3] }
  | _ => none }
def FnExactAllocBlockWrongFalsely : Prop := fnExactAllocBlockRow.holds Try.pinned (OpenSpec.ofChange fnExactAllocBlockWrong)

/-- 'laws.FnExactFreeBlock': WHATEVER THE INPUT: true; the input reads as it did. -/
def fnExactFreeBlockSpec : ChangeSpec := { name := "fnExactFreeBlock", fn := fun _ => fun
  | [d1, d2] => { results := [.lit (.bool true)], args := [d1, d2] }
  | _ => none }
def fnExactFreeBlockRow : OpenClaim := { program := "ytcblhdpaomcflaa", sum := "c92d7d5a06c88f5d9e3df38ef888e3e2da773d50d6626badc1618786286c2f37", func := "loop.example/telemetryagent/laws.FnExactFreeBlock", spec := "fnExactFreeBlock", apart := false }
def FnExactFreeBlockSaid : Prop := fnExactFreeBlockRow.holds Try.pinned (OpenSpec.ofChange fnExactFreeBlockSpec)

/-- ITS FALSE NEIGHBOUR: 'it returns false'. Refute it at one input. -/
def fnExactFreeBlockWrong : ChangeSpec := { name := "fnExactFreeBlock", fn := fun _ => fun
  | [d1, d2] => { results := [.lit (.bool false)], args := [d1, d2] }
  | _ => none }
def FnExactFreeBlockWrongFalsely : Prop := fnExactFreeBlockRow.holds Try.pinned (OpenSpec.ofChange fnExactFreeBlockWrong)

/-- 'laws.FnExactUsedPlaces': WHATEVER THE INPUT: true; the input reads as it did. -/
def fnExactUsedPlacesSpec : ChangeSpec := { name := "fnExactUsedPlaces", fn := fun _ => fun
  | [d] => { results := [.lit (.bool true)], args := [d] }
  | _ => none }
def fnExactUsedPlacesRow : OpenClaim := { program := "ytcblhdpaomcflaa", sum := "c92d7d5a06c88f5d9e3df38ef888e3e2da773d50d6626badc1618786286c2f37", func := "loop.example/telemetryagent/laws.FnExactUsedPlaces", spec := "fnExactUsedPlaces", apart := false }
def FnExactUsedPlacesSaid : Prop := fnExactUsedPlacesRow.holds Try.pinned (OpenSpec.ofChange fnExactUsedPlacesSpec)

/-- ITS FALSE NEIGHBOUR: 'it returns false'. Refute it at one input. -/
def fnExactUsedPlacesWrong : ChangeSpec := { name := "fnExactUsedPlaces", fn := fun _ => fun
  | [d] => { results := [.lit (.bool false)], args := [d] }
  | _ => none }
def FnExactUsedPlacesWrongFalsely : Prop := fnExactUsedPlacesRow.holds Try.pinned (OpenSpec.ofChange fnExactUsedPlacesWrong)

/-- 'laws.FnExactLargestGap': WHATEVER THE INPUT: true; the input reads as it did. -/
def fnExactLargestGapSpec : ChangeSpec := { name := "fnExactLargestGap", fn := fun _ => fun
  | [d] => { results := [.lit (.bool true)], args := [d] }
  | _ => none }
def fnExactLargestGapRow : OpenClaim := { program := "ytcblhdpaomcflaa", sum := "c92d7d5a06c88f5d9e3df38ef888e3e2da773d50d6626badc1618786286c2f37", func := "loop.example/telemetryagent/laws.FnExactLargestGap", spec := "fnExactLargestGap", apart := false }
def FnExactLargestGapSaid : Prop := fnExactLargestGapRow.holds Try.pinned (OpenSpec.ofChange fnExactLargestGapSpec)

/-- ITS FALSE NEIGHBOUR: 'it returns false'. Refute it at one input. -/
def fnExactLargestGapWrong : ChangeSpec := { name := "fnExactLargestGap", fn := fun _ => fun
  | [d] => { results := [.lit (.bool false)], args := [d] }
  | _ => none }
def FnExactLargestGapWrongFalsely : Prop := fnExactLargestGapRow.holds Try.pinned (OpenSpec.ofChange fnExactLargestGapWrong)

/-- 'laws.FnExactCompactArena': WHATEVER THE INPUT: true; the input reads as it did. -/
def fnExactCompactArenaSpec : ChangeSpec := { name := "fnExactCompactArena", fn := fun _ => fun
  | [d] => { results := [.lit (.bool true)], args := [d] }
  | _ => none }
def fnExactCompactArenaRow : OpenClaim := { program := "ytcblhdpaomcflaa", sum := "c92d7d5a06c88f5d9e3df38ef888e3e2da773d50d6626badc1618786286c2f37", func := "loop.example/telemetryagent/laws.FnExactCompactArena", spec := "fnExactCompactArena", apart := false }
def FnExactCompactArenaSaid : Prop := fnExactCompactArenaRow.holds Try.pinned (OpenSpec.ofChange fnExactCompactArenaSpec)

/-- ITS FALSE NEIGHBOUR: 'it returns false'. Refute it at one input. -/
def fnExactCompactArenaWrong : ChangeSpec := { name := "fnExactCompactArena", fn := fun _ => fun
  | [d] => { results := [.lit (.bool false)], args := [d] }
  | _ => none }
def FnExactCompactArenaWrongFalsely : Prop := fnExactCompactArenaRow.holds Try.pinned (OpenSpec.ofChange fnExactCompactArenaWrong)

/- THE SECOND FORM. 'bulk': how many values and letters a reading holds, each counted each time it is reached (what is shared counts as often as it is met; a slice's spare places count too). A statement '..UptoSaid' is the law's where the arguments, and the package variables that the reading takes, are together of bulk at most 1048576: NARROWER than '..Said'. Prove '..Said' where nothing that the law and all that it calls make is longer than what came in: it says more and counts as full. Else prove '..UptoSaid'. A law counts once. -/
mutual
def uptoBulk {H : Type} : DataW H → Nat
  | .lit (.string bytes) => bytes.length + 1
  | .lit _ => 1
  | .nil => 1
  | .ptr d => uptoBulk d + 1
  | .slice elems spare => uptoBulkAll elems + uptoBulkAll spare + 1
  | .agg parts => uptoBulkAll parts + 1
  | .iface _ d => uptoBulk d + 1
  | .map entries => uptoBulkEntries entries + 1
  | .held _ => 1
def uptoBulkAll {H : Type} : List (DataW H) → Nat
  | [] => 0
  | d :: r => uptoBulk d + uptoBulkAll r
def uptoBulkEntries {H : Type} : List (Lit × DataW H) → Nat
  | [] => 0
  | x :: r => uptoBulkEntry x + uptoBulkEntries r
def uptoBulkEntry {H : Type} : Lit × DataW H → Nat
  | (.string bytes, d) => bytes.length + uptoBulk d + 1
  | (_, d) => uptoBulk d + 1
 end
def uptoSmall : (H : Type) → List (DataW H) → Bool := fun _ ds => decide (uptoBulkAll ds ≤ 1048576)
def OpenSpec.upto (s : _root_.Go.ChangeSpec) : _root_.Go.OpenSpec := { _root_.Go.OpenSpec.ofChange s with cond := some uptoSmall }

/-- 'laws.FnExactValidArena', WHERE WHAT IT READS IS OF BULK AT MOST 1048576: true; the input reads as it did. -/
def fnExactValidArenaUptoRow : OpenClaim := { program := "ytcblhdpaomcflaa", sum := "c92d7d5a06c88f5d9e3df38ef888e3e2da773d50d6626badc1618786286c2f37", func := "loop.example/telemetryagent/laws.FnExactValidArena", spec := "fnExactValidArena", apart := false, narrowed := true }
def FnExactValidArenaUptoSaid : Prop := fnExactValidArenaUptoRow.holds Try.pinned (OpenSpec.upto fnExactValidArenaSpec)

/-- 'laws.FnExactAllocBlock', WHERE WHAT IT READS IS OF BULK AT MOST 1048576: true; the input reads as it did. -/
def fnExactAllocBlockUptoRow : OpenClaim := { program := "ytcblhdpaomcflaa", sum := "c92d7d5a06c88f5d9e3df38ef888e3e2da773d50d6626badc1618786286c2f37", func := "loop.example/telemetryagent/laws.FnExactAllocBlock", spec := "fnExactAllocBlock", apart := false, narrowed := true }
def FnExactAllocBlockUptoSaid : Prop := fnExactAllocBlockUptoRow.holds Try.pinned (OpenSpec.upto fnExactAllocBlockSpec)

/-- 'laws.FnExactFreeBlock', WHERE WHAT IT READS IS OF BULK AT MOST 1048576: true; the input reads as it did. -/
def fnExactFreeBlockUptoRow : OpenClaim := { program := "ytcblhdpaomcflaa", sum := "c92d7d5a06c88f5d9e3df38ef888e3e2da773d50d6626badc1618786286c2f37", func := "loop.example/telemetryagent/laws.FnExactFreeBlock", spec := "fnExactFreeBlock", apart := false, narrowed := true }
def FnExactFreeBlockUptoSaid : Prop := fnExactFreeBlockUptoRow.holds Try.pinned (OpenSpec.upto fnExactFreeBlockSpec)

/-- 'laws.FnExactUsedPlaces', WHERE WHAT IT READS IS OF BULK AT MOST 1048576: true; the input reads as it did. -/
def fnExactUsedPlacesUptoRow : OpenClaim := { program := "ytcblhdpaomcflaa", sum := "c92d7d5a06c88f5d9e3df38ef888e3e2da773d50d6626badc1618786286c2f37", func := "loop.example/telemetryagent/laws.FnExactUsedPlaces", spec := "fnExactUsedPlaces", apart := false, narrowed := true }
def FnExactUsedPlacesUptoSaid : Prop := fnExactUsedPlacesUptoRow.holds Try.pinned (OpenSpec.upto fnExactUsedPlacesSpec)

/-- 'laws.FnExactLargestGap', WHERE WHAT IT READS IS OF BULK AT MOST 1048576: true; the input reads as it did. -/
def fnExactLargestGapUptoRow : OpenClaim := { program := "ytcblhdpaomcflaa", sum := "c92d7d5a06c88f5d9e3df38ef888e3e2da773d50d6626badc1618786286c2f37", func := "loop.example/telemetryagent/laws.FnExactLargestGap", spec := "fnExactLargestGap", apart := false, narrowed := true }
def FnExactLargestGapUptoSaid : Prop := fnExactLargestGapUptoRow.holds Try.pinned (OpenSpec.upto fnExactLargestGapSpec)

/-- 'laws.FnExactCompactArena', WHERE WHAT IT READS IS OF BULK AT MOST 1048576: true; the input reads as it did. -/
def fnExactCompactArenaUptoRow : OpenClaim := { program := "ytcblhdpaomcflaa", sum := "c92d7d5a06c88f5d9e3df38ef888e3e2da773d50d6626badc1618786286c2f37", func := "loop.example/telemetryagent/laws.FnExactCompactArena", spec := "fnExactCompactArena", apart := false, narrowed := true }
def FnExactCompactArenaUptoSaid : Prop := fnExactCompactArenaUptoRow.holds Try.pinned (OpenSpec.upto fnExactCompactArenaSpec)

end Rows
end Go.Proofs.Ytcblhdpaomcflaa
