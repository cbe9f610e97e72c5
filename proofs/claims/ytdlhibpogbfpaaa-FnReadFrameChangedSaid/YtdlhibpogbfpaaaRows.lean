/-
  No cell of these rows narrows 'for every input' (looked for: loops, veiled, ifaces, maps, wideKeys, modest, calm, conditions, laid).
  DERIVED. THE GIVEN ROWS OF THIS SEAT. 6 by the template 'for every input the law returns true; each argument reads behind the call as it read before'; 0 by the template 'total and deterministic' (their statements: YtdlhibpogbfpaaaTotals.lean).
  GIVEN WITH THE SEED: the statements are not yours to turn. If you find one false, say at which input.
  Laid BY PROGRAM, IN A SANDBOX (cutbox-rows.mjs): the forced cells as the released guide's own fill.sh prints them over the translation c2714608e4f3517f… (all of the seat's roots in one cut). By AI agents, Wed Nov 11 2026. No macro, syntax, notation, axiom, sorry.
-/
import Derived.Test.YtdlhibpogbfpaaaChecked
import GoSem.Claim
import GoSem.ClaimJoined
import GoSem.ClaimMapViews
import Derived.JoinedTies
import Derived.KernelRfl
namespace Go.Proofs.Ytdlhibpogbfpaaa
/- THE CELL 'sum', in the pinned program and in every row, IS THE sha256 OF THE DUMP (.gsa) THAT YtdlhibpogbfpaaaProg.lean LOADS. Nothing in Lean hashes anything: it is a label: what it is worth is what the hold of that sum in a sandbox is worth. -/
noncomputable def Try.pinned : Pinned := { name := "ytdlhibpogbfpaaa", sum := "c2714608e4f3517f567a6e41bb5e85004780bcd89d6af8dd12244152870a2686", checked := Try.checked }
namespace Rows
def none {H : Type} : Left H := { results := [], args := [] }

/-- 'laws.FnValidItem': WHATEVER THE INPUT: true; the input reads as it did. -/
def fnValidItemSpec : ChangeSpec := { name := "fnValidItem", fn := fun _ => fun
  | [d] => { results := [.lit (.bool true)], args := [d] }
  | _ => none }
def fnValidItemRow : OpenClaim := { program := "ytdlhibpogbfpaaa", sum := "c2714608e4f3517f567a6e41bb5e85004780bcd89d6af8dd12244152870a2686", func := "loop.example/telemetryagent/laws.FnValidItem", spec := "fnValidItem", apart := false }
def FnValidItemSaid : Prop := fnValidItemRow.holds Try.pinned (OpenSpec.ofChange fnValidItemSpec)

/-- ITS FALSE NEIGHBOUR: 'it returns false'. Refute it at one input. -/
def fnValidItemWrong : ChangeSpec := { name := "fnValidItem", fn := fun _ => fun
  | [d] => { results := [.lit (.bool false)], args := [d] }
  | _ => none }
def FnValidItemWrongFalsely : Prop := fnValidItemRow.holds Try.pinned (OpenSpec.ofChange fnValidItemWrong)

/-- 'laws.FnFrameOf': WHATEVER THE INPUT: true; the input reads as it did. -/
def fnFrameOfSpec : ChangeSpec := { name := "fnFrameOf", fn := fun _ => fun
  | [d] => { results := [.lit (.bool true)], args := [d] }
  | _ => none }
def fnFrameOfRow : OpenClaim := { program := "ytdlhibpogbfpaaa", sum := "c2714608e4f3517f567a6e41bb5e85004780bcd89d6af8dd12244152870a2686", func := "loop.example/telemetryagent/laws.FnFrameOf", spec := "fnFrameOf", apart := false }
def FnFrameOfSaid : Prop := fnFrameOfRow.holds Try.pinned (OpenSpec.ofChange fnFrameOfSpec)

/-- ITS FALSE NEIGHBOUR: 'it returns false'. Refute it at one input. -/
def fnFrameOfWrong : ChangeSpec := { name := "fnFrameOf", fn := fun _ => fun
  | [d] => { results := [.lit (.bool false)], args := [d] }
  | _ => none }
def FnFrameOfWrongFalsely : Prop := fnFrameOfRow.holds Try.pinned (OpenSpec.ofChange fnFrameOfWrong)

/-- 'laws.FnFrameOfTorn': WHATEVER THE INPUT: true; the input reads as it did. -/
def fnFrameOfTornSpec : ChangeSpec := { name := "fnFrameOfTorn", fn := fun _ => fun
  | [d] => { results := [.lit (.bool true)], args := [d] }
  | _ => none }
def fnFrameOfTornRow : OpenClaim := { program := "ytdlhibpogbfpaaa", sum := "c2714608e4f3517f567a6e41bb5e85004780bcd89d6af8dd12244152870a2686", func := "loop.example/telemetryagent/laws.FnFrameOfTorn", spec := "fnFrameOfTorn", apart := false }
def FnFrameOfTornSaid : Prop := fnFrameOfTornRow.holds Try.pinned (OpenSpec.ofChange fnFrameOfTornSpec)

/-- ITS FALSE NEIGHBOUR: 'it returns false'. Refute it at one input. -/
def fnFrameOfTornWrong : ChangeSpec := { name := "fnFrameOfTorn", fn := fun _ => fun
  | [d] => { results := [.lit (.bool false)], args := [d] }
  | _ => none }
def FnFrameOfTornWrongFalsely : Prop := fnFrameOfTornRow.holds Try.pinned (OpenSpec.ofChange fnFrameOfTornWrong)

/-- 'laws.FnValidItemBody': WHATEVER THE INPUT: true; the input reads as it did. -/
def fnValidItemBodySpec : ChangeSpec := { name := "fnValidItemBody", fn := fun _ => fun
  | [d] => { results := [.lit (.bool true)], args := [d] }
  | _ => none }
def fnValidItemBodyRow : OpenClaim := { program := "ytdlhibpogbfpaaa", sum := "c2714608e4f3517f567a6e41bb5e85004780bcd89d6af8dd12244152870a2686", func := "loop.example/telemetryagent/laws.FnValidItemBody", spec := "fnValidItemBody", apart := false }
def FnValidItemBodySaid : Prop := fnValidItemBodyRow.holds Try.pinned (OpenSpec.ofChange fnValidItemBodySpec)

/-- ITS FALSE NEIGHBOUR: 'it returns false'. Refute it at one input. -/
def fnValidItemBodyWrong : ChangeSpec := { name := "fnValidItemBody", fn := fun _ => fun
  | [d] => { results := [.lit (.bool false)], args := [d] }
  | _ => none }
def FnValidItemBodyWrongFalsely : Prop := fnValidItemBodyRow.holds Try.pinned (OpenSpec.ofChange fnValidItemBodyWrong)

/-- 'laws.FnFrameOfBody': WHATEVER THE INPUT: true; the input reads as it did. -/
def fnFrameOfBodySpec : ChangeSpec := { name := "fnFrameOfBody", fn := fun _ => fun
  | [d] => { results := [.lit (.bool true)], args := [d] }
  | _ => none }
def fnFrameOfBodyRow : OpenClaim := { program := "ytdlhibpogbfpaaa", sum := "c2714608e4f3517f567a6e41bb5e85004780bcd89d6af8dd12244152870a2686", func := "loop.example/telemetryagent/laws.FnFrameOfBody", spec := "fnFrameOfBody", apart := false }
def FnFrameOfBodySaid : Prop := fnFrameOfBodyRow.holds Try.pinned (OpenSpec.ofChange fnFrameOfBodySpec)

/-- ITS FALSE NEIGHBOUR: 'it returns false'. Refute it at one input. -/
def fnFrameOfBodyWrong : ChangeSpec := { name := "fnFrameOfBody", fn := fun _ => fun
  | [d] => { results := [.lit (.bool false)], args := [d] }
  | _ => none }
def FnFrameOfBodyWrongFalsely : Prop := fnFrameOfBodyRow.holds Try.pinned (OpenSpec.ofChange fnFrameOfBodyWrong)

/-- 'laws.FnReadFrameChanged': WHATEVER THE INPUT: true; the input reads as it did. -/
def fnReadFrameChangedSpec : ChangeSpec := { name := "fnReadFrameChanged", fn := fun _ => fun
  | [d] => { results := [.lit (.bool true)], args := [d] }
  | _ => none }
def fnReadFrameChangedRow : OpenClaim := { program := "ytdlhibpogbfpaaa", sum := "c2714608e4f3517f567a6e41bb5e85004780bcd89d6af8dd12244152870a2686", func := "loop.example/telemetryagent/laws.FnReadFrameChanged", spec := "fnReadFrameChanged", apart := false }
def FnReadFrameChangedSaid : Prop := fnReadFrameChangedRow.holds Try.pinned (OpenSpec.ofChange fnReadFrameChangedSpec)

/-- ITS FALSE NEIGHBOUR: 'it returns false'. Refute it at one input. -/
def fnReadFrameChangedWrong : ChangeSpec := { name := "fnReadFrameChanged", fn := fun _ => fun
  | [d] => { results := [.lit (.bool false)], args := [d] }
  | _ => none }
def FnReadFrameChangedWrongFalsely : Prop := fnReadFrameChangedRow.holds Try.pinned (OpenSpec.ofChange fnReadFrameChangedWrong)

/- THE SECOND FORM. 'bulk': how many values and letters a reading holds, each counted each time it is reached (what is shared counts as often as it is met; a slice's spare places count too). A statement '..UptoSaid' is the law's where the arguments, and the package variables that the reading takes, are together of bulk at most 1048576: NARROWER than '..Said'. Prove '..Said' where nothing that the law and all that it calls make is longer than what came in: it says more and counts as full. Else prove '..UptoSaid'. A law counts once. -/
mutual
def uptoBulk {H : Type} : DataW H → Nat
  | .lit (.string bytes) => bytes.length + 1
  | .lit _ => 1
  | .nil => 1
  | .ptr d => uptoBulk d + 1
  | .slice elems spare => uptoBulkAll elems + uptoBulkAll spare + 1
  | .agg parts => uptoBulkAll parts + 1
  | .iface _ d => uptoBulk d + 1
  | .map entries => uptoBulkEntries entries + 1
  | .held _ => 1
def uptoBulkAll {H : Type} : List (DataW H) → Nat
  | [] => 0
  | d :: r => uptoBulk d + uptoBulkAll r
def uptoBulkEntries {H : Type} : List (Lit × DataW H) → Nat
  | [] => 0
  | x :: r => uptoBulkEntry x + uptoBulkEntries r
def uptoBulkEntry {H : Type} : Lit × DataW H → Nat
  | (.string bytes, d) => bytes.length + uptoBulk d + 1
  | (_, d) => uptoBulk d + 1
 end
def uptoSmall : (H : Type) → List (DataW H) → Bool := fun _ ds => decide (uptoBulkAll ds ≤ 1048576)
def OpenSpec.upto (s : _root_.Go.ChangeSpec) : _root_.Go.OpenSpec := { _root_.Go.OpenSpec.ofChange s with cond := some uptoSmall }

/-- 'laws.FnValidItem', WHERE WHAT IT READS IS OF BULK AT MOST 1048576: true; the input reads as it did. -/
def fnValidItemUptoRow : OpenClaim := { program := "ytdlhibpogbfpaaa", sum := "c2714608e4f3517f567a6e41bb5e85004780bcd89d6af8dd12244152870a2686", func := "loop.example/telemetryagent/laws.FnValidItem", spec := "fnValidItem", apart := false, narrowed := true }
def FnValidItemUptoSaid : Prop := fnValidItemUptoRow.holds Try.pinned (OpenSpec.upto fnValidItemSpec)

/-- 'laws.FnFrameOf', WHERE WHAT IT READS IS OF BULK AT MOST 1048576: true; the input reads as it did. -/
def fnFrameOfUptoRow : OpenClaim := { program := "ytdlhibpogbfpaaa", sum := "c2714608e4f3517f567a6e41bb5e85004780bcd89d6af8dd12244152870a2686", func := "loop.example/telemetryagent/laws.FnFrameOf", spec := "fnFrameOf", apart := false, narrowed := true }
def FnFrameOfUptoSaid : Prop := fnFrameOfUptoRow.holds Try.pinned (OpenSpec.upto fnFrameOfSpec)

/-- 'laws.FnFrameOfTorn', WHERE WHAT IT READS IS OF BULK AT MOST 1048576: true; the input reads as it did. -/
def fnFrameOfTornUptoRow : OpenClaim := { program := "ytdlhibpogbfpaaa", sum := "c2714608e4f3517f567a6e41bb5e85004780bcd89d6af8dd12244152870a2686", func := "loop.example/telemetryagent/laws.FnFrameOfTorn", spec := "fnFrameOfTorn", apart := false, narrowed := true }
def FnFrameOfTornUptoSaid : Prop := fnFrameOfTornUptoRow.holds Try.pinned (OpenSpec.upto fnFrameOfTornSpec)

/-- 'laws.FnValidItemBody', WHERE WHAT IT READS IS OF BULK AT MOST 1048576: true; the input reads as it did. -/
def fnValidItemBodyUptoRow : OpenClaim := { program := "ytdlhibpogbfpaaa", sum := "c2714608e4f3517f567a6e41bb5e85004780bcd89d6af8dd12244152870a2686", func := "loop.example/telemetryagent/laws.FnValidItemBody", spec := "fnValidItemBody", apart := false, narrowed := true }
def FnValidItemBodyUptoSaid : Prop := fnValidItemBodyUptoRow.holds Try.pinned (OpenSpec.upto fnValidItemBodySpec)

/-- 'laws.FnFrameOfBody', WHERE WHAT IT READS IS OF BULK AT MOST 1048576: true; the input reads as it did. -/
def fnFrameOfBodyUptoRow : OpenClaim := { program := "ytdlhibpogbfpaaa", sum := "c2714608e4f3517f567a6e41bb5e85004780bcd89d6af8dd12244152870a2686", func := "loop.example/telemetryagent/laws.FnFrameOfBody", spec := "fnFrameOfBody", apart := false, narrowed := true }
def FnFrameOfBodyUptoSaid : Prop := fnFrameOfBodyUptoRow.holds Try.pinned (OpenSpec.upto fnFrameOfBodySpec)

/-- 'laws.FnReadFrameChanged', WHERE WHAT IT READS IS OF BULK AT MOST 1048576: true; the input reads as it did. -/
def fnReadFrameChangedUptoRow : OpenClaim := { program := "ytdlhibpogbfpaaa", sum := "c2714608e4f3517f567a6e41bb5e85004780bcd89d6af8dd12244152870a2686", func := "loop.example/telemetryagent/laws.FnReadFrameChanged", spec := "fnReadFrameChanged", apart := false, narrowed := true }
def FnReadFrameChangedUptoSaid : Prop := fnReadFrameChangedUptoRow.holds Try.pinned (OpenSpec.upto fnReadFrameChangedSpec)

end Rows
end Go.Proofs.Ytdlhibpogbfpaaa
