/-
  No cell of these rows narrows 'for every input' (looked for: loops, veiled, ifaces, maps, wideKeys, modest, calm, conditions, laid).
  DERIVED. THE GIVEN ROWS OF THIS SEAT. 8 by the template 'for every input the law returns true; each argument reads behind the call as it read before'; 0 by the template 'total and deterministic' (their statements: YtajfjeoklhkeiaaTotals.lean).
  GIVEN WITH THE SEED: the statements are not yours to turn. If you find one false, say at which input.
  Laid BY PROGRAM, IN A SANDBOX (cutbox-rows.mjs): the forced cells as the released guide's own fill.sh prints them over the translation e6b21b45746363c1… (all of the seat's roots in one cut). By AI agents, Wed Nov 11 2026. No macro, syntax, notation, axiom, sorry.
-/
import Derived.Test.YtajfjeoklhkeiaaChecked
import GoSem.Claim
import GoSem.ClaimJoined
import GoSem.ClaimMapViews
import Derived.JoinedTies
import Derived.KernelRfl
namespace Go.Proofs.Ytajfjeoklhkeiaa
/- THE CELL 'sum', in the pinned program and in every row, IS THE sha256 OF THE DUMP (.gsa) THAT YtajfjeoklhkeiaaProg.lean LOADS. Nothing in Lean hashes anything: it is a label: what it is worth is what the hold of that sum in a sandbox is worth. -/
noncomputable def Try.pinned : Pinned := { name := "ytajfjeoklhkeiaa", sum := "e6b21b45746363c15fbda8a877f5d6d249bcbcac0a5a4609b0401084291643ed", checked := Try.checked }
namespace Rows
def none {H : Type} : Left H := { results := [], args := [] }

/-- 'laws.FnCheckOf': WHATEVER THE INPUT: true; the input reads as it did. -/
def fnCheckOfSpec : ChangeSpec := { name := "fnCheckOf", fn := fun _ => fun
  | [d] => { results := [.lit (.bool true)], args := [d] }
  | _ => none }
def fnCheckOfRow : OpenClaim := { program := "ytajfjeoklhkeiaa", sum := "e6b21b45746363c15fbda8a877f5d6d249bcbcac0a5a4609b0401084291643ed", func := "loop.example/telemetryagent/laws.FnCheckOf", spec := "fnCheckOf", apart := false }
def FnCheckOfSaid : Prop := fnCheckOfRow.holds Try.pinned (OpenSpec.ofChange fnCheckOfSpec)

/-- ITS FALSE NEIGHBOUR: 'it returns false'. Refute it at one input. -/
def fnCheckOfWrong : ChangeSpec := { name := "fnCheckOf", fn := fun _ => fun
  | [d] => { results := [.lit (.bool false)], args := [d] }
  | _ => none }
def FnCheckOfWrongFalsely : Prop := fnCheckOfRow.holds Try.pinned (OpenSpec.ofChange fnCheckOfWrong)

/-- 'laws.FnCheckOfOther': WHATEVER THE INPUT: true; the input reads as it did. -/
def fnCheckOfOtherSpec : ChangeSpec := { name := "fnCheckOfOther", fn := fun _ => fun
  | [d] => { results := [.lit (.bool true)], args := [d] }
  | _ => none }
def fnCheckOfOtherRow : OpenClaim := { program := "ytajfjeoklhkeiaa", sum := "e6b21b45746363c15fbda8a877f5d6d249bcbcac0a5a4609b0401084291643ed", func := "loop.example/telemetryagent/laws.FnCheckOfOther", spec := "fnCheckOfOther", apart := false }
def FnCheckOfOtherSaid : Prop := fnCheckOfOtherRow.holds Try.pinned (OpenSpec.ofChange fnCheckOfOtherSpec)

/-- ITS FALSE NEIGHBOUR: 'it returns false'. Refute it at one input. -/
def fnCheckOfOtherWrong : ChangeSpec := { name := "fnCheckOfOther", fn := fun _ => fun
  | [d] => { results := [.lit (.bool false)], args := [d] }
  | _ => none }
def FnCheckOfOtherWrongFalsely : Prop := fnCheckOfOtherRow.holds Try.pinned (OpenSpec.ofChange fnCheckOfOtherWrong)

/-- 'laws.FnReadFrame': WHATEVER THE INPUT: true; the input reads as it did. -/
def fnReadFrameSpec : ChangeSpec := { name := "fnReadFrame", fn := fun _ => fun
  | [d] => { results := [.lit (.bool true)], args := [d] }
  | _ => none }
def fnReadFrameRow : OpenClaim := { program := "ytajfjeoklhkeiaa", sum := "e6b21b45746363c15fbda8a877f5d6d249bcbcac0a5a4609b0401084291643ed", func := "loop.example/telemetryagent/laws.FnReadFrame", spec := "fnReadFrame", apart := false }
def FnReadFrameSaid : Prop := fnReadFrameRow.holds Try.pinned (OpenSpec.ofChange fnReadFrameSpec)

/-- ITS FALSE NEIGHBOUR: 'it returns false'. Refute it at one input. -/
def fnReadFrameWrong : ChangeSpec := { name := "fnReadFrame", fn := fun _ => fun
  | [d] => { results := [.lit (.bool false)], args := [d] }
  | _ => none }
def FnReadFrameWrongFalsely : Prop := fnReadFrameRow.holds Try.pinned (OpenSpec.ofChange fnReadFrameWrong)

/-- 'laws.FnReadStream': WHATEVER THE INPUT: true; the input reads as it did. -/
def fnReadStreamSpec : ChangeSpec := { name := "fnReadStream", fn := fun _ => fun
  | [d] => { results := [.lit (.bool true)], args := [d] }
  | _ => none }
def fnReadStreamRow : OpenClaim := { program := "ytajfjeoklhkeiaa", sum := "e6b21b45746363c15fbda8a877f5d6d249bcbcac0a5a4609b0401084291643ed", func := "loop.example/telemetryagent/laws.FnReadStream", spec := "fnReadStream", apart := false }
def FnReadStreamSaid : Prop := fnReadStreamRow.holds Try.pinned (OpenSpec.ofChange fnReadStreamSpec)

/-- ITS FALSE NEIGHBOUR: 'it returns false'. Refute it at one input. -/
def fnReadStreamWrong : ChangeSpec := { name := "fnReadStream", fn := fun _ => fun
  | [d] => { results := [.lit (.bool false)], args := [d] }
  | _ => none }
def FnReadStreamWrongFalsely : Prop := fnReadStreamRow.holds Try.pinned (OpenSpec.ofChange fnReadStreamWrong)

/-- 'laws.FnReadStreamFrames': WHATEVER THE INPUT: true; the input reads as it did. -/
def fnReadStreamFramesSpec : ChangeSpec := { name := "fnReadStreamFrames", fn := fun _ => fun
  | [d] => { results := [.lit (.bool true)], args := [d] }
  | _ => none }
def fnReadStreamFramesRow : OpenClaim := { program := "ytajfjeoklhkeiaa", sum := "e6b21b45746363c15fbda8a877f5d6d249bcbcac0a5a4609b0401084291643ed", func := "loop.example/telemetryagent/laws.FnReadStreamFrames", spec := "fnReadStreamFrames", apart := false }
def FnReadStreamFramesSaid : Prop := fnReadStreamFramesRow.holds Try.pinned (OpenSpec.ofChange fnReadStreamFramesSpec)

/-- ITS FALSE NEIGHBOUR: 'it returns false'. Refute it at one input. -/
def fnReadStreamFramesWrong : ChangeSpec := { name := "fnReadStreamFrames", fn := fun _ => fun
  | [d] => { results := [.lit (.bool false)], args := [d] }
  | _ => none }
def FnReadStreamFramesWrongFalsely : Prop := fnReadStreamFramesRow.holds Try.pinned (OpenSpec.ofChange fnReadStreamFramesWrong)

/-- 'laws.FnReadStreamNoise': WHATEVER THE INPUT: true; the input reads as it did. -/
def fnReadStreamNoiseSpec : ChangeSpec := { name := "fnReadStreamNoise", fn := fun _ => fun
  | [d] => { results := [.lit (.bool true)], args := [d] }
  | _ => none }
def fnReadStreamNoiseRow : OpenClaim := { program := "ytajfjeoklhkeiaa", sum := "e6b21b45746363c15fbda8a877f5d6d249bcbcac0a5a4609b0401084291643ed", func := "loop.example/telemetryagent/laws.FnReadStreamNoise", spec := "fnReadStreamNoise", apart := false }
def FnReadStreamNoiseSaid : Prop := fnReadStreamNoiseRow.holds Try.pinned (OpenSpec.ofChange fnReadStreamNoiseSpec)

/-- ITS FALSE NEIGHBOUR: 'it returns false'. Refute it at one input. -/
def fnReadStreamNoiseWrong : ChangeSpec := { name := "fnReadStreamNoise", fn := fun _ => fun
  | [d] => { results := [.lit (.bool false)], args := [d] }
  | _ => none }
def FnReadStreamNoiseWrongFalsely : Prop := fnReadStreamNoiseRow.holds Try.pinned (OpenSpec.ofChange fnReadStreamNoiseWrong)

/-- 'laws.FnCheckOfBound': WHATEVER THE INPUT: true; the input reads as it did. -/
def fnCheckOfBoundSpec : ChangeSpec := { name := "fnCheckOfBound", fn := fun _ => fun
  | [d] => { results := [.lit (.bool true)], args := [d] }
  | _ => none }
def fnCheckOfBoundRow : OpenClaim := { program := "ytajfjeoklhkeiaa", sum := "e6b21b45746363c15fbda8a877f5d6d249bcbcac0a5a4609b0401084291643ed", func := "loop.example/telemetryagent/laws.FnCheckOfBound", spec := "fnCheckOfBound", apart := false }
def FnCheckOfBoundSaid : Prop := fnCheckOfBoundRow.holds Try.pinned (OpenSpec.ofChange fnCheckOfBoundSpec)

/-- ITS FALSE NEIGHBOUR: 'it returns false'. Refute it at one input. -/
def fnCheckOfBoundWrong : ChangeSpec := { name := "fnCheckOfBound", fn := fun _ => fun
  | [d] => { results := [.lit (.bool false)], args := [d] }
  | _ => none }
def FnCheckOfBoundWrongFalsely : Prop := fnCheckOfBoundRow.holds Try.pinned (OpenSpec.ofChange fnCheckOfBoundWrong)

/-- 'laws.FnReadStreamFirst': WHATEVER THE INPUT: true; the input reads as it did. -/
def fnReadStreamFirstSpec : ChangeSpec := { name := "fnReadStreamFirst", fn := fun _ => fun
  | [d] => { results := [.lit (.bool true)], args := [d] }
  | _ => none }
def fnReadStreamFirstRow : OpenClaim := { program := "ytajfjeoklhkeiaa", sum := "e6b21b45746363c15fbda8a877f5d6d249bcbcac0a5a4609b0401084291643ed", func := "loop.example/telemetryagent/laws.FnReadStreamFirst", spec := "fnReadStreamFirst", apart := false }
def FnReadStreamFirstSaid : Prop := fnReadStreamFirstRow.holds Try.pinned (OpenSpec.ofChange fnReadStreamFirstSpec)

/-- ITS FALSE NEIGHBOUR: 'it returns false'. Refute it at one input. -/
def fnReadStreamFirstWrong : ChangeSpec := { name := "fnReadStreamFirst", fn := fun _ => fun
  | [d] => { results := [.lit (.bool false)], args := [d] }
  | _ => none }
def FnReadStreamFirstWrongFalsely : Prop := fnReadStreamFirstRow.holds Try.pinned (OpenSpec.ofChange fnReadStreamFirstWrong)

/- THE SECOND FORM. 'bulk': how many values and letters a reading holds, each counted each time it is reached (what is shared counts as often as it is met; a slice's spare places count too). A statement '..UptoSaid' is the law's where the arguments, and the package variables that the reading takes, are together of bulk at most 1048576: NARROWER than '..Said'. Prove '..Said' where nothing that the law and all that it calls make is longer than what came in: it says more and counts as full. Else prove '..UptoSaid'. A law counts once. -/
mutual
def uptoBulk {H : Type} : DataW H → Nat
  | .lit (.string bytes) => bytes.length + 1
  | .lit _ => 1
  | .nil => 1
  | .ptr d => uptoBulk d + 1
  | .slice elems spare => uptoBulkAll elems + uptoBulkAll spare + 1
  | .agg parts => uptoBulkAll parts + 1
  | .iface _ d => uptoBulk d + 1
  | .map entries => uptoBulkEntries entries + 1
  | .held _ => 1
def uptoBulkAll {H : Type} : List (DataW H) → Nat
  | [] => 0
  | d :: r => uptoBulk d + uptoBulkAll r
def uptoBulkEntries {H : Type} : List (Lit × DataW H) → Nat
  | [] => 0
  | x :: r => uptoBulkEntry x + uptoBulkEntries r
def uptoBulkEntry {H : Type} : Lit × DataW H → Nat
  | (.string bytes, d) => bytes.length + uptoBulk d + 1
  | (_, d) => uptoBulk d + 1
 end
def uptoSmall : (H : Type) → List (DataW H) → Bool := fun _ ds => decide (uptoBulkAll ds ≤ 1048576)
def OpenSpec.upto (s : _root_.Go.ChangeSpec) : _root_.Go.OpenSpec := { _root_.Go.OpenSpec.ofChange s with cond := some uptoSmall }

/-- 'laws.FnCheckOf', WHERE WHAT IT READS IS OF BULK AT MOST 1048576: true; the input reads as it did. -/
def fnCheckOfUptoRow : OpenClaim := { program := "ytajfjeoklhkeiaa", sum := "e6b21b45746363c15fbda8a877f5d6d249bcbcac0a5a4609b0401084291643ed", func := "loop.example/telemetryagent/laws.FnCheckOf", spec := "fnCheckOf", apart := false, narrowed := true }
def FnCheckOfUptoSaid : Prop := fnCheckOfUptoRow.holds Try.pinned (OpenSpec.upto fnCheckOfSpec)

/-- 'laws.FnCheckOfOther', WHERE WHAT IT READS IS OF BULK AT MOST 1048576: true; the input reads as it did. -/
def fnCheckOfOtherUptoRow : OpenClaim := { program := "ytajfjeoklhkeiaa", sum := "e6b21b45746363c15fbda8a877f5d6d249bcbcac0a5a4609b0401084291643ed", func := "loop.example/telemetryagent/laws.FnCheckOfOther", spec := "fnCheckOfOther", apart := false, narrowed := true }
def FnCheckOfOtherUptoSaid : Prop := fnCheckOfOtherUptoRow.holds Try.pinned (OpenSpec.upto fnCheckOfOtherSpec)

/-- 'laws.FnReadFrame', WHERE WHAT IT READS IS OF BULK AT MOST 1048576: true; the input reads as it did. -/
def fnReadFrameUptoRow : OpenClaim := { program := "ytajfjeoklhkeiaa", sum := "e6b21b45746363c15fbda8a877f5d6d249bcbcac0a5a4609b0401084291643ed", func := "loop.example/telemetryagent/laws.FnReadFrame", spec := "fnReadFrame", apart := false, narrowed := true }
def FnReadFrameUptoSaid : Prop := fnReadFrameUptoRow.holds Try.pinned (OpenSpec.upto fnReadFrameSpec)

/-- 'laws.FnReadStream', WHERE WHAT IT READS IS OF BULK AT MOST 1048576: true; the input reads as it did. -/
def fnReadStreamUptoRow : OpenClaim := { program := "ytajfjeoklhkeiaa", sum := "e6b21b45746363c15fbda8a877f5d6d249bcbcac0a5a4609b0401084291643ed", func := "loop.example/telemetryagent/laws.FnReadStream", spec := "fnReadStream", apart := false, narrowed := true }
def FnReadStreamUptoSaid : Prop := fnReadStreamUptoRow.holds Try.pinned (OpenSpec.upto fnReadStreamSpec)

/-- 'laws.FnReadStreamFrames', WHERE WHAT IT READS IS OF BULK AT MOST 1048576: true; the input reads as it did. -/
def fnReadStreamFramesUptoRow : OpenClaim := { program := "ytajfjeoklhkeiaa", sum := "e6b21b45746363c15fbda8a877f5d6d249bcbcac0a5a4609b0401084291643ed", func := "loop.example/telemetryagent/laws.FnReadStreamFrames", spec := "fnReadStreamFrames", apart := false, narrowed := true }
def FnReadStreamFramesUptoSaid : Prop := fnReadStreamFramesUptoRow.holds Try.pinned (OpenSpec.upto fnReadStreamFramesSpec)

/-- 'laws.FnReadStreamNoise', WHERE WHAT IT READS IS OF BULK AT MOST 1048576: true; the input reads as it did. -/
def fnReadStreamNoiseUptoRow : OpenClaim := { program := "ytajfjeoklhkeiaa", sum := "e6b21b45746363c15fbda8a877f5d6d249bcbcac0a5a4609b0401084291643ed", func := "loop.example/telemetryagent/laws.FnReadStreamNoise", spec := "fnReadStreamNoise", apart := false, narrowed := true }
def FnReadStreamNoiseUptoSaid : Prop := fnReadStreamNoiseUptoRow.holds Try.pinned (OpenSpec.upto fnReadStreamNoiseSpec)

/-- 'laws.FnCheckOfBound', WHERE WHAT IT READS IS OF BULK AT MOST 1048576: true; the input reads as it did. -/
def fnCheckOfBoundUptoRow : OpenClaim := { program := "ytajfjeoklhkeiaa", sum := "e6b21b45746363c15fbda8a877f5d6d249bcbcac0a5a4609b0401084291643ed", func := "loop.example/telemetryagent/laws.FnCheckOfBound", spec := "fnCheckOfBound", apart := false, narrowed := true }
def FnCheckOfBoundUptoSaid : Prop := fnCheckOfBoundUptoRow.holds Try.pinned (OpenSpec.upto fnCheckOfBoundSpec)

/-- 'laws.FnReadStreamFirst', WHERE WHAT IT READS IS OF BULK AT MOST 1048576: true; the input reads as it did. -/
def fnReadStreamFirstUptoRow : OpenClaim := { program := "ytajfjeoklhkeiaa", sum := "e6b21b45746363c15fbda8a877f5d6d249bcbcac0a5a4609b0401084291643ed", func := "loop.example/telemetryagent/laws.FnReadStreamFirst", spec := "fnReadStreamFirst", apart := false, narrowed := true }
def FnReadStreamFirstUptoSaid : Prop := fnReadStreamFirstUptoRow.holds Try.pinned (OpenSpec.upto fnReadStreamFirstSpec)

end Rows
end Go.Proofs.Ytajfjeoklhkeiaa
