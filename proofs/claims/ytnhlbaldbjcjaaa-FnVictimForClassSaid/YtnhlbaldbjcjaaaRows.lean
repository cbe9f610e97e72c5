/-
  No cell of these rows narrows 'for every input' (looked for: loops, veiled, ifaces, maps, wideKeys, modest, calm, conditions, laid).
  DERIVED. THE GIVEN ROWS OF THIS SEAT. 3 by the template 'for every input the law returns true; each argument reads behind the call as it read before'; 0 by the template 'total and deterministic' (their statements: YtnhlbaldbjcjaaaTotals.lean).
  GIVEN WITH THE SEED: the statements are not yours to turn. If you find one false, say at which input.
  Laid BY PROGRAM, IN A SANDBOX (cutbox-rows.mjs): the forced cells as the released guide's own fill.sh prints them over the translation 475cb9d4cbf07d02… (all of the seat's roots in one cut). By AI agents, Wed Nov 11 2026. No macro, syntax, notation, axiom, sorry.
-/
import Derived.Test.YtnhlbaldbjcjaaaChecked
import GoSem.Claim
import GoSem.ClaimJoined
import GoSem.ClaimMapViews
import Derived.JoinedTies
import Derived.KernelRfl
namespace Go.Proofs.Ytnhlbaldbjcjaaa
/- THE CELL 'sum', in the pinned program and in every row, IS THE sha256 OF THE DUMP (.gsa) THAT YtnhlbaldbjcjaaaProg.lean LOADS. Nothing in Lean hashes anything: it is a label: what it is worth is what the hold of that sum in a sandbox is worth. -/
noncomputable def Try.pinned : Pinned := { name := "ytnhlbaldbjcjaaa", sum := "475cb9d4cbf07d027ac06dfe22a8b43827b84c2e8a78458b22946bcbe9daf000", checked := Try.checked }
namespace Rows
def none {H : Type} : Left H := { results := [], args := [] }

/-- 'laws.FnVictimFor': WHATEVER THE INPUT: true; the input reads as it did. -/
def fnVictimForSpec : ChangeSpec := { name := "fnVictimFor", fn := fun _ => fun
  | [d] => { results := [.lit (.bool true)], args := [d] }
  | _ => none }
def fnVictimForRow : OpenClaim := { program := "ytnhlbaldbjcjaaa", sum := "475cb9d4cbf07d027ac06dfe22a8b43827b84c2e8a78458b22946bcbe9daf000", func := "loop.example/telemetryagent/laws.FnVictimFor", spec := "fnVictimFor", unfollowed := true, recurses := true, apart := false }
def FnVictimForSaid : Prop := fnVictimForRow.holds Try.pinned (OpenSpec.ofChange fnVictimForSpec)

/-- ITS FALSE NEIGHBOUR: 'it returns false'. Refute it at one input. -/
def fnVictimForWrong : ChangeSpec := { name := "fnVictimFor", fn := fun _ => fun
  | [d] => { results := [.lit (.bool false)], args := [d] }
  | _ => none }
def FnVictimForWrongFalsely : Prop := fnVictimForRow.holds Try.pinned (OpenSpec.ofChange fnVictimForWrong)

/-- 'laws.FnVictimForNone': WHATEVER THE INPUT: true; the input reads as it did. -/
def fnVictimForNoneSpec : ChangeSpec := { name := "fnVictimForNone", fn := fun _ => fun
  | [d] => { results := [.lit (.bool true)], args := [d] }
  | _ => none }
def fnVictimForNoneRow : OpenClaim := { program := "ytnhlbaldbjcjaaa", sum := "475cb9d4cbf07d027ac06dfe22a8b43827b84c2e8a78458b22946bcbe9daf000", func := "loop.example/telemetryagent/laws.FnVictimForNone", spec := "fnVictimForNone", unfollowed := true, recurses := true, apart := false }
def FnVictimForNoneSaid : Prop := fnVictimForNoneRow.holds Try.pinned (OpenSpec.ofChange fnVictimForNoneSpec)

/-- ITS FALSE NEIGHBOUR: 'it returns false'. Refute it at one input. -/
def fnVictimForNoneWrong : ChangeSpec := { name := "fnVictimForNone", fn := fun _ => fun
  | [d] => { results := [.lit (.bool false)], args := [d] }
  | _ => none }
def FnVictimForNoneWrongFalsely : Prop := fnVictimForNoneRow.holds Try.pinned (OpenSpec.ofChange fnVictimForNoneWrong)

/-- 'laws.FnVictimForClass': WHATEVER THE INPUT: true; the input reads as it did. -/
def fnVictimForClassSpec : ChangeSpec := { name := "fnVictimForClass", fn := fun _ => fun
  | [d] => { results := [.lit (.bool true)], args := [d] }
  | _ => none }
def fnVictimForClassRow : OpenClaim := { program := "ytnhlbaldbjcjaaa", sum := "475cb9d4cbf07d027ac06dfe22a8b43827b84c2e8a78458b22946bcbe9daf000", func := "loop.example/telemetryagent/laws.FnVictimForClass", spec := "fnVictimForClass", unfollowed := true, recurses := true, apart := false }
def FnVictimForClassSaid : Prop := fnVictimForClassRow.holds Try.pinned (OpenSpec.ofChange fnVictimForClassSpec)

/-- ITS FALSE NEIGHBOUR: 'it returns false'. Refute it at one input. -/
def fnVictimForClassWrong : ChangeSpec := { name := "fnVictimForClass", fn := fun _ => fun
  | [d] => { results := [.lit (.bool false)], args := [d] }
  | _ => none }
def FnVictimForClassWrongFalsely : Prop := fnVictimForClassRow.holds Try.pinned (OpenSpec.ofChange fnVictimForClassWrong)

/- THE SECOND FORM. 'bulk': how many values and letters a reading holds, each counted each time it is reached (what is shared counts as often as it is met; a slice's spare places count too). A statement '..UptoSaid' is the law's where the arguments, and the package variables that the reading takes, are together of bulk at most 1048576: NARROWER than '..Said'. Prove '..Said' where nothing that the law and all that it calls make is longer than what came in: it says more and counts as full. Else prove '..UptoSaid'. A law counts once. -/
mutual
def uptoBulk {H : Type} : DataW H → Nat
  | .lit (.string bytes) => bytes.length + 1
  | .lit _ => 1
  | .nil => 1
  | .ptr d => uptoBulk d + 1
  | .slice elems spare => uptoBulkAll elems + uptoBulkAll spare + 1
  | .agg parts => uptoBulkAll parts + 1
  | .iface _ d => uptoBulk d + 1
  | .map entries => uptoBulkEntries entries + 1
  | .held _ => 1
def uptoBulkAll {H : Type} : List (DataW H) → Nat
  | [] => 0
  | d :: r => uptoBulk d + uptoBulkAll r
def uptoBulkEntries {H : Type} : List (Lit × DataW H) → Nat
  | [] => 0
  | x :: r => uptoBulkEntry x + uptoBulkEntries r
def uptoBulkEntry {H : Type} : Lit × DataW H → Nat
  | (.string bytes, d) => bytes.length + uptoBulk d + 1
  | (_, d) => uptoBulk d + 1
 end
def uptoSmall : (H : Type) → List (DataW H) → Bool := fun _ ds => decide (uptoBulkAll ds ≤ 1048576)
def OpenSpec.upto (s : _root_.Go.ChangeSpec) : _root_.Go.OpenSpec := { _root_.Go.OpenSpec.ofChange s with cond := some uptoSmall }

/-- 'laws.FnVictimFor', WHERE WHAT IT READS IS OF BULK AT MOST 1048576: true; the input reads as it did. -/
def fnVictimForUptoRow : OpenClaim := { program := "ytnhlbaldbjcjaaa", sum := "475cb9d4cbf07d027ac06dfe22a8b43827b84c2e8a78458b22946bcbe9daf000", func := "loop.example/telemetryagent/laws.FnVictimFor", spec := "fnVictimFor", unfollowed := true, recurses := true, apart := false, narrowed := true }
def FnVictimForUptoSaid : Prop := fnVictimForUptoRow.holds Try.pinned (OpenSpec.upto fnVictimForSpec)

/-- 'laws.FnVictimForNone', WHERE WHAT IT READS IS OF BULK AT MOST 1048576: true; the input reads as it did. -/
def fnVictimForNoneUptoRow : OpenClaim := { program := "ytnhlbaldbjcjaaa", sum := "475cb9d4cbf07d027ac06dfe22a8b43827b84c2e8a78458b22946bcbe9daf000", func := "loop.example/telemetryagent/laws.FnVictimForNone", spec := "fnVictimForNone", unfollowed := true, recurses := true, apart := false, narrowed := true }
def FnVictimForNoneUptoSaid : Prop := fnVictimForNoneUptoRow.holds Try.pinned (OpenSpec.upto fnVictimForNoneSpec)

/-- 'laws.FnVictimForClass', WHERE WHAT IT READS IS OF BULK AT MOST 1048576: true; the input reads as it did. -/
def fnVictimForClassUptoRow : OpenClaim := { program := "ytnhlbaldbjcjaaa", sum := "475cb9d4cbf07d027ac06dfe22a8b43827b84c2e8a78458b22946bcbe9daf000", func := "loop.example/telemetryagent/laws.FnVictimForClass", spec := "fnVictimForClass", unfollowed := true, recurses := true, apart := false, narrowed := true }
def FnVictimForClassUptoSaid : Prop := fnVictimForClassUptoRow.holds Try.pinned (OpenSpec.upto fnVictimForClassSpec)

end Rows
end Go.Proofs.Ytnhlbaldbjcjaaa
