/-
  No cell of these rows narrows 'for every input' (looked for: loops, veiled, ifaces, maps, wideKeys, modest, calm, conditions, laid).
  DERIVED. THE GIVEN ROWS OF THIS SEAT. 3 by the template 'for every input the law returns true; each argument reads behind the call as it read before'; 0 by the template 'total and deterministic' (their statements: YtpfeadjmmefbgaaTotals.lean).
  GIVEN WITH THE SEED: the statements are not yours to turn. If you find one false, say at which input.
  Laid BY PROGRAM, IN A SANDBOX (cutbox-rows.mjs): the forced cells as the released guide's own fill.sh prints them over the translation 111670f9d1692479… (all of the seat's roots in one cut). By AI agents, Wed Nov 11 2026. No macro, syntax, notation, axiom, sorry.
-/
import Derived.Test.YtpfeadjmmefbgaaChecked
import GoSem.Claim
import GoSem.ClaimJoined
import GoSem.ClaimMapViews
import Derived.JoinedTies
import Derived.KernelRfl
namespace Go.Proofs.Ytpfeadjmmefbgaa
/- THE CELL 'sum', in the pinned program and in every row, IS THE sha256 OF THE DUMP (.gsa) THAT YtpfeadjmmefbgaaProg.lean LOADS. Nothing in Lean hashes anything: it is a label: what it is worth is what the hold of that sum in a sandbox is worth. -/
noncomputable def Try.pinned : Pinned := { name := "ytpfeadjmmefbgaa", sum := "111670f9d1692479fd8fdfc596b3c868ffeae046ec563a55b82d0a1978f04833", checked := Try.checked }
namespace Rows
def none {H : Type} : Left H := { results := [], args := [] }

/-- 'laws.FnSendNext': WHATEVER THE INPUT: true; the input reads as it did. -/
def fnSendNextSpec : ChangeSpec := { name := "fnSendNext", fn := fun _ => fun
  | [d] => { results := [.lit (.bool true)], args := [d] }
  | _ => none }
def fnSendNextRow : OpenClaim := { program := "ytpfeadjmmefbgaa", sum := "111670f9d1692479fd8fdfc596b3c868ffeae046ec563a55b82d0a1978f04833", func := "loop.example/telemetryagent/laws.FnSendNext", spec := "fnSendNext", apart := false }
def FnSendNextSaid : Prop := fnSendNextRow.holds Try.pinned (OpenSpec.ofChange fnSendNextSpec)

/-- ITS FALSE NEIGHBOUR: 'it returns false'. Refute it at one input. -/
def fnSendNextWrong : ChangeSpec := { name := "fnSendNext", fn := fun _ => fun
  | [d] => { results := [.lit (.bool false)], args := [d] }
  | _ => none }
def FnSendNextWrongFalsely : Prop := fnSendNextRow.holds Try.pinned (OpenSpec.ofChange fnSendNextWrong)

/-- 'laws.FnOpenBatches': WHATEVER THE INPUT: true; the input reads as it did. -/
def fnOpenBatchesSpec : ChangeSpec := { name := "fnOpenBatches", fn := fun _ => fun
  | [d] => { results := [.lit (.bool true)], args := [d] }
  | _ => none }
def fnOpenBatchesRow : OpenClaim := { program := "ytpfeadjmmefbgaa", sum := "111670f9d1692479fd8fdfc596b3c868ffeae046ec563a55b82d0a1978f04833", func := "loop.example/telemetryagent/laws.FnOpenBatches", spec := "fnOpenBatches", apart := false }
def FnOpenBatchesSaid : Prop := fnOpenBatchesRow.holds Try.pinned (OpenSpec.ofChange fnOpenBatchesSpec)

/-- ITS FALSE NEIGHBOUR: 'it returns false'. Refute it at one input. -/
def fnOpenBatchesWrong : ChangeSpec := { name := "fnOpenBatches", fn := fun _ => fun
  | [d] => { results := [.lit (.bool false)], args := [d] }
  | _ => none }
def FnOpenBatchesWrongFalsely : Prop := fnOpenBatchesRow.holds Try.pinned (OpenSpec.ofChange fnOpenBatchesWrong)

/-- 'laws.FnOpenBatchesAll': WHATEVER THE INPUT: true; the input reads as it did. -/
def fnOpenBatchesAllSpec : ChangeSpec := { name := "fnOpenBatchesAll", fn := fun _ => fun
  | [d] => { results := [.lit (.bool true)], args := [d] }
  | _ => none }
def fnOpenBatchesAllRow : OpenClaim := { program := "ytpfeadjmmefbgaa", sum := "111670f9d1692479fd8fdfc596b3c868ffeae046ec563a55b82d0a1978f04833", func := "loop.example/telemetryagent/laws.FnOpenBatchesAll", spec := "fnOpenBatchesAll", apart := false }
def FnOpenBatchesAllSaid : Prop := fnOpenBatchesAllRow.holds Try.pinned (OpenSpec.ofChange fnOpenBatchesAllSpec)

/-- ITS FALSE NEIGHBOUR: 'it returns false'. Refute it at one input. -/
def fnOpenBatchesAllWrong : ChangeSpec := { name := "fnOpenBatchesAll", fn := fun _ => fun
  | [d] => { results := [.lit (.bool false)], args := [d] }
  | _ => none }
def FnOpenBatchesAllWrongFalsely : Prop := fnOpenBatchesAllRow.holds Try.pinned (OpenSpec.ofChange fnOpenBatchesAllWrong)

/- THE SECOND FORM. 'bulk': how many values and letters a reading holds, each counted each time it is reached (what is shared counts as often as it is met; a slice's spare places count too). A statement '..UptoSaid' is the law's where the arguments, and the package variables that the reading takes, are together of bulk at most 1048576: NARROWER than '..Said'. Prove '..Said' where nothing that the law and all that it calls make is longer than what came in: it says more and counts as full. Else prove '..UptoSaid'. A law counts once. -/
mutual
def uptoBulk {H : Type} : DataW H → Nat
  | .lit (.string bytes) => bytes.length + 1
  | .lit _ => 1
  | .nil => 1
  | .ptr d => uptoBulk d + 1
  | .slice elems spare => uptoBulkAll elems + uptoBulkAll spare + 1
  | .agg parts => uptoBulkAll parts + 1
  | .iface _ d => uptoBulk d + 1
  | .map entries => uptoBulkEntries entries + 1
  | .held _ => 1
def uptoBulkAll {H : Type} : List (DataW H) → Nat
  | [] => 0
  | d :: r => uptoBulk d + uptoBulkAll r
def uptoBulkEntries {H : Type} : List (Lit × DataW H) → Nat
  | [] => 0
  | x :: r => uptoBulkEntry x + uptoBulkEntries r
def uptoBulkEntry {H : Type} : Lit × DataW H → Nat
  | (.string bytes, d) => bytes.length + uptoBulk d + 1
  | (_, d) => uptoBulk d + 1
 end
def uptoSmall : (H : Type) → List (DataW H) → Bool := fun _ ds => decide (uptoBulkAll ds ≤ 1048576)
def OpenSpec.upto (s : _root_.Go.ChangeSpec) : _root_.Go.OpenSpec := { _root_.Go.OpenSpec.ofChange s with cond := some uptoSmall }

/-- 'laws.FnSendNext', WHERE WHAT IT READS IS OF BULK AT MOST 1048576: true; the input reads as it did. -/
def fnSendNextUptoRow : OpenClaim := { program := "ytpfeadjmmefbgaa", sum := "111670f9d1692479fd8fdfc596b3c868ffeae046ec563a55b82d0a1978f04833", func := "loop.example/telemetryagent/laws.FnSendNext", spec := "fnSendNext", apart := false, narrowed := true }
def FnSendNextUptoSaid : Prop := fnSendNextUptoRow.holds Try.pinned (OpenSpec.upto fnSendNextSpec)

/-- 'laws.FnOpenBatches', WHERE WHAT IT READS IS OF BULK AT MOST 1048576: true; the input reads as it did. -/
def fnOpenBatchesUptoRow : OpenClaim := { program := "ytpfeadjmmefbgaa", sum := "111670f9d1692479fd8fdfc596b3c868ffeae046ec563a55b82d0a1978f04833", func := "loop.example/telemetryagent/laws.FnOpenBatches", spec := "fnOpenBatches", apart := false, narrowed := true }
def FnOpenBatchesUptoSaid : Prop := fnOpenBatchesUptoRow.holds Try.pinned (OpenSpec.upto fnOpenBatchesSpec)

/-- 'laws.FnOpenBatchesAll', WHERE WHAT IT READS IS OF BULK AT MOST 1048576: true; the input reads as it did. -/
def fnOpenBatchesAllUptoRow : OpenClaim := { program := "ytpfeadjmmefbgaa", sum := "111670f9d1692479fd8fdfc596b3c868ffeae046ec563a55b82d0a1978f04833", func := "loop.example/telemetryagent/laws.FnOpenBatchesAll", spec := "fnOpenBatchesAll", apart := false, narrowed := true }
def FnOpenBatchesAllUptoSaid : Prop := fnOpenBatchesAllUptoRow.holds Try.pinned (OpenSpec.upto fnOpenBatchesAllSpec)

end Rows
end Go.Proofs.Ytpfeadjmmefbgaa
