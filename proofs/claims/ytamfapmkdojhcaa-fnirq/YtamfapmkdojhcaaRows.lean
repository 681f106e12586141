/-
  No cell of these rows narrows 'for every input' (looked for: loops, veiled, ifaces, maps, wideKeys, modest, calm, conditions, laid).
  DERIVED. THE GIVEN ROWS OF THIS SEAT. 7 by the template 'for every input the law returns true; each argument reads behind the call as it read before'; 0 by the template 'total and deterministic' (their statements: YtamfapmkdojhcaaTotals.lean).
  GIVEN WITH THE SEED: the statements are not yours to turn. If you find one false, say at which input.
  Laid BY PROGRAM, IN A SANDBOX (cutbox-rows.mjs): the forced cells as the released guide's own fill.sh prints them over the translation 83385fe35c8bcc2d… (all of the seat's roots in one cut). By AI agents, Wed Nov 11 2026. No macro, syntax, notation, axiom, sorry.
-/
import Derived.Test.YtamfapmkdojhcaaChecked
import GoSem.Claim
import GoSem.ClaimJoined
import GoSem.ClaimMapViews
import Derived.JoinedTies
import Derived.KernelRfl
namespace Go.Proofs.Ytamfapmkdojhcaa
/- THE CELL 'sum', in the pinned program and in every row, IS THE sha256 OF THE DUMP (.gsa) THAT YtamfapmkdojhcaaProg.lean LOADS. Nothing in Lean hashes anything: it is a label: what it is worth is what the hold of that sum in a sandbox is worth. -/
noncomputable def Try.pinned : Pinned := { name := "ytamfapmkdojhcaa", sum := "83385fe35c8bcc2d4524ca79edfb2c0767071d40263b36434bc484913756a342", checked := Try.checked }
namespace Rows
def none {H : Type} : Left H := { results := [], args := [] }

/-- 'laws.FnIrq': WHATEVER THE INPUT: true; the input reads as it did. -/
def fnIrqSpec : ChangeSpec := { name := "fnIrq", fn := fun _ => fun
  | [d1, d2] => { results := [.lit (.bool true)], args := [d1, d2] }
  | _ => none }
def fnIrqRow : OpenClaim := { program := "ytamfapmkdojhcaa", sum := "83385fe35c8bcc2d4524ca79edfb2c0767071d40263b36434bc484913756a342", func := "loop.example/g00563/laws.FnIrq", spec := "fnIrq", apart := false }
def FnIrqSaid : Prop := fnIrqRow.holds Try.pinned (OpenSpec.ofChange fnIrqSpec)

/-- ITS FALSE NEIGHBOUR: 'it returns false'. Refute it at one input. -/
def fnIrqWrong : ChangeSpec := { name := "fnIrq", fn := fun _ => fun
  | [d1, d2] => { results := [.lit (.bool false)], args := [d1, d2] }
  | _ => none }
def FnIrqWrongFalsely : Prop := fnIrqRow.holds Try.pinned (OpenSpec.ofChange fnIrqWrong)

/-- 'laws.FnExactNewIrq': WHATEVER THE INPUT: true; the input reads as it did. -/
def fnExactNewIrqSpec : ChangeSpec := { name := "fnExactNewIrq", fn := fun _ => fun
  | [] => { results := [.lit (.bool true)], args := [] }
  | _ => none }
def fnExactNewIrqRow : OpenClaim := { program := "ytamfapmkdojhcaa", sum := "83385fe35c8bcc2d4524ca79edfb2c0767071d40263b36434bc484913756a342", func := "loop.example/g00563/laws.FnExactNewIrq", spec := "fnExactNewIrq", apart := false }
def FnExactNewIrqSaid : Prop := fnExactNewIrqRow.holds Try.pinned (OpenSpec.ofChange fnExactNewIrqSpec)

/-- ITS FALSE NEIGHBOUR: 'it returns false'. Refute it at one input. -/
def fnExactNewIrqWrong : ChangeSpec := { name := "fnExactNewIrq", fn := fun _ => fun
  | [] => { results := [.lit (.bool false)], args := [] }
  | _ => none }
def FnExactNewIrqWrongFalsely : Prop := fnExactNewIrqRow.holds Try.pinned (OpenSpec.ofChange fnExactNewIrqWrong)

/-- 'laws.FnExactIrqOK': WHATEVER THE INPUT: true; the input reads as it did. -/
def fnExactIrqOKSpec : ChangeSpec := { name := "fnExactIrqOK", fn := fun _ => fun
  | [d] => { results := [.lit (.bool true)], args := [d] }
  | _ => none }
def fnExactIrqOKRow : OpenClaim := { program := "ytamfapmkdojhcaa", sum := "83385fe35c8bcc2d4524ca79edfb2c0767071d40263b36434bc484913756a342", func := "loop.example/g00563/laws.FnExactIrqOK", spec := "fnExactIrqOK", apart := false }
def FnExactIrqOKSaid : Prop := fnExactIrqOKRow.holds Try.pinned (OpenSpec.ofChange fnExactIrqOKSpec)

/-- ITS FALSE NEIGHBOUR: 'it returns false'. Refute it at one input. -/
def fnExactIrqOKWrong : ChangeSpec := { name := "fnExactIrqOK", fn := fun _ => fun
  | [d] => { results := [.lit (.bool false)], args := [d] }
  | _ => none }
def FnExactIrqOKWrongFalsely : Prop := fnExactIrqOKRow.holds Try.pinned (OpenSpec.ofChange fnExactIrqOKWrong)

/-- 'laws.FnExactSetLevel': WHATEVER THE INPUT: true; the input reads as it did. -/
def fnExactSetLevelSpec : ChangeSpec := { name := "fnExactSetLevel", fn := fun _ => fun
  | [d1, d2, d3] => { results := [.lit (.bool true)], args := [d1, d2, d3] }
  | _ => none }
def fnExactSetLevelRow : OpenClaim := { program := "ytamfapmkdojhcaa", sum := "83385fe35c8bcc2d4524ca79edfb2c0767071d40263b36434bc484913756a342", func := "loop.example/g00563/laws.FnExactSetLevel", spec := "fnExactSetLevel", apart := false }
def FnExactSetLevelSaid : Prop := fnExactSetLevelRow.holds Try.pinned (OpenSpec.ofChange fnExactSetLevelSpec)

/-- ITS FALSE NEIGHBOUR: 'it returns false'. Refute it at one input. -/
def fnExactSetLevelWrong : ChangeSpec := { name := "fnExactSetLevel", fn := fun _ => fun
  | [d1, d2, d3] => { results := [.lit (.bool false)], args := [d1, d2, d3] }
  | _ => none }
def FnExactSetLevelWrongFalsely : Prop := fnExactSetLevelRow.holds Try.pinned (OpenSpec.ofChange fnExactSetLevelWrong)

/-- 'laws.FnExactRaise': WHATEVER THE INPUT: true; the input reads as it did. -/
def fnExactRaiseSpec : ChangeSpec := { name := "fnExactRaise", fn := fun _ => fun
  | [d1, d2] => { results := [.lit (.bool true)], args := [d1, d2] }
  | _ => none }
def fnExactRaiseRow : OpenClaim := { program := "ytamfapmkdojhcaa", sum := "83385fe35c8bcc2d4524ca79edfb2c0767071d40263b36434bc484913756a342", func := "loop.example/g00563/laws.FnExactRaise", spec := "fnExactRaise", apart := false }
def FnExactRaiseSaid : Prop := fnExactRaiseRow.holds Try.pinned (OpenSpec.ofChange fnExactRaiseSpec)

/-- ITS FALSE NEIGHBOUR: 'it returns false'. Refute it at one input. -/
def fnExactRaiseWrong : ChangeSpec := { name := "fnExactRaise", fn := fun _ => fun
  | [d1, d2] => { results := [.lit (.bool false)], args := [d1, d2] }
  | _ => none }
def FnExactRaiseWrongFalsely : Prop := fnExactRaiseRow.holds Try.pinned (OpenSpec.ofChange fnExactRaiseWrong)

/-- 'laws.FnExactAck': WHATEVER THE INPUT: true; the input reads as it did. -/
def fnExactAckSpec : ChangeSpec := { name := "fnExactAck", fn := fun _ => fun
  | [d1, d2] => { results := [.lit (.bool true)], args := [d1, d2] }
  | _ => none }
def fnExactAckRow : OpenClaim := { program := "ytamfapmkdojhcaa", sum := "83385fe35c8bcc2d4524ca79edfb2c0767071d40263b36434bc484913756a342", func := "loop.example/g00563/laws.FnExactAck", spec := "fnExactAck", apart := false }
def FnExactAckSaid : Prop := fnExactAckRow.holds Try.pinned (OpenSpec.ofChange fnExactAckSpec)

/-- ITS FALSE NEIGHBOUR: 'it returns false'. Refute it at one input. -/
def fnExactAckWrong : ChangeSpec := { name := "fnExactAck", fn := fun _ => fun
  | [d1, d2] => { results := [.lit (.bool false)], args := [d1, d2] }
  | _ => none }
def FnExactAckWrongFalsely : Prop := fnExactAckRow.holds Try.pinned (OpenSpec.ofChange fnExactAckWrong)

/-- 'laws.FnExactNextIrq': WHATEVER THE INPUT: true; the input reads as it did. -/
def fnExactNextIrqSpec : ChangeSpec := { name := "fnExactNextIrq", fn := fun _ => fun
  | [d1, d2] => { results := [.lit (.bool true)], args := [d1, d2] }
  | _ => none }
def fnExactNextIrqRow : OpenClaim := { program := "ytamfapmkdojhcaa", sum := "83385fe35c8bcc2d4524ca79edfb2c0767071d40263b36434bc484913756a342", func := "loop.example/g00563/laws.FnExactNextIrq", spec := "fnExactNextIrq", apart := false }
def FnExactNextIrqSaid : Prop := fnExactNextIrqRow.holds Try.pinned (OpenSpec.ofChange fnExactNextIrqSpec)

/-- ITS FALSE NEIGHBOUR: 'it returns false'. Refute it at one input. -/
def fnExactNextIrqWrong : ChangeSpec := { name := "fnExactNextIrq", fn := fun _ => fun
  | [d1, d2] => { results := [.lit (.bool false)], args := [d1, d2] }
  | _ => none }
def FnExactNextIrqWrongFalsely : Prop := fnExactNextIrqRow.holds Try.pinned (OpenSpec.ofChange fnExactNextIrqWrong)

/- THE SECOND FORM. 'bulk': how many values and letters a reading holds, each counted each time it is reached (what is shared counts as often as it is met; a slice's spare places count too). A statement '..UptoSaid' is the law's where the arguments, and the package variables that the reading takes, are together of bulk at most 1048576: NARROWER than '..Said'. Prove '..Said' where nothing that the law and all that it calls make is longer than what came in: it says more and counts as full. Else prove '..UptoSaid'. A law counts once. -/
mutual
def uptoBulk {H : Type} : DataW H → Nat
  | .lit (.string bytes) => bytes.length + 1
  | .lit _ => 1
  | .nil => 1
  | .ptr d => uptoBulk d + 1
  | .slice elems spare => uptoBulkAll elems + uptoBulkAll spare + 1
  | .agg parts => uptoBulkAll parts + 1
  | .iface _ d => uptoBulk d + 1
  | .map entries => uptoBulkEntries entries + 1
  | .held _ => 1
def uptoBulkAll {H : Type} : List (DataW H) → Nat
  | [] => 0
  | d :: r => uptoBulk d + uptoBulkAll r
def uptoBulkEntries {H : Type} : List (Lit × DataW H) → Nat
  | [] => 0
  | x :: r => uptoBulkEntry x + uptoBulkEntries r
def uptoBulkEntry {H : Type} : Lit × DataW H → Nat
  | (.string bytes, d) => bytes.length + uptoBulk d + 1
  | (_, d) => uptoBulk d + 1
 end
def uptoSmall : (H : Type) → List (DataW H) → Bool := fun _ ds => decide (uptoBulkAll ds ≤ 1048576)
def OpenSpec.upto (s : _root_.Go.ChangeSpec) : _root_.Go.OpenSpec := { _root_.Go.OpenSpec.ofChange s with cond := some uptoSmall }

/-- 'laws.FnIrq', WHERE WHAT IT READS IS OF BULK AT MOST 1048576: true; the input reads as it did. -/
def fnIrqUptoRow : OpenClaim := { program := "ytamfapmkdojhcaa", sum := "83385fe35c8bcc2d4524ca79edfb2c0767071d40263b36434bc484913756a342", func := "loop.example/g00563/laws.FnIrq", spec := "fnIrq", apart := false, narrowed := true }
def FnIrqUptoSaid : Prop := fnIrqUptoRow.holds Try.pinned (OpenSpec.upto fnIrqSpec)

/-- 'laws.FnExactNewIrq', WHERE WHAT IT READS IS OF BULK AT MOST 1048576: true; the input reads as it did. -/
def fnExactNewIrqUptoRow : OpenClaim := { program := "ytamfapmkdojhcaa", sum := "83385fe35c8bcc2d4524ca79edfb2c0767071d40263b36434bc484913756a342", func := "loop.example/g00563/laws.FnExactNewIrq", spec := "fnExactNewIrq", apart := false, narrowed := true }
def FnExactNewIrqUptoSaid : Prop := fnExactNewIrqUptoRow.holds Try.pinned (OpenSpec.upto fnExactNewIrqSpec)

/-- 'laws.FnExactIrqOK', WHERE WHAT IT READS IS OF BULK AT MOST 1048576: true; the input reads as it did. -/
def fnExactIrqOKUptoRow : OpenClaim := { program := "ytamfapmkdojhcaa", sum := "83385fe35c8bcc2d4524ca79edfb2c0767071d40263b36434bc484913756a342", func := "loop.example/g00563/laws.FnExactIrqOK", spec := "fnExactIrqOK", apart := false, narrowed := true }
def FnExactIrqOKUptoSaid : Prop := fnExactIrqOKUptoRow.holds Try.pinned (OpenSpec.upto fnExactIrqOKSpec)

/-- 'laws.FnExactSetLevel', WHERE WHAT IT READS IS OF BULK AT MOST 1048576: true; the input reads as it did. -/
def fnExactSetLevelUptoRow : OpenClaim := { program := "ytamfapmkdojhcaa", sum := "83385fe35c8bcc2d4524ca79edfb2c0767071d40263b36434bc484913756a342", func := "loop.example/g00563/laws.FnExactSetLevel", spec := "fnExactSetLevel", apart := false, narrowed := true }
def FnExactSetLevelUptoSaid : Prop := fnExactSetLevelUptoRow.holds Try.pinned (OpenSpec.upto fnExactSetLevelSpec)

/-- 'laws.FnExactRaise', WHERE WHAT IT READS IS OF BULK AT MOST 1048576: true; the input reads as it did. -/
def fnExactRaiseUptoRow : OpenClaim := { program := "ytamfapmkdojhcaa", sum := "83385fe35c8bcc2d4524ca79edfb2c0767071d40263b36434bc484913756a342", func := "loop.example/g00563/laws.FnExactRaise", spec := "fnExactRaise", apart := false, narrowed := true }
def FnExactRaiseUptoSaid : Prop := fnExactRaiseUptoRow.holds Try.pinned (OpenSpec.upto fnExactRaiseSpec)

/-- 'laws.FnExactAck', WHERE WHAT IT READS IS OF BULK AT MOST 1048576: true; the input reads as it did. -/
def fnExactAckUptoRow : OpenClaim := { program := "ytamfapmkdojhcaa", sum := "83385fe35c8bcc2d4524ca79edfb2c0767071d40263b36434bc484913756a342", func := "loop.example/g00563/laws.FnExactAck", spec := "fnExactAck", apart := false, narrowed := true }
def FnExactAckUptoSaid : Prop := fnExactAckUptoRow.holds Try.pinned (OpenSpec.upto fnExactAckSpec)

/-- 'laws.FnExactNextIrq', WHERE WHAT IT READS IS OF BULK AT MOST 1048576: true; the input reads as it did. -/
def fnExactNextIrqUptoRow : OpenClaim := { program := "ytamfapmkdojhcaa", sum := "83385fe35c8bcc2d4524ca79edfb2c0767071d40263b36434bc484913756a342", func := "loop.example/g00563/laws.FnExactNextIrq", spec := "fnExactNextIrq", apart := false, narrowed := true }
def FnExactNextIrqUptoSaid : Prop := fnExactNextIrqUptoRow.holds Try.pinned (OpenSpec.upto fnExactNextIrqSpec)

end Rows
end Go.Proofs.Ytamfapmkdojhcaa
