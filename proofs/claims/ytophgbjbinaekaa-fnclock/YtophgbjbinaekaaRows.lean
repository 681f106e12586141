/-
  No cell of these rows narrows 'for every input' (looked for: loops, veiled, ifaces, maps, wideKeys, modest, calm, conditions, laid).
  DERIVED. THE GIVEN ROWS OF THIS SEAT. 8 by the template 'for every input the law returns true; each argument reads behind the call as it read before'; 0 by the template 'total and deterministic' (their statements: YtophgbjbinaekaaTotals.lean).
  GIVEN WITH THE SEED: the statements are not yours to turn. If you find one false, say at which input.
  Laid BY PROGRAM, IN A SANDBOX (cutbox-rows.mjs): the forced cells as the released guide's own fill.sh prints them over the translation d442bd5e017b8a49… (all of the seat's roots in one cut). By AI agents, Wed Nov 11 2026. No macro, syntax, notation, axiom, sorry.
-/
import Derived.Test.YtophgbjbinaekaaChecked
import GoSem.Claim
import GoSem.ClaimJoined
import GoSem.ClaimMapViews
import Derived.JoinedTies
import Derived.KernelRfl
namespace Go.Proofs.Ytophgbjbinaekaa
/- THE CELL 'sum', in the pinned program and in every row, IS THE sha256 OF THE DUMP (.gsa) THAT YtophgbjbinaekaaProg.lean LOADS. Nothing in Lean hashes anything: it is a label: what it is worth is what the hold of that sum in a sandbox is worth. -/
noncomputable def Try.pinned : Pinned := { name := "ytophgbjbinaekaa", sum := "d442bd5e017b8a49edcd582069bfd70c028316b6ed676fcb1c06c48cb831b039", checked := Try.checked }
namespace Rows
def none {H : Type} : Left H := { results := [], args := [] }

/-- 'laws.FnClock': WHATEVER THE INPUT: true; the input reads as it did. -/
def fnClockSpec : ChangeSpec := { name := "fnClock", fn := fun _ => fun
  | [d1, d2] => { results := [.lit (.bool true)], args := [d1, d2] }
  | _ => none }
def fnClockRow : OpenClaim := { program := "ytophgbjbinaekaa", sum := "d442bd5e017b8a49edcd582069bfd70c028316b6ed676fcb1c06c48cb831b039", func := "loop.example/g00563/laws.FnClock", spec := "fnClock", recurses := true, apart := false }
def FnClockSaid : Prop := fnClockRow.holds Try.pinned (OpenSpec.ofChange fnClockSpec)

/-- ITS FALSE NEIGHBOUR: 'it returns false'. Refute it at one input. -/
def fnClockWrong : ChangeSpec := { name := "fnClock", fn := fun _ => fun
  | [d1, d2] => { results := [.lit (.bool false)], args := [d1, d2] }
  | _ => none }
def FnClockWrongFalsely : Prop := fnClockRow.holds Try.pinned (OpenSpec.ofChange fnClockWrong)

/-- 'laws.FnBcd': WHATEVER THE INPUT: true; the input reads as it did. -/
def fnBcdSpec : ChangeSpec := { name := "fnBcd", fn := fun _ => fun
  | [d] => { results := [.lit (.bool true)], args := [d] }
  | _ => none }
def fnBcdRow : OpenClaim := { program := "ytophgbjbinaekaa", sum := "d442bd5e017b8a49edcd582069bfd70c028316b6ed676fcb1c06c48cb831b039", func := "loop.example/g00563/laws.FnBcd", spec := "fnBcd", apart := false }
def FnBcdSaid : Prop := fnBcdRow.holds Try.pinned (OpenSpec.ofChange fnBcdSpec)

/-- ITS FALSE NEIGHBOUR: 'it returns false'. Refute it at one input. -/
def fnBcdWrong : ChangeSpec := { name := "fnBcd", fn := fun _ => fun
  | [d] => { results := [.lit (.bool false)], args := [d] }
  | _ => none }
def FnBcdWrongFalsely : Prop := fnBcdRow.holds Try.pinned (OpenSpec.ofChange fnBcdWrong)

/-- 'laws.FnExactRtcOK': WHATEVER THE INPUT: true; the input reads as it did. -/
def fnExactRtcOKSpec : ChangeSpec := { name := "fnExactRtcOK", fn := fun _ => fun
  | [d] => { results := [.lit (.bool true)], args := [d] }
  | _ => none }
def fnExactRtcOKRow : OpenClaim := { program := "ytophgbjbinaekaa", sum := "d442bd5e017b8a49edcd582069bfd70c028316b6ed676fcb1c06c48cb831b039", func := "loop.example/g00563/laws.FnExactRtcOK", spec := "fnExactRtcOK", apart := false }
def FnExactRtcOKSaid : Prop := fnExactRtcOKRow.holds Try.pinned (OpenSpec.ofChange fnExactRtcOKSpec)

/-- ITS FALSE NEIGHBOUR: 'it returns false'. Refute it at one input. -/
def fnExactRtcOKWrong : ChangeSpec := { name := "fnExactRtcOK", fn := fun _ => fun
  | [d] => { results := [.lit (.bool false)], args := [d] }
  | _ => none }
def FnExactRtcOKWrongFalsely : Prop := fnExactRtcOKRow.holds Try.pinned (OpenSpec.ofChange fnExactRtcOKWrong)

/-- 'laws.FnExactToBcd': WHATEVER THE INPUT: true; the input reads as it did. -/
def fnExactToBcdSpec : ChangeSpec := { name := "fnExactToBcd", fn := fun _ => fun
  | [d] => { results := [.lit (.bool true)], args := [d] }
  | _ => none }
def fnExactToBcdRow : OpenClaim := { program := "ytophgbjbinaekaa", sum := "d442bd5e017b8a49edcd582069bfd70c028316b6ed676fcb1c06c48cb831b039", func := "loop.example/g00563/laws.FnExactToBcd", spec := "fnExactToBcd", apart := false }
def FnExactToBcdSaid : Prop := fnExactToBcdRow.holds Try.pinned (OpenSpec.ofChange fnExactToBcdSpec)

/-- ITS FALSE NEIGHBOUR: 'it returns false'. Refute it at one input. -/
def fnExactToBcdWrong : ChangeSpec := { name := "fnExactToBcd", fn := fun _ => fun
  | [d] => { results := [.lit (.bool false)], args := [d] }
  | _ => none }
def FnExactToBcdWrongFalsely : Prop := fnExactToBcdRow.holds Try.pinned (OpenSpec.ofChange fnExactToBcdWrong)

/-- 'laws.FnExactFromBcd': WHATEVER THE INPUT: true; the input reads as it did. -/
def fnExactFromBcdSpec : ChangeSpec := { name := "fnExactFromBcd", fn := fun _ => fun
  | [d] => { results := [.lit (.bool true)], args := [d] }
  | _ => none }
def fnExactFromBcdRow : OpenClaim := { program := "ytophgbjbinaekaa", sum := "d442bd5e017b8a49edcd582069bfd70c028316b6ed676fcb1c06c48cb831b039", func := "loop.example/g00563/laws.FnExactFromBcd", spec := "fnExactFromBcd", apart := false }
def FnExactFromBcdSaid : Prop := fnExactFromBcdRow.holds Try.pinned (OpenSpec.ofChange fnExactFromBcdSpec)

/-- ITS FALSE NEIGHBOUR: 'it returns false'. Refute it at one input. -/
def fnExactFromBcdWrong : ChangeSpec := { name := "fnExactFromBcd", fn := fun _ => fun
  | [d] => { results := [.lit (.bool false)], args := [d] }
  | _ => none }
def FnExactFromBcdWrongFalsely : Prop := fnExactFromBcdRow.holds Try.pinned (OpenSpec.ofChange fnExactFromBcdWrong)

/-- 'laws.FnExactTickRtc': WHATEVER THE INPUT: true; the input reads as it did. -/
def fnExactTickRtcSpec : ChangeSpec := { name := "fnExactTickRtc", fn := fun _ => fun
  | [d] => { results := [.lit (.bool true)], args := [d] }
  | _ => none }
def fnExactTickRtcRow : OpenClaim := { program := "ytophgbjbinaekaa", sum := "d442bd5e017b8a49edcd582069bfd70c028316b6ed676fcb1c06c48cb831b039", func := "loop.example/g00563/laws.FnExactTickRtc", spec := "fnExactTickRtc", apart := false }
def FnExactTickRtcSaid : Prop := fnExactTickRtcRow.holds Try.pinned (OpenSpec.ofChange fnExactTickRtcSpec)

/-- ITS FALSE NEIGHBOUR: 'it returns false'. Refute it at one input. -/
def fnExactTickRtcWrong : ChangeSpec := { name := "fnExactTickRtc", fn := fun _ => fun
  | [d] => { results := [.lit (.bool false)], args := [d] }
  | _ => none }
def FnExactTickRtcWrongFalsely : Prop := fnExactTickRtcRow.holds Try.pinned (OpenSpec.ofChange fnExactTickRtcWrong)

/-- 'laws.FnExactSetAlarm': WHATEVER THE INPUT: true; the input reads as it did. -/
def fnExactSetAlarmSpec : ChangeSpec := { name := "fnExactSetAlarm", fn := fun _ => fun
  | [d1, d2, d3] => { results := [.lit (.bool true)], args := [d1, d2, d3] }
  | _ => none }
def fnExactSetAlarmRow : OpenClaim := { program := "ytophgbjbinaekaa", sum := "d442bd5e017b8a49edcd582069bfd70c028316b6ed676fcb1c06c48cb831b039", func := "loop.example/g00563/laws.FnExactSetAlarm", spec := "fnExactSetAlarm", apart := false }
def FnExactSetAlarmSaid : Prop := fnExactSetAlarmRow.holds Try.pinned (OpenSpec.ofChange fnExactSetAlarmSpec)

/-- ITS FALSE NEIGHBOUR: 'it returns false'. Refute it at one input. -/
def fnExactSetAlarmWrong : ChangeSpec := { name := "fnExactSetAlarm", fn := fun _ => fun
  | [d1, d2, d3] => { results := [.lit (.bool false)], args := [d1, d2, d3] }
  | _ => none }
def FnExactSetAlarmWrongFalsely : Prop := fnExactSetAlarmRow.holds Try.pinned (OpenSpec.ofChange fnExactSetAlarmWrong)

/-- 'laws.FnExactRtcText': WHATEVER THE INPUT: true; the input reads as it did. -/
def fnExactRtcTextSpec : ChangeSpec := { name := "fnExactRtcText", fn := fun _ => fun
  | [d] => { results := [.lit (.bool true)], args := [d] }
  | _ => none }
def fnExactRtcTextRow : OpenClaim := { program := "ytophgbjbinaekaa", sum := "d442bd5e017b8a49edcd582069bfd70c028316b6ed676fcb1c06c48cb831b039", func := "loop.example/g00563/laws.FnExactRtcText", spec := "fnExactRtcText", recurses := true, apart := false }
def FnExactRtcTextSaid : Prop := fnExactRtcTextRow.holds Try.pinned (OpenSpec.ofChange fnExactRtcTextSpec)

/-- ITS FALSE NEIGHBOUR: 'it returns false'. Refute it at one input. -/
def fnExactRtcTextWrong : ChangeSpec := { name := "fnExactRtcText", fn := fun _ => fun
  | [d] => { results := [.lit (.bool false)], args := [d] }
  | _ => none }
def FnExactRtcTextWrongFalsely : Prop := fnExactRtcTextRow.holds Try.pinned (OpenSpec.ofChange fnExactRtcTextWrong)

/- THE SECOND FORM. 'bulk': how many values and letters a reading holds, each counted each time it is reached (what is shared counts as often as it is met; a slice's spare places count too). A statement '..UptoSaid' is the law's where the arguments, and the package variables that the reading takes, are together of bulk at most 1048576: NARROWER than '..Said'. Prove '..Said' where nothing that the law and all that it calls make is longer than what came in: it says more and counts as full. Else prove '..UptoSaid'. A law counts once. -/
mutual
def uptoBulk {H : Type} : DataW H → Nat
  | .lit (.string bytes) => bytes.length + 1
  | .lit _ => 1
  | .nil => 1
  | .ptr d => uptoBulk d + 1
  | .slice elems spare => uptoBulkAll elems + uptoBulkAll spare + 1
  | .agg parts => uptoBulkAll parts + 1
  | .iface _ d => uptoBulk d + 1
  | .map entries => uptoBulkEntries entries + 1
  | .held _ => 1
def uptoBulkAll {H : Type} : List (DataW H) → Nat
  | [] => 0
  | d :: r => uptoBulk d + uptoBulkAll r
def uptoBulkEntries {H : Type} : List (Lit × DataW H) → Nat
  | [] => 0
  | x :: r => uptoBulkEntry x + uptoBulkEntries r
def uptoBulkEntry {H : Type} : Lit × DataW H → Nat
  | (.string bytes, d) => bytes.length + uptoBulk d + 1
  | (_, d) => uptoBulk d + 1
 end
def uptoSmall : (H : Type) → List (DataW H) → Bool := fun _ ds => decide (uptoBulkAll ds ≤ 1048576)
def OpenSpec.upto (s : _root_.Go.ChangeSpec) : _root_.Go.OpenSpec := { _root_.Go.OpenSpec.ofChange s with cond := some uptoSmall }

/-- 'laws.FnClock', WHERE WHAT IT READS IS OF BULK AT MOST 1048576: true; the input reads as it did. -/
def fnClockUptoRow : OpenClaim := { program := "ytophgbjbinaekaa", sum := "d442bd5e017b8a49edcd582069bfd70c028316b6ed676fcb1c06c48cb831b039", func := "loop.example/g00563/laws.FnClock", spec := "fnClock", recurses := true, apart := false, narrowed := true }
def FnClockUptoSaid : Prop := fnClockUptoRow.holds Try.pinned (OpenSpec.upto fnClockSpec)

/-- 'laws.FnBcd', WHERE WHAT IT READS IS OF BULK AT MOST 1048576: true; the input reads as it did. -/
def fnBcdUptoRow : OpenClaim := { program := "ytophgbjbinaekaa", sum := "d442bd5e017b8a49edcd582069bfd70c028316b6ed676fcb1c06c48cb831b039", func := "loop.example/g00563/laws.FnBcd", spec := "fnBcd", apart := false, narrowed := true }
def FnBcdUptoSaid : Prop := fnBcdUptoRow.holds Try.pinned (OpenSpec.upto fnBcdSpec)

/-- 'laws.FnExactRtcOK', WHERE WHAT IT READS IS OF BULK AT MOST 1048576: true; the input reads as it did. -/
def fnExactRtcOKUptoRow : OpenClaim := { program := "ytophgbjbinaekaa", sum := "d442bd5e017b8a49edcd582069bfd70c028316b6ed676fcb1c06c48cb831b039", func := "loop.example/g00563/laws.FnExactRtcOK", spec := "fnExactRtcOK", apart := false, narrowed := true }
def FnExactRtcOKUptoSaid : Prop := fnExactRtcOKUptoRow.holds Try.pinned (OpenSpec.upto fnExactRtcOKSpec)

/-- 'laws.FnExactToBcd', WHERE WHAT IT READS IS OF BULK AT MOST 1048576: true; the input reads as it did. -/
def fnExactToBcdUptoRow : OpenClaim := { program := "ytophgbjbinaekaa", sum := "d442bd5e017b8a49edcd582069bfd70c028316b6ed676fcb1c06c48cb831b039", func := "loop.example/g00563/laws.FnExactToBcd", spec := "fnExactToBcd", apart := false, narrowed := true }
def FnExactToBcdUptoSaid : Prop := fnExactToBcdUptoRow.holds Try.pinned (OpenSpec.upto fnExactToBcdSpec)

/-- 'laws.FnExactFromBcd', WHERE WHAT IT READS IS OF BULK AT MOST 1048576: true; the input reads as it did. -/
def fnExactFromBcdUptoRow : OpenClaim := { program := "ytophgbjbinaekaa", sum := "d442bd5e017b8a49edcd582069bfd70c028316b6ed676fcb1c06c48cb831b039", func := "loop.example/g00563/laws.FnExactFromBcd", spec := "fnExactFromBcd", apart := false, narrowed := true }
def FnExactFromBcdUptoSaid : Prop := fnExactFromBcdUptoRow.holds Try.pinned (OpenSpec.upto fnExactFromBcdSpec)

/-- 'laws.FnExactTickRtc', WHERE WHAT IT READS IS OF BULK AT MOST 1048576: true; the input reads as it did. -/
def fnExactTickRtcUptoRow : OpenClaim := { program := "ytophgbjbinaekaa", sum := "d442bd5e017b8a49edcd582069bfd70c028316b6ed676fcb1c06c48cb831b039", func := "loop.example/g00563/laws.FnExactTickRtc", spec := "fnExactTickRtc", apart := false, narrowed := true }
def FnExactTickRtcUptoSaid : Prop := fnExactTickRtcUptoRow.holds Try.pinned (OpenSpec.upto fnExactTickRtcSpec)

/-- 'laws.FnExactSetAlarm', WHERE WHAT IT READS IS OF BULK AT MOST 1048576: true; the input reads as it did. -/
def fnExactSetAlarmUptoRow : OpenClaim := { program := "ytophgbjbinaekaa", sum := "d442bd5e017b8a49edcd582069bfd70c028316b6ed676fcb1c06c48cb831b039", func := "loop.example/g00563/laws.FnExactSetAlarm", spec := "fnExactSetAlarm", apart := false, narrowed := true }
def FnExactSetAlarmUptoSaid : Prop := fnExactSetAlarmUptoRow.holds Try.pinned (OpenSpec.upto fnExactSetAlarmSpec)

/-- 'laws.FnExactRtcText', WHERE WHAT IT READS IS OF BULK AT MOST 1048576: true; the input reads as it did. -/
def fnExactRtcTextUptoRow : OpenClaim := { program := "ytophgbjbinaekaa", sum := "d442bd5e017b8a49edcd582069bfd70c028316b6ed676fcb1c06c48cb831b039", func := "loop.example/g00563/laws.FnExactRtcText", spec := "fnExactRtcText", recurses := true, apart := false, narrowed := true }
def FnExactRtcTextUptoSaid : Prop := fnExactRtcTextUptoRow.holds Try.pinned (OpenSpec.upto fnExactRtcTextSpec)

end Rows
end Go.Proofs.Ytophgbjbinaekaa
