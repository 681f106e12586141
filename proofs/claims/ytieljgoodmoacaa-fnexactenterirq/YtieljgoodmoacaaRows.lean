/-
  No cell of these rows narrows 'for every input' (looked for: loops, veiled, ifaces, maps, wideKeys, modest, calm, conditions, laid).
  DERIVED. THE GIVEN ROWS OF THIS SEAT. 5 by the template 'for every input the law returns true; each argument reads behind the call as it read before'; 0 by the template 'total and deterministic' (their statements: YtieljgoodmoacaaTotals.lean).
  GIVEN WITH THE SEED: the statements are not yours to turn. If you find one false, say at which input.
  Laid BY PROGRAM, IN A SANDBOX (cutbox-rows.mjs): the forced cells as the released guide's own fill.sh prints them over the translation a72aafe70dbfcd21… (all of the seat's roots in one cut). By AI agents, Wed Nov 11 2026. No macro, syntax, notation, axiom, sorry.
-/
import Derived.Test.YtieljgoodmoacaaChecked
import GoSem.Claim
import GoSem.ClaimJoined
import GoSem.ClaimMapViews
import Derived.JoinedTies
import Derived.KernelRfl
namespace Go.Proofs.Ytieljgoodmoacaa
/- THE CELL 'sum', in the pinned program and in every row, IS THE sha256 OF THE DUMP (.gsa) THAT YtieljgoodmoacaaProg.lean LOADS. Nothing in Lean hashes anything: it is a label: what it is worth is what the hold of that sum in a sandbox is worth. -/
noncomputable def Try.pinned : Pinned := { name := "ytieljgoodmoacaa", sum := "a72aafe70dbfcd219393687c29d18f81a334daa480b83a5bd69dcd9215c07b0a", checked := Try.checked }
namespace Rows
def none {H : Type} : Left H := { results := [], args := [] }

/-- 'laws.FnExactNewCpu': WHATEVER THE INPUT: true; the input reads as it did. -/
def fnExactNewCpuSpec : ChangeSpec := { name := "fnExactNewCpu", fn := fun _ => fun
  | [] => { results := [.lit (.bool true)], args := [] }
  | _ => none }
def fnExactNewCpuRow : OpenClaim := { program := "ytieljgoodmoacaa", sum := "a72aafe70dbfcd219393687c29d18f81a334daa480b83a5bd69dcd9215c07b0a", func := "loop.example/g00563/laws.FnExactNewCpu", spec := "fnExactNewCpu", apart := false }
def FnExactNewCpuSaid : Prop := fnExactNewCpuRow.holds Try.pinned (OpenSpec.ofChange fnExactNewCpuSpec)

/-- ITS FALSE NEIGHBOUR: 'it returns false'. Refute it at one input. -/
def fnExactNewCpuWrong : ChangeSpec := { name := "fnExactNewCpu", fn := fun _ => fun
  | [] => { results := [.lit (.bool false)], args := [] }
  | _ => none }
def FnExactNewCpuWrongFalsely : Prop := fnExactNewCpuRow.holds Try.pinned (OpenSpec.ofChange fnExactNewCpuWrong)

/-- 'laws.FnExactCpuOK': WHATEVER THE INPUT: true; the input reads as it did. -/
def fnExactCpuOKSpec : ChangeSpec := { name := "fnExactCpuOK", fn := fun _ => fun
  | [d] => { results := [.lit (.bool true)], args := [d] }
  | _ => none }
def fnExactCpuOKRow : OpenClaim := { program := "ytieljgoodmoacaa", sum := "a72aafe70dbfcd219393687c29d18f81a334daa480b83a5bd69dcd9215c07b0a", func := "loop.example/g00563/laws.FnExactCpuOK", spec := "fnExactCpuOK", apart := false }
def FnExactCpuOKSaid : Prop := fnExactCpuOKRow.holds Try.pinned (OpenSpec.ofChange fnExactCpuOKSpec)

/-- ITS FALSE NEIGHBOUR: 'it returns false'. Refute it at one input. -/
def fnExactCpuOKWrong : ChangeSpec := { name := "fnExactCpuOK", fn := fun _ => fun
  | [d] => { results := [.lit (.bool false)], args := [d] }
  | _ => none }
def FnExactCpuOKWrongFalsely : Prop := fnExactCpuOKRow.holds Try.pinned (OpenSpec.ofChange fnExactCpuOKWrong)

/-- 'laws.FnExactRegAt': WHATEVER THE INPUT: true; the input reads as it did. -/
def fnExactRegAtSpec : ChangeSpec := { name := "fnExactRegAt", fn := fun _ => fun
  | [d1, d2] => { results := [.lit (.bool true)], args := [d1, d2] }
  | _ => none }
def fnExactRegAtRow : OpenClaim := { program := "ytieljgoodmoacaa", sum := "a72aafe70dbfcd219393687c29d18f81a334daa480b83a5bd69dcd9215c07b0a", func := "loop.example/g00563/laws.FnExactRegAt", spec := "fnExactRegAt", apart := false }
def FnExactRegAtSaid : Prop := fnExactRegAtRow.holds Try.pinned (OpenSpec.ofChange fnExactRegAtSpec)

/-- ITS FALSE NEIGHBOUR: 'it returns false'. Refute it at one input. -/
def fnExactRegAtWrong : ChangeSpec := { name := "fnExactRegAt", fn := fun _ => fun
  | [d1, d2] => { results := [.lit (.bool false)], args := [d1, d2] }
  | _ => none }
def FnExactRegAtWrongFalsely : Prop := fnExactRegAtRow.holds Try.pinned (OpenSpec.ofChange fnExactRegAtWrong)

/-- 'laws.FnExactEnterIrq': WHATEVER THE INPUT: true; the input reads as it did. -/
def fnExactEnterIrqSpec : ChangeSpec := { name := "fnExactEnterIrq", fn := fun _ => fun
  | [d1, d2, d3, d4] => { results := [.lit (.bool true)], args := [d1, d2, d3, d4] }
  | _ => none }
def fnExactEnterIrqRow : OpenClaim := { program := "ytieljgoodmoacaa", sum := "a72aafe70dbfcd219393687c29d18f81a334daa480b83a5bd69dcd9215c07b0a", func := "loop.example/g00563/laws.FnExactEnterIrq", spec := "fnExactEnterIrq", unfollowed := true, recurses := true, apart := false }
def FnExactEnterIrqSaid : Prop := fnExactEnterIrqRow.holds Try.pinned (OpenSpec.ofChange fnExactEnterIrqSpec)

/-- ITS FALSE NEIGHBOUR: 'it returns false'. Refute it at one input. -/
def fnExactEnterIrqWrong : ChangeSpec := { name := "fnExactEnterIrq", fn := fun _ => fun
  | [d1, d2, d3, d4] => { results := [.lit (.bool false)], args := [d1, d2, d3, d4] }
  | _ => none }
def FnExactEnterIrqWrongFalsely : Prop := fnExactEnterIrqRow.holds Try.pinned (OpenSpec.ofChange fnExactEnterIrqWrong)

/-- 'laws.FnExactSameCpu': WHATEVER THE INPUT: true; the input reads as it did. -/
def fnExactSameCpuSpec : ChangeSpec := { name := "fnExactSameCpu", fn := fun _ => fun
  | [d1, d2] => { results := [.lit (.bool true)], args := [d1, d2] }
  | _ => none }
def fnExactSameCpuRow : OpenClaim := { program := "ytieljgoodmoacaa", sum := "a72aafe70dbfcd219393687c29d18f81a334daa480b83a5bd69dcd9215c07b0a", func := "loop.example/g00563/laws.FnExactSameCpu", spec := "fnExactSameCpu", apart := false }
def FnExactSameCpuSaid : Prop := fnExactSameCpuRow.holds Try.pinned (OpenSpec.ofChange fnExactSameCpuSpec)

/-- ITS FALSE NEIGHBOUR: 'it returns false'. Refute it at one input. -/
def fnExactSameCpuWrong : ChangeSpec := { name := "fnExactSameCpu", fn := fun _ => fun
  | [d1, d2] => { results := [.lit (.bool false)], args := [d1, d2] }
  | _ => none }
def FnExactSameCpuWrongFalsely : Prop := fnExactSameCpuRow.holds Try.pinned (OpenSpec.ofChange fnExactSameCpuWrong)

/- THE SECOND FORM. 'bulk': how many values and letters a reading holds, each counted each time it is reached (what is shared counts as often as it is met; a slice's spare places count too). A statement '..UptoSaid' is the law's where the arguments, and the package variables that the reading takes, are together of bulk at most 1048576: NARROWER than '..Said'. Prove '..Said' where nothing that the law and all that it calls make is longer than what came in: it says more and counts as full. Else prove '..UptoSaid'. A law counts once. -/
mutual
def uptoBulk {H : Type} : DataW H → Nat
  | .lit (.string bytes) => bytes.length + 1
  | .lit _ => 1
  | .nil => 1
  | .ptr d => uptoBulk d + 1
  | .slice elems spare => uptoBulkAll elems + uptoBulkAll spare + 1
  | .agg parts => uptoBulkAll parts + 1
  | .iface _ d => uptoBulk d + 1
  | .map entries => uptoBulkEntries entries + 1
  | .held _ => 1
def uptoBulkAll {H : Type} : List (DataW H) → Nat
  | [] => 0
  | d :: r => uptoBulk d + uptoBulkAll r
def uptoBulkEntries {H : Type} : List (Lit × DataW H) → Nat
  | [] => 0
  | x :: r => uptoBulkEntry x + uptoBulkEntries r
def uptoBulkEntry {H : Type} : Lit × DataW H → Nat
  | (.string bytes, d) => bytes.length + uptoBulk d + 1
  | (_, d) => uptoBulk d + 1
 end
def uptoSmall : (H : Type) → List (DataW H) → Bool := fun _ ds => decide (uptoBulkAll ds ≤ 1048576)
def OpenSpec.upto (s : _root_.Go.ChangeSpec) : _root_.Go.OpenSpec := { _root_.Go.OpenSpec.ofChange s with cond := some uptoSmall }

/-- 'laws.FnExactNewCpu', WHERE WHAT IT READS IS OF BULK AT MOST 1048576: true; the input reads as it did. -/
def fnExactNewCpuUptoRow : OpenClaim := { program := "ytieljgoodmoacaa", sum := "a72aafe70dbfcd219393687c29d18f81a334daa480b83a5bd69dcd9215c07b0a", func := "loop.example/g00563/laws.FnExactNewCpu", spec := "fnExactNewCpu", apart := false, narrowed := true }
def FnExactNewCpuUptoSaid : Prop := fnExactNewCpuUptoRow.holds Try.pinned (OpenSpec.upto fnExactNewCpuSpec)

/-- 'laws.FnExactCpuOK', WHERE WHAT IT READS IS OF BULK AT MOST 1048576: true; the input reads as it did. -/
def fnExactCpuOKUptoRow : OpenClaim := { program := "ytieljgoodmoacaa", sum := "a72aafe70dbfcd219393687c29d18f81a334daa480b83a5bd69dcd9215c07b0a", func := "loop.example/g00563/laws.FnExactCpuOK", spec := "fnExactCpuOK", apart := false, narrowed := true }
def FnExactCpuOKUptoSaid : Prop := fnExactCpuOKUptoRow.holds Try.pinned (OpenSpec.upto fnExactCpuOKSpec)

/-- 'laws.FnExactRegAt', WHERE WHAT IT READS IS OF BULK AT MOST 1048576: true; the input reads as it did. -/
def fnExactRegAtUptoRow : OpenClaim := { program := "ytieljgoodmoacaa", sum := "a72aafe70dbfcd219393687c29d18f81a334daa480b83a5bd69dcd9215c07b0a", func := "loop.example/g00563/laws.FnExactRegAt", spec := "fnExactRegAt", apart := false, narrowed := true }
def FnExactRegAtUptoSaid : Prop := fnExactRegAtUptoRow.holds Try.pinned (OpenSpec.upto fnExactRegAtSpec)

/-- 'laws.FnExactEnterIrq', WHERE WHAT IT READS IS OF BULK AT MOST 1048576: true; the input reads as it did. -/
def fnExactEnterIrqUptoRow : OpenClaim := { program := "ytieljgoodmoacaa", sum := "a72aafe70dbfcd219393687c29d18f81a334daa480b83a5bd69dcd9215c07b0a", func := "loop.example/g00563/laws.FnExactEnterIrq", spec := "fnExactEnterIrq", unfollowed := true, recurses := true, apart := false, narrowed := true }
def FnExactEnterIrqUptoSaid : Prop := fnExactEnterIrqUptoRow.holds Try.pinned (OpenSpec.upto fnExactEnterIrqSpec)

/-- 'laws.FnExactSameCpu', WHERE WHAT IT READS IS OF BULK AT MOST 1048576: true; the input reads as it did. -/
def fnExactSameCpuUptoRow : OpenClaim := { program := "ytieljgoodmoacaa", sum := "a72aafe70dbfcd219393687c29d18f81a334daa480b83a5bd69dcd9215c07b0a", func := "loop.example/g00563/laws.FnExactSameCpu", spec := "fnExactSameCpu", apart := false, narrowed := true }
def FnExactSameCpuUptoSaid : Prop := fnExactSameCpuUptoRow.holds Try.pinned (OpenSpec.upto fnExactSameCpuSpec)

end Rows
end Go.Proofs.Ytieljgoodmoacaa
