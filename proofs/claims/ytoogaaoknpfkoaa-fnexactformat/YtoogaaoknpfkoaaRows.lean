/-
  No cell of these rows narrows 'for every input' (looked for: loops, veiled, ifaces, maps, wideKeys, modest, calm, conditions, laid).
  DERIVED. THE GIVEN ROWS OF THIS SEAT. 17 by the template 'for every input the law returns true; each argument reads behind the call as it read before'; 0 by the template 'total and deterministic' (their statements: YtoogaaoknpfkoaaTotals.lean).
  GIVEN WITH THE SEED: the statements are not yours to turn. If you find one false, say at which input.
  Laid BY PROGRAM, IN A SANDBOX (cutbox-rows.mjs): the forced cells as the released guide's own fill.sh prints them over the translation a77980f50779301e… (all of the seat's roots in one cut). By AI agents, Wed Nov 11 2026. No macro, syntax, notation, axiom, sorry.
-/
import Derived.Test.YtoogaaoknpfkoaaChecked
import GoSem.Claim
import GoSem.ClaimJoined
import GoSem.ClaimMapViews
import Derived.JoinedTies
import Derived.KernelRfl
namespace Go.Proofs.Ytoogaaoknpfkoaa
/- THE CELL 'sum', in the pinned program and in every row, IS THE sha256 OF THE DUMP (.gsa) THAT YtoogaaoknpfkoaaProg.lean LOADS. Nothing in Lean hashes anything: it is a label: what it is worth is what the hold of that sum in a sandbox is worth. -/
noncomputable def Try.pinned : Pinned := { name := "ytoogaaoknpfkoaa", sum := "a77980f50779301e985e03b5b87d70506658691dcb4f3ef6e53483d9d583d44a", checked := Try.checked }
namespace Rows
def none {H : Type} : Left H := { results := [], args := [] }

/-- 'laws.FnDisk': WHATEVER THE INPUT: true; the input reads as it did. -/
def fnDiskSpec : ChangeSpec := { name := "fnDisk", fn := fun _ => fun
  | [d1, d2] => { results := [.lit (.bool true)], args := [d1, d2] }
  | _ => none }
def fnDiskRow : OpenClaim := { program := "ytoogaaoknpfkoaa", sum := "a77980f50779301e985e03b5b87d70506658691dcb4f3ef6e53483d9d583d44a", func := "loop.example/g00563/laws.FnDisk", spec := "fnDisk", apart := false }
def FnDiskSaid : Prop := fnDiskRow.holds Try.pinned (OpenSpec.ofChange fnDiskSpec)

/-- ITS FALSE NEIGHBOUR: 'it returns false'. Refute it at one input. -/
def fnDiskWrong : ChangeSpec := { name := "fnDisk", fn := fun _ => fun
  | [d1, d2] => { results := [.lit (.bool false)], args := [d1, d2] }
  | _ => none }
def FnDiskWrongFalsely : Prop := fnDiskRow.holds Try.pinned (OpenSpec.ofChange fnDiskWrong)

/-- 'laws.FnExactReadDisk': WHATEVER THE INPUT: true; the input reads as it did. -/
def fnExactReadDiskSpec : ChangeSpec := { name := "fnExactReadDisk", fn := fun _ => fun
  | [d1, d2] => { results := [.lit (.bool true)], args := [d1, d2] }
  | _ => none }
def fnExactReadDiskRow : OpenClaim := { program := "ytoogaaoknpfkoaa", sum := "a77980f50779301e985e03b5b87d70506658691dcb4f3ef6e53483d9d583d44a", func := "loop.example/g00563/laws.FnExactReadDisk", spec := "fnExactReadDisk", apart := false }
def FnExactReadDiskSaid : Prop := fnExactReadDiskRow.holds Try.pinned (OpenSpec.ofChange fnExactReadDiskSpec)

/-- ITS FALSE NEIGHBOUR: 'it returns false'. Refute it at one input. -/
def fnExactReadDiskWrong : ChangeSpec := { name := "fnExactReadDisk", fn := fun _ => fun
  | [d1, d2] => { results := [.lit (.bool false)], args := [d1, d2] }
  | _ => none }
def FnExactReadDiskWrongFalsely : Prop := fnExactReadDiskRow.holds Try.pinned (OpenSpec.ofChange fnExactReadDiskWrong)

/-- 'laws.FnExactCrashDisk': WHATEVER THE INPUT: true; the input reads as it did. -/
def fnExactCrashDiskSpec : ChangeSpec := { name := "fnExactCrashDisk", fn := fun _ => fun
  | [d1, d2] => { results := [.lit (.bool true)], args := [d1, d2] }
  | _ => none }
def fnExactCrashDiskRow : OpenClaim := { program := "ytoogaaoknpfkoaa", sum := "a77980f50779301e985e03b5b87d70506658691dcb4f3ef6e53483d9d583d44a", func := "loop.example/g00563/laws.FnExactCrashDisk", spec := "fnExactCrashDisk", apart := false }
def FnExactCrashDiskSaid : Prop := fnExactCrashDiskRow.holds Try.pinned (OpenSpec.ofChange fnExactCrashDiskSpec)

/-- ITS FALSE NEIGHBOUR: 'it returns false'. Refute it at one input. -/
def fnExactCrashDiskWrong : ChangeSpec := { name := "fnExactCrashDisk", fn := fun _ => fun
  | [d1, d2] => { results := [.lit (.bool false)], args := [d1, d2] }
  | _ => none }
def FnExactCrashDiskWrongFalsely : Prop := fnExactCrashDiskRow.holds Try.pinned (OpenSpec.ofChange fnExactCrashDiskWrong)

/-- 'laws.FnExactRootOK': WHATEVER THE INPUT: true; the input reads as it did. -/
def fnExactRootOKSpec : ChangeSpec := { name := "fnExactRootOK", fn := fun _ => fun
  | [d] => { results := [.lit (.bool true)], args := [d] }
  | _ => none }
def fnExactRootOKRow : OpenClaim := { program := "ytoogaaoknpfkoaa", sum := "a77980f50779301e985e03b5b87d70506658691dcb4f3ef6e53483d9d583d44a", func := "loop.example/g00563/laws.FnExactRootOK", spec := "fnExactRootOK", apart := false }
def FnExactRootOKSaid : Prop := fnExactRootOKRow.holds Try.pinned (OpenSpec.ofChange fnExactRootOKSpec)

/-- ITS FALSE NEIGHBOUR: 'it returns false'. Refute it at one input. -/
def fnExactRootOKWrong : ChangeSpec := { name := "fnExactRootOK", fn := fun _ => fun
  | [d] => { results := [.lit (.bool false)], args := [d] }
  | _ => none }
def FnExactRootOKWrongFalsely : Prop := fnExactRootOKRow.holds Try.pinned (OpenSpec.ofChange fnExactRootOKWrong)

/-- 'laws.FnExactRootText': WHATEVER THE INPUT: true; the input reads as it did. -/
def fnExactRootTextSpec : ChangeSpec := { name := "fnExactRootText", fn := fun _ => fun
  | [d] => { results := [.lit (.bool true)], args := [d] }
  | _ => none }
def fnExactRootTextRow : OpenClaim := { program := "ytoogaaoknpfkoaa", sum := "a77980f50779301e985e03b5b87d70506658691dcb4f3ef6e53483d9d583d44a", func := "loop.example/g00563/laws.FnExactRootText", spec := "fnExactRootText", recurses := true, apart := false }
def FnExactRootTextSaid : Prop := fnExactRootTextRow.holds Try.pinned (OpenSpec.ofChange fnExactRootTextSpec)

/-- ITS FALSE NEIGHBOUR: 'it returns false'. Refute it at one input. -/
def fnExactRootTextWrong : ChangeSpec := { name := "fnExactRootText", fn := fun _ => fun
  | [d] => { results := [.lit (.bool false)], args := [d] }
  | _ => none }
def FnExactRootTextWrongFalsely : Prop := fnExactRootTextRow.holds Try.pinned (OpenSpec.ofChange fnExactRootTextWrong)

/-- 'laws.FnExactReadRoot': WHATEVER THE INPUT: true; the input reads as it did. -/
def fnExactReadRootSpec : ChangeSpec := { name := "fnExactReadRoot", fn := fun _ => fun
  | [d] => { results := [.lit (.bool true)], args := [d] }
  | _ => none }
def fnExactReadRootRow : OpenClaim := { program := "ytoogaaoknpfkoaa", sum := "a77980f50779301e985e03b5b87d70506658691dcb4f3ef6e53483d9d583d44a", func := "loop.example/g00563/laws.FnExactReadRoot", spec := "fnExactReadRoot", apart := false }
def FnExactReadRootSaid : Prop := fnExactReadRootRow.holds Try.pinned (OpenSpec.ofChange fnExactReadRootSpec)

/-- ITS FALSE NEIGHBOUR: 'it returns false'. Refute it at one input. -/
def fnExactReadRootWrong : ChangeSpec := { name := "fnExactReadRoot", fn := fun _ => fun
  | [d] => { results := [.lit (.bool false)], args := [d] }
  | _ => none }
def FnExactReadRootWrongFalsely : Prop := fnExactReadRootRow.holds Try.pinned (OpenSpec.ofChange fnExactReadRootWrong)

/-- 'laws.FnExactFormat': WHATEVER THE INPUT: true; the input reads as it did. -/
def fnExactFormatSpec : ChangeSpec := { name := "fnExactFormat", fn := fun _ => fun
  | [d] => { results := [.lit (.bool true)], args := [d] }
  | _ => none }
def fnExactFormatRow : OpenClaim := { program := "ytoogaaoknpfkoaa", sum := "a77980f50779301e985e03b5b87d70506658691dcb4f3ef6e53483d9d583d44a", func := "loop.example/g00563/laws.FnExactFormat", spec := "fnExactFormat", recurses := true, apart := false }
def FnExactFormatSaid : Prop := fnExactFormatRow.holds Try.pinned (OpenSpec.ofChange fnExactFormatSpec)

/-- ITS FALSE NEIGHBOUR: 'it returns false'. Refute it at one input. -/
def fnExactFormatWrong : ChangeSpec := { name := "fnExactFormat", fn := fun _ => fun
  | [d] => { results := [.lit (.bool false)], args := [d] }
  | _ => none }
def FnExactFormatWrongFalsely : Prop := fnExactFormatRow.holds Try.pinned (OpenSpec.ofChange fnExactFormatWrong)

/-- 'laws.FnExactNewest': WHATEVER THE INPUT: true; the input reads as it did. -/
def fnExactNewestSpec : ChangeSpec := { name := "fnExactNewest", fn := fun _ => fun
  | [d] => { results := [.lit (.bool true)], args := [d] }
  | _ => none }
def fnExactNewestRow : OpenClaim := { program := "ytoogaaoknpfkoaa", sum := "a77980f50779301e985e03b5b87d70506658691dcb4f3ef6e53483d9d583d44a", func := "loop.example/g00563/laws.FnExactNewest", spec := "fnExactNewest", apart := false }
def FnExactNewestSaid : Prop := fnExactNewestRow.holds Try.pinned (OpenSpec.ofChange fnExactNewestSpec)

/-- ITS FALSE NEIGHBOUR: 'it returns false'. Refute it at one input. -/
def fnExactNewestWrong : ChangeSpec := { name := "fnExactNewest", fn := fun _ => fun
  | [d] => { results := [.lit (.bool false)], args := [d] }
  | _ => none }
def FnExactNewestWrongFalsely : Prop := fnExactNewestRow.holds Try.pinned (OpenSpec.ofChange fnExactNewestWrong)

/-- 'laws.FnExactLoadPages': WHATEVER THE INPUT: true; the input reads as it did. -/
def fnExactLoadPagesSpec : ChangeSpec := { name := "fnExactLoadPages", fn := fun _ => fun
  | [d] => { results := [.lit (.bool true)], args := [d] }
  | _ => none }
def fnExactLoadPagesRow : OpenClaim := { program := "ytoogaaoknpfkoaa", sum := "a77980f50779301e985e03b5b87d70506658691dcb4f3ef6e53483d9d583d44a", func := "loop.example/g00563/laws.FnExactLoadPages", spec := "fnExactLoadPages", apart := false }
def FnExactLoadPagesSaid : Prop := fnExactLoadPagesRow.holds Try.pinned (OpenSpec.ofChange fnExactLoadPagesSpec)

/-- ITS FALSE NEIGHBOUR: 'it returns false'. Refute it at one input. -/
def fnExactLoadPagesWrong : ChangeSpec := { name := "fnExactLoadPages", fn := fun _ => fun
  | [d] => { results := [.lit (.bool false)], args := [d] }
  | _ => none }
def FnExactLoadPagesWrongFalsely : Prop := fnExactLoadPagesRow.holds Try.pinned (OpenSpec.ofChange fnExactLoadPagesWrong)

/-- 'laws.FnExactFreeSectors': WHATEVER THE INPUT: true; the input reads as it did. -/
def fnExactFreeSectorsSpec : ChangeSpec := { name := "fnExactFreeSectors", fn := fun _ => fun
  | [d] => { results := [.lit (.bool true)], args := [d] }
  | _ => none }
def fnExactFreeSectorsRow : OpenClaim := { program := "ytoogaaoknpfkoaa", sum := "a77980f50779301e985e03b5b87d70506658691dcb4f3ef6e53483d9d583d44a", func := "loop.example/g00563/laws.FnExactFreeSectors", spec := "fnExactFreeSectors", apart := false }
def FnExactFreeSectorsSaid : Prop := fnExactFreeSectorsRow.holds Try.pinned (OpenSpec.ofChange fnExactFreeSectorsSpec)

/-- ITS FALSE NEIGHBOUR: 'it returns false'. Refute it at one input. -/
def fnExactFreeSectorsWrong : ChangeSpec := { name := "fnExactFreeSectors", fn := fun _ => fun
  | [d] => { results := [.lit (.bool false)], args := [d] }
  | _ => none }
def FnExactFreeSectorsWrongFalsely : Prop := fnExactFreeSectorsRow.holds Try.pinned (OpenSpec.ofChange fnExactFreeSectorsWrong)

/-- 'laws.FnExactCommit': WHATEVER THE INPUT: true; the input reads as it did. -/
def fnExactCommitSpec : ChangeSpec := { name := "fnExactCommit", fn := fun _ => fun
  | [d1, d2, d3] => { results := [.lit (.bool true)], args := [d1, d2, d3] }
  | _ => none }
def fnExactCommitRow : OpenClaim := { program := "ytoogaaoknpfkoaa", sum := "a77980f50779301e985e03b5b87d70506658691dcb4f3ef6e53483d9d583d44a", func := "loop.example/g00563/laws.FnExactCommit", spec := "fnExactCommit", recurses := true, apart := false }
def FnExactCommitSaid : Prop := fnExactCommitRow.holds Try.pinned (OpenSpec.ofChange fnExactCommitSpec)

/-- ITS FALSE NEIGHBOUR: 'it returns false'. Refute it at one input. -/
def fnExactCommitWrong : ChangeSpec := { name := "fnExactCommit", fn := fun _ => fun
  | [d1, d2, d3] => { results := [.lit (.bool false)], args := [d1, d2, d3] }
  | _ => none }
def FnExactCommitWrongFalsely : Prop := fnExactCommitRow.holds Try.pinned (OpenSpec.ofChange fnExactCommitWrong)

/-- 'laws.FnExactCommitTorn': WHATEVER THE INPUT: true; the input reads as it did. -/
def fnExactCommitTornSpec : ChangeSpec := { name := "fnExactCommitTorn", fn := fun _ => fun
  | [d1, d2, d3, d4] => { results := [.lit (.bool true)], args := [d1, d2, d3, d4] }
  | _ => none }
def fnExactCommitTornRow : OpenClaim := { program := "ytoogaaoknpfkoaa", sum := "a77980f50779301e985e03b5b87d70506658691dcb4f3ef6e53483d9d583d44a", func := "loop.example/g00563/laws.FnExactCommitTorn", spec := "fnExactCommitTorn", recurses := true, apart := false }
def FnExactCommitTornSaid : Prop := fnExactCommitTornRow.holds Try.pinned (OpenSpec.ofChange fnExactCommitTornSpec)

/-- ITS FALSE NEIGHBOUR: 'it returns false'. Refute it at one input. -/
def fnExactCommitTornWrong : ChangeSpec := { name := "fnExactCommitTorn", fn := fun _ => fun
  | [d1, d2, d3, d4] => { results := [.lit (.bool false)], args := [d1, d2, d3, d4] }
  | _ => none }
def FnExactCommitTornWrongFalsely : Prop := fnExactCommitTornRow.holds Try.pinned (OpenSpec.ofChange fnExactCommitTornWrong)

/-- 'laws.FnRoot': WHATEVER THE INPUT: true; the input reads as it did. -/
def fnRootSpec : ChangeSpec := { name := "fnRoot", fn := fun _ => fun
  | [d1, d2] => { results := [.lit (.bool true)], args := [d1, d2] }
  | _ => none }
def fnRootRow : OpenClaim := { program := "ytoogaaoknpfkoaa", sum := "a77980f50779301e985e03b5b87d70506658691dcb4f3ef6e53483d9d583d44a", func := "loop.example/g00563/laws.FnRoot", spec := "fnRoot", recurses := true, apart := false }
def FnRootSaid : Prop := fnRootRow.holds Try.pinned (OpenSpec.ofChange fnRootSpec)

/-- ITS FALSE NEIGHBOUR: 'it returns false'. Refute it at one input. -/
def fnRootWrong : ChangeSpec := { name := "fnRoot", fn := fun _ => fun
  | [d1, d2] => { results := [.lit (.bool false)], args := [d1, d2] }
  | _ => none }
def FnRootWrongFalsely : Prop := fnRootRow.holds Try.pinned (OpenSpec.ofChange fnRootWrong)

/-- 'laws.FnCommit': WHATEVER THE INPUT: true; the input reads as it did. -/
def fnCommitSpec : ChangeSpec := { name := "fnCommit", fn := fun _ => fun
  | [d1, d2] => { results := [.lit (.bool true)], args := [d1, d2] }
  | _ => none }
def fnCommitRow : OpenClaim := { program := "ytoogaaoknpfkoaa", sum := "a77980f50779301e985e03b5b87d70506658691dcb4f3ef6e53483d9d583d44a", func := "loop.example/g00563/laws.FnCommit", spec := "fnCommit", recurses := true, apart := false }
def FnCommitSaid : Prop := fnCommitRow.holds Try.pinned (OpenSpec.ofChange fnCommitSpec)

/-- ITS FALSE NEIGHBOUR: 'it returns false'. Refute it at one input. -/
def fnCommitWrong : ChangeSpec := { name := "fnCommit", fn := fun _ => fun
  | [d1, d2] => { results := [.lit (.bool false)], args := [d1, d2] }
  | _ => none }
def FnCommitWrongFalsely : Prop := fnCommitRow.holds Try.pinned (OpenSpec.ofChange fnCommitWrong)

/-- 'laws.FnBudget': WHATEVER THE INPUT: true; the input reads as it did. -/
def fnBudgetSpec : ChangeSpec := { name := "fnBudget", fn := fun _ => fun
  | [d1, d2] => { results := [.lit (.bool true)], args := [d1, d2] }
  | _ => none }
def fnBudgetRow : OpenClaim := { program := "ytoogaaoknpfkoaa", sum := "a77980f50779301e985e03b5b87d70506658691dcb4f3ef6e53483d9d583d44a", func := "loop.example/g00563/laws.FnBudget", spec := "fnBudget", recurses := true, apart := false }
def FnBudgetSaid : Prop := fnBudgetRow.holds Try.pinned (OpenSpec.ofChange fnBudgetSpec)

/-- ITS FALSE NEIGHBOUR: 'it returns false'. Refute it at one input. -/
def fnBudgetWrong : ChangeSpec := { name := "fnBudget", fn := fun _ => fun
  | [d1, d2] => { results := [.lit (.bool false)], args := [d1, d2] }
  | _ => none }
def FnBudgetWrongFalsely : Prop := fnBudgetRow.holds Try.pinned (OpenSpec.ofChange fnBudgetWrong)

/-- 'laws.FnAtomic': WHATEVER THE INPUT: true; the input reads as it did. -/
def fnAtomicSpec : ChangeSpec := { name := "fnAtomic", fn := fun _ => fun
  | [d1, d2] => { results := [.lit (.bool true)], args := [d1, d2] }
  | _ => none }
def fnAtomicRow : OpenClaim := { program := "ytoogaaoknpfkoaa", sum := "a77980f50779301e985e03b5b87d70506658691dcb4f3ef6e53483d9d583d44a", func := "loop.example/g00563/laws.FnAtomic", spec := "fnAtomic", recurses := true, apart := false }
def FnAtomicSaid : Prop := fnAtomicRow.holds Try.pinned (OpenSpec.ofChange fnAtomicSpec)

/-- ITS FALSE NEIGHBOUR: 'it returns false'. Refute it at one input. -/
def fnAtomicWrong : ChangeSpec := { name := "fnAtomic", fn := fun _ => fun
  | [d1, d2] => { results := [.lit (.bool false)], args := [d1, d2] }
  | _ => none }
def FnAtomicWrongFalsely : Prop := fnAtomicRow.holds Try.pinned (OpenSpec.ofChange fnAtomicWrong)

/-- 'laws.FnFree': WHATEVER THE INPUT: true; the input reads as it did. -/
def fnFreeSpec : ChangeSpec := { name := "fnFree", fn := fun _ => fun
  | [d1, d2] => { results := [.lit (.bool true)], args := [d1, d2] }
  | _ => none }
def fnFreeRow : OpenClaim := { program := "ytoogaaoknpfkoaa", sum := "a77980f50779301e985e03b5b87d70506658691dcb4f3ef6e53483d9d583d44a", func := "loop.example/g00563/laws.FnFree", spec := "fnFree", recurses := true, apart := false }
def FnFreeSaid : Prop := fnFreeRow.holds Try.pinned (OpenSpec.ofChange fnFreeSpec)

/-- ITS FALSE NEIGHBOUR: 'it returns false'. Refute it at one input. -/
def fnFreeWrong : ChangeSpec := { name := "fnFree", fn := fun _ => fun
  | [d1, d2] => { results := [.lit (.bool false)], args := [d1, d2] }
  | _ => none }
def FnFreeWrongFalsely : Prop := fnFreeRow.holds Try.pinned (OpenSpec.ofChange fnFreeWrong)

/- THE SECOND FORM. 'bulk': how many values and letters a reading holds, each counted each time it is reached (what is shared counts as often as it is met; a slice's spare places count too). A statement '..UptoSaid' is the law's where the arguments, and the package variables that the reading takes, are together of bulk at most 1048576: NARROWER than '..Said'. Prove '..Said' where nothing that the law and all that it calls make is longer than what came in: it says more and counts as full. Else prove '..UptoSaid'. A law counts once. -/
mutual
def uptoBulk {H : Type} : DataW H → Nat
  | .lit (.string bytes) => bytes.length + 1
  | .lit _ => 1
  | .nil => 1
  | .ptr d => uptoBulk d + 1
  | .slice elems spare => uptoBulkAll elems + uptoBulkAll spare + 1
  | .agg parts => uptoBulkAll parts + 1
  | .iface _ d => uptoBulk d + 1
  | .map entries => uptoBulkEntries entries + 1
  | .held _ => 1
def uptoBulkAll {H : Type} : List (DataW H) → Nat
  | [] => 0
  | d :: r => uptoBulk d + uptoBulkAll r
def uptoBulkEntries {H : Type} : List (Lit × DataW H) → Nat
  | [] => 0
  | x :: r => uptoBulkEntry x + uptoBulkEntries r
def uptoBulkEntry {H : Type} : Lit × DataW H → Nat
  | (.string bytes, d) => bytes.length + uptoBulk d + 1
  | (_, d) => uptoBulk d + 1
 end
def uptoSmall : (H : Type) → List (DataW H) → Bool := fun _ ds => decide (uptoBulkAll ds ≤ 1048576)
def OpenSpec.upto (s : _root_.Go.ChangeSpec) : _root_.Go.OpenSpec := { _root_.Go.OpenSpec.ofChange s with cond := some uptoSmall }

/-- 'laws.FnDisk', WHERE WHAT IT READS IS OF BULK AT MOST 1048576: true; the input reads as it did. -/
def fnDiskUptoRow : OpenClaim := { program := "ytoogaaoknpfkoaa", sum := "a77980f50779301e985e03b5b87d70506658691dcb4f3ef6e53483d9d583d44a", func := "loop.example/g00563/laws.FnDisk", spec := "fnDisk", apart := false, narrowed := true }
def FnDiskUptoSaid : Prop := fnDiskUptoRow.holds Try.pinned (OpenSpec.upto fnDiskSpec)

/-- 'laws.FnExactReadDisk', WHERE WHAT IT READS IS OF BULK AT MOST 1048576: true; the input reads as it did. -/
def fnExactReadDiskUptoRow : OpenClaim := { program := "ytoogaaoknpfkoaa", sum := "a77980f50779301e985e03b5b87d70506658691dcb4f3ef6e53483d9d583d44a", func := "loop.example/g00563/laws.FnExactReadDisk", spec := "fnExactReadDisk", apart := false, narrowed := true }
def FnExactReadDiskUptoSaid : Prop := fnExactReadDiskUptoRow.holds Try.pinned (OpenSpec.upto fnExactReadDiskSpec)

/-- 'laws.FnExactCrashDisk', WHERE WHAT IT READS IS OF BULK AT MOST 1048576: true; the input reads as it did. -/
def fnExactCrashDiskUptoRow : OpenClaim := { program := "ytoogaaoknpfkoaa", sum := "a77980f50779301e985e03b5b87d70506658691dcb4f3ef6e53483d9d583d44a", func := "loop.example/g00563/laws.FnExactCrashDisk", spec := "fnExactCrashDisk", apart := false, narrowed := true }
def FnExactCrashDiskUptoSaid : Prop := fnExactCrashDiskUptoRow.holds Try.pinned (OpenSpec.upto fnExactCrashDiskSpec)

/-- 'laws.FnExactRootOK', WHERE WHAT IT READS IS OF BULK AT MOST 1048576: true; the input reads as it did. -/
def fnExactRootOKUptoRow : OpenClaim := { program := "ytoogaaoknpfkoaa", sum := "a77980f50779301e985e03b5b87d70506658691dcb4f3ef6e53483d9d583d44a", func := "loop.example/g00563/laws.FnExactRootOK", spec := "fnExactRootOK", apart := false, narrowed := true }
def FnExactRootOKUptoSaid : Prop := fnExactRootOKUptoRow.holds Try.pinned (OpenSpec.upto fnExactRootOKSpec)

/-- 'laws.FnExactRootText', WHERE WHAT IT READS IS OF BULK AT MOST 1048576: true; the input reads as it did. -/
def fnExactRootTextUptoRow : OpenClaim := { program := "ytoogaaoknpfkoaa", sum := "a77980f50779301e985e03b5b87d70506658691dcb4f3ef6e53483d9d583d44a", func := "loop.example/g00563/laws.FnExactRootText", spec := "fnExactRootText", recurses := true, apart := false, narrowed := true }
def FnExactRootTextUptoSaid : Prop := fnExactRootTextUptoRow.holds Try.pinned (OpenSpec.upto fnExactRootTextSpec)

/-- 'laws.FnExactReadRoot', WHERE WHAT IT READS IS OF BULK AT MOST 1048576: true; the input reads as it did. -/
def fnExactReadRootUptoRow : OpenClaim := { program := "ytoogaaoknpfkoaa", sum := "a77980f50779301e985e03b5b87d70506658691dcb4f3ef6e53483d9d583d44a", func := "loop.example/g00563/laws.FnExactReadRoot", spec := "fnExactReadRoot", apart := false, narrowed := true }
def FnExactReadRootUptoSaid : Prop := fnExactReadRootUptoRow.holds Try.pinned (OpenSpec.upto fnExactReadRootSpec)

/-- 'laws.FnExactFormat', WHERE WHAT IT READS IS OF BULK AT MOST 1048576: true; the input reads as it did. -/
def fnExactFormatUptoRow : OpenClaim := { program := "ytoogaaoknpfkoaa", sum := "a77980f50779301e985e03b5b87d70506658691dcb4f3ef6e53483d9d583d44a", func := "loop.example/g00563/laws.FnExactFormat", spec := "fnExactFormat", recurses := true, apart := false, narrowed := true }
def FnExactFormatUptoSaid : Prop := fnExactFormatUptoRow.holds Try.pinned (OpenSpec.upto fnExactFormatSpec)

/-- 'laws.FnExactNewest', WHERE WHAT IT READS IS OF BULK AT MOST 1048576: true; the input reads as it did. -/
def fnExactNewestUptoRow : OpenClaim := { program := "ytoogaaoknpfkoaa", sum := "a77980f50779301e985e03b5b87d70506658691dcb4f3ef6e53483d9d583d44a", func := "loop.example/g00563/laws.FnExactNewest", spec := "fnExactNewest", apart := false, narrowed := true }
def FnExactNewestUptoSaid : Prop := fnExactNewestUptoRow.holds Try.pinned (OpenSpec.upto fnExactNewestSpec)

/-- 'laws.FnExactLoadPages', WHERE WHAT IT READS IS OF BULK AT MOST 1048576: true; the input reads as it did. -/
def fnExactLoadPagesUptoRow : OpenClaim := { program := "ytoogaaoknpfkoaa", sum := "a77980f50779301e985e03b5b87d70506658691dcb4f3ef6e53483d9d583d44a", func := "loop.example/g00563/laws.FnExactLoadPages", spec := "fnExactLoadPages", apart := false, narrowed := true }
def FnExactLoadPagesUptoSaid : Prop := fnExactLoadPagesUptoRow.holds Try.pinned (OpenSpec.upto fnExactLoadPagesSpec)

/-- 'laws.FnExactFreeSectors', WHERE WHAT IT READS IS OF BULK AT MOST 1048576: true; the input reads as it did. -/
def fnExactFreeSectorsUptoRow : OpenClaim := { program := "ytoogaaoknpfkoaa", sum := "a77980f50779301e985e03b5b87d70506658691dcb4f3ef6e53483d9d583d44a", func := "loop.example/g00563/laws.FnExactFreeSectors", spec := "fnExactFreeSectors", apart := false, narrowed := true }
def FnExactFreeSectorsUptoSaid : Prop := fnExactFreeSectorsUptoRow.holds Try.pinned (OpenSpec.upto fnExactFreeSectorsSpec)

/-- 'laws.FnExactCommit', WHERE WHAT IT READS IS OF BULK AT MOST 1048576: true; the input reads as it did. -/
def fnExactCommitUptoRow : OpenClaim := { program := "ytoogaaoknpfkoaa", sum := "a77980f50779301e985e03b5b87d70506658691dcb4f3ef6e53483d9d583d44a", func := "loop.example/g00563/laws.FnExactCommit", spec := "fnExactCommit", recurses := true, apart := false, narrowed := true }
def FnExactCommitUptoSaid : Prop := fnExactCommitUptoRow.holds Try.pinned (OpenSpec.upto fnExactCommitSpec)

/-- 'laws.FnExactCommitTorn', WHERE WHAT IT READS IS OF BULK AT MOST 1048576: true; the input reads as it did. -/
def fnExactCommitTornUptoRow : OpenClaim := { program := "ytoogaaoknpfkoaa", sum := "a77980f50779301e985e03b5b87d70506658691dcb4f3ef6e53483d9d583d44a", func := "loop.example/g00563/laws.FnExactCommitTorn", spec := "fnExactCommitTorn", recurses := true, apart := false, narrowed := true }
def FnExactCommitTornUptoSaid : Prop := fnExactCommitTornUptoRow.holds Try.pinned (OpenSpec.upto fnExactCommitTornSpec)

/-- 'laws.FnRoot', WHERE WHAT IT READS IS OF BULK AT MOST 1048576: true; the input reads as it did. -/
def fnRootUptoRow : OpenClaim := { program := "ytoogaaoknpfkoaa", sum := "a77980f50779301e985e03b5b87d70506658691dcb4f3ef6e53483d9d583d44a", func := "loop.example/g00563/laws.FnRoot", spec := "fnRoot", recurses := true, apart := false, narrowed := true }
def FnRootUptoSaid : Prop := fnRootUptoRow.holds Try.pinned (OpenSpec.upto fnRootSpec)

/-- 'laws.FnCommit', WHERE WHAT IT READS IS OF BULK AT MOST 1048576: true; the input reads as it did. -/
def fnCommitUptoRow : OpenClaim := { program := "ytoogaaoknpfkoaa", sum := "a77980f50779301e985e03b5b87d70506658691dcb4f3ef6e53483d9d583d44a", func := "loop.example/g00563/laws.FnCommit", spec := "fnCommit", recurses := true, apart := false, narrowed := true }
def FnCommitUptoSaid : Prop := fnCommitUptoRow.holds Try.pinned (OpenSpec.upto fnCommitSpec)

/-- 'laws.FnBudget', WHERE WHAT IT READS IS OF BULK AT MOST 1048576: true; the input reads as it did. -/
def fnBudgetUptoRow : OpenClaim := { program := "ytoogaaoknpfkoaa", sum := "a77980f50779301e985e03b5b87d70506658691dcb4f3ef6e53483d9d583d44a", func := "loop.example/g00563/laws.FnBudget", spec := "fnBudget", recurses := true, apart := false, narrowed := true }
def FnBudgetUptoSaid : Prop := fnBudgetUptoRow.holds Try.pinned (OpenSpec.upto fnBudgetSpec)

/-- 'laws.FnAtomic', WHERE WHAT IT READS IS OF BULK AT MOST 1048576: true; the input reads as it did. -/
def fnAtomicUptoRow : OpenClaim := { program := "ytoogaaoknpfkoaa", sum := "a77980f50779301e985e03b5b87d70506658691dcb4f3ef6e53483d9d583d44a", func := "loop.example/g00563/laws.FnAtomic", spec := "fnAtomic", recurses := true, apart := false, narrowed := true }
def FnAtomicUptoSaid : Prop := fnAtomicUptoRow.holds Try.pinned (OpenSpec.upto fnAtomicSpec)

/-- 'laws.FnFree', WHERE WHAT IT READS IS OF BULK AT MOST 1048576: true; the input reads as it did. -/
def fnFreeUptoRow : OpenClaim := { program := "ytoogaaoknpfkoaa", sum := "a77980f50779301e985e03b5b87d70506658691dcb4f3ef6e53483d9d583d44a", func := "loop.example/g00563/laws.FnFree", spec := "fnFree", recurses := true, apart := false, narrowed := true }
def FnFreeUptoSaid : Prop := fnFreeUptoRow.holds Try.pinned (OpenSpec.upto fnFreeSpec)

end Rows
end Go.Proofs.Ytoogaaoknpfkoaa
