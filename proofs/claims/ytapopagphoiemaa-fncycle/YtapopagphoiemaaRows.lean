/-
  No cell of these rows narrows 'for every input' (looked for: loops, veiled, ifaces, maps, wideKeys, modest, calm, conditions, laid).
  DERIVED. THE GIVEN ROWS OF THIS SEAT. 10 by the template 'for every input the law returns true; each argument reads behind the call as it read before'; 0 by the template 'total and deterministic' (their statements: YtapopagphoiemaaTotals.lean).
  GIVEN WITH THE SEED: the statements are not yours to turn. If you find one false, say at which input.
  Laid BY PROGRAM, IN A SANDBOX (cutbox-rows.mjs): the forced cells as the released guide's own fill.sh prints them over the translation 3e82189864c05066… (all of the seat's roots in one cut). By AI agents, Wed Nov 11 2026. No macro, syntax, notation, axiom, sorry.
-/
import Derived.Test.YtapopagphoiemaaChecked
import GoSem.Claim
import GoSem.ClaimJoined
import GoSem.ClaimMapViews
import Derived.JoinedTies
import Derived.KernelRfl
namespace Go.Proofs.Ytapopagphoiemaa
/- THE CELL 'sum', in the pinned program and in every row, IS THE sha256 OF THE DUMP (.gsa) THAT YtapopagphoiemaaProg.lean LOADS. Nothing in Lean hashes anything: it is a label: what it is worth is what the hold of that sum in a sandbox is worth. -/
noncomputable def Try.pinned : Pinned := { name := "ytapopagphoiemaa", sum := "3e82189864c05066c9bb0f251071a14550bab69eaea0865f31a5e5de6c755517", checked := Try.checked }
namespace Rows
def none {H : Type} : Left H := { results := [], args := [] }

/-- 'laws.FnCycle': WHATEVER THE INPUT: true; the input reads as it did. -/
def fnCycleSpec : ChangeSpec := { name := "fnCycle", fn := fun _ => fun
  | [d1, d2] => { results := [.lit (.bool true)], args := [d1, d2] }
  | _ => none }
def fnCycleRow : OpenClaim := { program := "ytapopagphoiemaa", sum := "3e82189864c05066c9bb0f251071a14550bab69eaea0865f31a5e5de6c755517", func := "loop.example/g00563/laws.FnCycle", spec := "fnCycle", apart := false }
def FnCycleSaid : Prop := fnCycleRow.holds Try.pinned (OpenSpec.ofChange fnCycleSpec)

/-- ITS FALSE NEIGHBOUR: 'it returns false'. Refute it at one input. -/
def fnCycleWrong : ChangeSpec := { name := "fnCycle", fn := fun _ => fun
  | [d1, d2] => { results := [.lit (.bool false)], args := [d1, d2] }
  | _ => none }
def FnCycleWrongFalsely : Prop := fnCycleRow.holds Try.pinned (OpenSpec.ofChange fnCycleWrong)

/-- 'laws.FnExactNewFlash': WHATEVER THE INPUT: true; the input reads as it did. -/
def fnExactNewFlashSpec : ChangeSpec := { name := "fnExactNewFlash", fn := fun _ => fun
  | [] => { results := [.lit (.bool true)], args := [] }
  | _ => none }
def fnExactNewFlashRow : OpenClaim := { program := "ytapopagphoiemaa", sum := "3e82189864c05066c9bb0f251071a14550bab69eaea0865f31a5e5de6c755517", func := "loop.example/g00563/laws.FnExactNewFlash", spec := "fnExactNewFlash", apart := false }
def FnExactNewFlashSaid : Prop := fnExactNewFlashRow.holds Try.pinned (OpenSpec.ofChange fnExactNewFlashSpec)

/-- ITS FALSE NEIGHBOUR: 'it returns false'. Refute it at one input. -/
def fnExactNewFlashWrong : ChangeSpec := { name := "fnExactNewFlash", fn := fun _ => fun
  | [] => { results := [.lit (.bool false)], args := [] }
  | _ => none }
def FnExactNewFlashWrongFalsely : Prop := fnExactNewFlashRow.holds Try.pinned (OpenSpec.ofChange fnExactNewFlashWrong)

/-- 'laws.FnExactFlashOK': WHATEVER THE INPUT: true; the input reads as it did. -/
def fnExactFlashOKSpec : ChangeSpec := { name := "fnExactFlashOK", fn := fun _ => fun
  | [d] => { results := [.lit (.bool true)], args := [d] }
  | _ => none }
def fnExactFlashOKRow : OpenClaim := { program := "ytapopagphoiemaa", sum := "3e82189864c05066c9bb0f251071a14550bab69eaea0865f31a5e5de6c755517", func := "loop.example/g00563/laws.FnExactFlashOK", spec := "fnExactFlashOK", apart := false }
def FnExactFlashOKSaid : Prop := fnExactFlashOKRow.holds Try.pinned (OpenSpec.ofChange fnExactFlashOKSpec)

/-- ITS FALSE NEIGHBOUR: 'it returns false'. Refute it at one input. -/
def fnExactFlashOKWrong : ChangeSpec := { name := "fnExactFlashOK", fn := fun _ => fun
  | [d] => { results := [.lit (.bool false)], args := [d] }
  | _ => none }
def FnExactFlashOKWrongFalsely : Prop := fnExactFlashOKRow.holds Try.pinned (OpenSpec.ofChange fnExactFlashOKWrong)

/-- 'laws.FnExactBlockOf': WHATEVER THE INPUT: true; the input reads as it did. -/
def fnExactBlockOfSpec : ChangeSpec := { name := "fnExactBlockOf", fn := fun _ => fun
  | [d] => { results := [.lit (.bool true)], args := [d] }
  | _ => none }
def fnExactBlockOfRow : OpenClaim := { program := "ytapopagphoiemaa", sum := "3e82189864c05066c9bb0f251071a14550bab69eaea0865f31a5e5de6c755517", func := "loop.example/g00563/laws.FnExactBlockOf", spec := "fnExactBlockOf", apart := false }
def FnExactBlockOfSaid : Prop := fnExactBlockOfRow.holds Try.pinned (OpenSpec.ofChange fnExactBlockOfSpec)

/-- ITS FALSE NEIGHBOUR: 'it returns false'. Refute it at one input. -/
def fnExactBlockOfWrong : ChangeSpec := { name := "fnExactBlockOf", fn := fun _ => fun
  | [d] => { results := [.lit (.bool false)], args := [d] }
  | _ => none }
def FnExactBlockOfWrongFalsely : Prop := fnExactBlockOfRow.holds Try.pinned (OpenSpec.ofChange fnExactBlockOfWrong)

/-- 'laws.FnExactBusWrite': WHATEVER THE INPUT: true; the input reads as it did. -/
def fnExactBusWriteSpec : ChangeSpec := { name := "fnExactBusWrite", fn := fun _ => fun
  | [d1, d2, d3] => { results := [.lit (.bool true)], args := [d1, d2, d3] }
  | _ => none }
def fnExactBusWriteRow : OpenClaim := { program := "ytapopagphoiemaa", sum := "3e82189864c05066c9bb0f251071a14550bab69eaea0865f31a5e5de6c755517", func := "loop.example/g00563/laws.FnExactBusWrite", spec := "fnExactBusWrite", apart := false }
def FnExactBusWriteSaid : Prop := fnExactBusWriteRow.holds Try.pinned (OpenSpec.ofChange fnExactBusWriteSpec)

/-- ITS FALSE NEIGHBOUR: 'it returns false'. Refute it at one input. -/
def fnExactBusWriteWrong : ChangeSpec := { name := "fnExactBusWrite", fn := fun _ => fun
  | [d1, d2, d3] => { results := [.lit (.bool false)], args := [d1, d2, d3] }
  | _ => none }
def FnExactBusWriteWrongFalsely : Prop := fnExactBusWriteRow.holds Try.pinned (OpenSpec.ofChange fnExactBusWriteWrong)

/-- 'laws.FnExactBusRead': WHATEVER THE INPUT: true; the input reads as it did. -/
def fnExactBusReadSpec : ChangeSpec := { name := "fnExactBusRead", fn := fun _ => fun
  | [d1, d2] => { results := [.lit (.bool true)], args := [d1, d2] }
  | _ => none }
def fnExactBusReadRow : OpenClaim := { program := "ytapopagphoiemaa", sum := "3e82189864c05066c9bb0f251071a14550bab69eaea0865f31a5e5de6c755517", func := "loop.example/g00563/laws.FnExactBusRead", spec := "fnExactBusRead", apart := false }
def FnExactBusReadSaid : Prop := fnExactBusReadRow.holds Try.pinned (OpenSpec.ofChange fnExactBusReadSpec)

/-- ITS FALSE NEIGHBOUR: 'it returns false'. Refute it at one input. -/
def fnExactBusReadWrong : ChangeSpec := { name := "fnExactBusRead", fn := fun _ => fun
  | [d1, d2] => { results := [.lit (.bool false)], args := [d1, d2] }
  | _ => none }
def FnExactBusReadWrongFalsely : Prop := fnExactBusReadRow.holds Try.pinned (OpenSpec.ofChange fnExactBusReadWrong)

/-- 'laws.FnExactProgramCell': WHATEVER THE INPUT: true; the input reads as it did. -/
def fnExactProgramCellSpec : ChangeSpec := { name := "fnExactProgramCell", fn := fun _ => fun
  | [d1, d2, d3] => { results := [.lit (.bool true)], args := [d1, d2, d3] }
  | _ => none }
def fnExactProgramCellRow : OpenClaim := { program := "ytapopagphoiemaa", sum := "3e82189864c05066c9bb0f251071a14550bab69eaea0865f31a5e5de6c755517", func := "loop.example/g00563/laws.FnExactProgramCell", spec := "fnExactProgramCell", apart := false }
def FnExactProgramCellSaid : Prop := fnExactProgramCellRow.holds Try.pinned (OpenSpec.ofChange fnExactProgramCellSpec)

/-- ITS FALSE NEIGHBOUR: 'it returns false'. Refute it at one input. -/
def fnExactProgramCellWrong : ChangeSpec := { name := "fnExactProgramCell", fn := fun _ => fun
  | [d1, d2, d3] => { results := [.lit (.bool false)], args := [d1, d2, d3] }
  | _ => none }
def FnExactProgramCellWrongFalsely : Prop := fnExactProgramCellRow.holds Try.pinned (OpenSpec.ofChange fnExactProgramCellWrong)

/-- 'laws.FnExactEraseBlock': WHATEVER THE INPUT: true; the input reads as it did. -/
def fnExactEraseBlockSpec : ChangeSpec := { name := "fnExactEraseBlock", fn := fun _ => fun
  | [d1, d2] => { results := [.lit (.bool true)], args := [d1, d2] }
  | _ => none }
def fnExactEraseBlockRow : OpenClaim := { program := "ytapopagphoiemaa", sum := "3e82189864c05066c9bb0f251071a14550bab69eaea0865f31a5e5de6c755517", func := "loop.example/g00563/laws.FnExactEraseBlock", spec := "fnExactEraseBlock", apart := false }
def FnExactEraseBlockSaid : Prop := fnExactEraseBlockRow.holds Try.pinned (OpenSpec.ofChange fnExactEraseBlockSpec)

/-- ITS FALSE NEIGHBOUR: 'it returns false'. Refute it at one input. -/
def fnExactEraseBlockWrong : ChangeSpec := { name := "fnExactEraseBlock", fn := fun _ => fun
  | [d1, d2] => { results := [.lit (.bool false)], args := [d1, d2] }
  | _ => none }
def FnExactEraseBlockWrongFalsely : Prop := fnExactEraseBlockRow.holds Try.pinned (OpenSpec.ofChange fnExactEraseBlockWrong)

/-- 'laws.FnExactGuardBlock': WHATEVER THE INPUT: true; the input reads as it did. -/
def fnExactGuardBlockSpec : ChangeSpec := { name := "fnExactGuardBlock", fn := fun _ => fun
  | [d1, d2] => { results := [.lit (.bool true)], args := [d1, d2] }
  | _ => none }
def fnExactGuardBlockRow : OpenClaim := { program := "ytapopagphoiemaa", sum := "3e82189864c05066c9bb0f251071a14550bab69eaea0865f31a5e5de6c755517", func := "loop.example/g00563/laws.FnExactGuardBlock", spec := "fnExactGuardBlock", apart := false }
def FnExactGuardBlockSaid : Prop := fnExactGuardBlockRow.holds Try.pinned (OpenSpec.ofChange fnExactGuardBlockSpec)

/-- ITS FALSE NEIGHBOUR: 'it returns false'. Refute it at one input. -/
def fnExactGuardBlockWrong : ChangeSpec := { name := "fnExactGuardBlock", fn := fun _ => fun
  | [d1, d2] => { results := [.lit (.bool false)], args := [d1, d2] }
  | _ => none }
def FnExactGuardBlockWrongFalsely : Prop := fnExactGuardBlockRow.holds Try.pinned (OpenSpec.ofChange fnExactGuardBlockWrong)

/-- 'laws.FnExactSameFlash': WHATEVER THE INPUT: true; the input reads as it did. -/
def fnExactSameFlashSpec : ChangeSpec := { name := "fnExactSameFlash", fn := fun _ => fun
  | [d1, d2] => { results := [.lit (.bool true)], args := [d1, d2] }
  | _ => none }
def fnExactSameFlashRow : OpenClaim := { program := "ytapopagphoiemaa", sum := "3e82189864c05066c9bb0f251071a14550bab69eaea0865f31a5e5de6c755517", func := "loop.example/g00563/laws.FnExactSameFlash", spec := "fnExactSameFlash", apart := false }
def FnExactSameFlashSaid : Prop := fnExactSameFlashRow.holds Try.pinned (OpenSpec.ofChange fnExactSameFlashSpec)

/-- ITS FALSE NEIGHBOUR: 'it returns false'. Refute it at one input. -/
def fnExactSameFlashWrong : ChangeSpec := { name := "fnExactSameFlash", fn := fun _ => fun
  | [d1, d2] => { results := [.lit (.bool false)], args := [d1, d2] }
  | _ => none }
def FnExactSameFlashWrongFalsely : Prop := fnExactSameFlashRow.holds Try.pinned (OpenSpec.ofChange fnExactSameFlashWrong)

/- THE SECOND FORM. 'bulk': how many values and letters a reading holds, each counted each time it is reached (what is shared counts as often as it is met; a slice's spare places count too). A statement '..UptoSaid' is the law's where the arguments, and the package variables that the reading takes, are together of bulk at most 1048576: NARROWER than '..Said'. Prove '..Said' where nothing that the law and all that it calls make is longer than what came in: it says more and counts as full. Else prove '..UptoSaid'. A law counts once. -/
mutual
def uptoBulk {H : Type} : DataW H → Nat
  | .lit (.string bytes) => bytes.length + 1
  | .lit _ => 1
  | .nil => 1
  | .ptr d => uptoBulk d + 1
  | .slice elems spare => uptoBulkAll elems + uptoBulkAll spare + 1
  | .agg parts => uptoBulkAll parts + 1
  | .iface _ d => uptoBulk d + 1
  | .map entries => uptoBulkEntries entries + 1
  | .held _ => 1
def uptoBulkAll {H : Type} : List (DataW H) → Nat
  | [] => 0
  | d :: r => uptoBulk d + uptoBulkAll r
def uptoBulkEntries {H : Type} : List (Lit × DataW H) → Nat
  | [] => 0
  | x :: r => uptoBulkEntry x + uptoBulkEntries r
def uptoBulkEntry {H : Type} : Lit × DataW H → Nat
  | (.string bytes, d) => bytes.length + uptoBulk d + 1
  | (_, d) => uptoBulk d + 1
 end
def uptoSmall : (H : Type) → List (DataW H) → Bool := fun _ ds => decide (uptoBulkAll ds ≤ 1048576)
def OpenSpec.upto (s : _root_.Go.ChangeSpec) : _root_.Go.OpenSpec := { _root_.Go.OpenSpec.ofChange s with cond := some uptoSmall }

/-- 'laws.FnCycle', WHERE WHAT IT READS IS OF BULK AT MOST 1048576: true; the input reads as it did. -/
def fnCycleUptoRow : OpenClaim := { program := "ytapopagphoiemaa", sum := "3e82189864c05066c9bb0f251071a14550bab69eaea0865f31a5e5de6c755517", func := "loop.example/g00563/laws.FnCycle", spec := "fnCycle", apart := false, narrowed := true }
def FnCycleUptoSaid : Prop := fnCycleUptoRow.holds Try.pinned (OpenSpec.upto fnCycleSpec)

/-- 'laws.FnExactNewFlash', WHERE WHAT IT READS IS OF BULK AT MOST 1048576: true; the input reads as it did. -/
def fnExactNewFlashUptoRow : OpenClaim := { program := "ytapopagphoiemaa", sum := "3e82189864c05066c9bb0f251071a14550bab69eaea0865f31a5e5de6c755517", func := "loop.example/g00563/laws.FnExactNewFlash", spec := "fnExactNewFlash", apart := false, narrowed := true }
def FnExactNewFlashUptoSaid : Prop := fnExactNewFlashUptoRow.holds Try.pinned (OpenSpec.upto fnExactNewFlashSpec)

/-- 'laws.FnExactFlashOK', WHERE WHAT IT READS IS OF BULK AT MOST 1048576: true; the input reads as it did. -/
def fnExactFlashOKUptoRow : OpenClaim := { program := "ytapopagphoiemaa", sum := "3e82189864c05066c9bb0f251071a14550bab69eaea0865f31a5e5de6c755517", func := "loop.example/g00563/laws.FnExactFlashOK", spec := "fnExactFlashOK", apart := false, narrowed := true }
def FnExactFlashOKUptoSaid : Prop := fnExactFlashOKUptoRow.holds Try.pinned (OpenSpec.upto fnExactFlashOKSpec)

/-- 'laws.FnExactBlockOf', WHERE WHAT IT READS IS OF BULK AT MOST 1048576: true; the input reads as it did. -/
def fnExactBlockOfUptoRow : OpenClaim := { program := "ytapopagphoiemaa", sum := "3e82189864c05066c9bb0f251071a14550bab69eaea0865f31a5e5de6c755517", func := "loop.example/g00563/laws.FnExactBlockOf", spec := "fnExactBlockOf", apart := false, narrowed := true }
def FnExactBlockOfUptoSaid : Prop := fnExactBlockOfUptoRow.holds Try.pinned (OpenSpec.upto fnExactBlockOfSpec)

/-- 'laws.FnExactBusWrite', WHERE WHAT IT READS IS OF BULK AT MOST 1048576: true; the input reads as it did. -/
def fnExactBusWriteUptoRow : OpenClaim := { program := "ytapopagphoiemaa", sum := "3e82189864c05066c9bb0f251071a14550bab69eaea0865f31a5e5de6c755517", func := "loop.example/g00563/laws.FnExactBusWrite", spec := "fnExactBusWrite", apart := false, narrowed := true }
def FnExactBusWriteUptoSaid : Prop := fnExactBusWriteUptoRow.holds Try.pinned (OpenSpec.upto fnExactBusWriteSpec)

/-- 'laws.FnExactBusRead', WHERE WHAT IT READS IS OF BULK AT MOST 1048576: true; the input reads as it did. -/
def fnExactBusReadUptoRow : OpenClaim := { program := "ytapopagphoiemaa", sum := "3e82189864c05066c9bb0f251071a14550bab69eaea0865f31a5e5de6c755517", func := "loop.example/g00563/laws.FnExactBusRead", spec := "fnExactBusRead", apart := false, narrowed := true }
def FnExactBusReadUptoSaid : Prop := fnExactBusReadUptoRow.holds Try.pinned (OpenSpec.upto fnExactBusReadSpec)

/-- 'laws.FnExactProgramCell', WHERE WHAT IT READS IS OF BULK AT MOST 1048576: true; the input reads as it did. -/
def fnExactProgramCellUptoRow : OpenClaim := { program := "ytapopagphoiemaa", sum := "3e82189864c05066c9bb0f251071a14550bab69eaea0865f31a5e5de6c755517", func := "loop.example/g00563/laws.FnExactProgramCell", spec := "fnExactProgramCell", apart := false, narrowed := true }
def FnExactProgramCellUptoSaid : Prop := fnExactProgramCellUptoRow.holds Try.pinned (OpenSpec.upto fnExactProgramCellSpec)

/-- 'laws.FnExactEraseBlock', WHERE WHAT IT READS IS OF BULK AT MOST 1048576: true; the input reads as it did. -/
def fnExactEraseBlockUptoRow : OpenClaim := { program := "ytapopagphoiemaa", sum := "3e82189864c05066c9bb0f251071a14550bab69eaea0865f31a5e5de6c755517", func := "loop.example/g00563/laws.FnExactEraseBlock", spec := "fnExactEraseBlock", apart := false, narrowed := true }
def FnExactEraseBlockUptoSaid : Prop := fnExactEraseBlockUptoRow.holds Try.pinned (OpenSpec.upto fnExactEraseBlockSpec)

/-- 'laws.FnExactGuardBlock', WHERE WHAT IT READS IS OF BULK AT MOST 1048576: true; the input reads as it did. -/
def fnExactGuardBlockUptoRow : OpenClaim := { program := "ytapopagphoiemaa", sum := "3e82189864c05066c9bb0f251071a14550bab69eaea0865f31a5e5de6c755517", func := "loop.example/g00563/laws.FnExactGuardBlock", spec := "fnExactGuardBlock", apart := false, narrowed := true }
def FnExactGuardBlockUptoSaid : Prop := fnExactGuardBlockUptoRow.holds Try.pinned (OpenSpec.upto fnExactGuardBlockSpec)

/-- 'laws.FnExactSameFlash', WHERE WHAT IT READS IS OF BULK AT MOST 1048576: true; the input reads as it did. -/
def fnExactSameFlashUptoRow : OpenClaim := { program := "ytapopagphoiemaa", sum := "3e82189864c05066c9bb0f251071a14550bab69eaea0865f31a5e5de6c755517", func := "loop.example/g00563/laws.FnExactSameFlash", spec := "fnExactSameFlash", apart := false, narrowed := true }
def FnExactSameFlashUptoSaid : Prop := fnExactSameFlashUptoRow.holds Try.pinned (OpenSpec.upto fnExactSameFlashSpec)

end Rows
end Go.Proofs.Ytapopagphoiemaa
