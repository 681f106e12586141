/-
  No cell of these rows narrows 'for every input' (looked for: loops, veiled, ifaces, maps, wideKeys, modest, calm, conditions, laid).
  DERIVED. THE GIVEN ROWS OF THIS SEAT. 8 by the template 'for every input the law returns true; each argument reads behind the call as it read before'; 0 by the template 'total and deterministic' (their statements: YtdanefhfngmipaaTotals.lean).
  GIVEN WITH THE SEED: the statements are not yours to turn. If you find one false, say at which input.
  Laid BY PROGRAM, IN A SANDBOX (cutbox-rows.mjs): the forced cells as the released guide's own fill.sh prints them over the translation 81bfc56c0435ca8b… (all of the seat's roots in one cut). By AI agents, Wed Nov 11 2026. No macro, syntax, notation, axiom, sorry.
-/
import Derived.Test.YtdanefhfngmipaaChecked
import GoSem.Claim
import GoSem.ClaimJoined
import GoSem.ClaimMapViews
import Derived.JoinedTies
import Derived.KernelRfl
namespace Go.Proofs.Ytdanefhfngmipaa
/- THE CELL 'sum', in the pinned program and in every row, IS THE sha256 OF THE DUMP (.gsa) THAT YtdanefhfngmipaaProg.lean LOADS. Nothing in Lean hashes anything: it is a label: what it is worth is what the hold of that sum in a sandbox is worth. -/
noncomputable def Try.pinned : Pinned := { name := "ytdanefhfngmipaa", sum := "81bfc56c0435ca8b0d52f2fc34d4f04b5ba72825235cfcc33aa5b9ba8bc75340", checked := Try.checked }
namespace Rows
def none {H : Type} : Left H := { results := [], args := [] }

/-- 'laws.FnBus': WHATEVER THE INPUT: true; the input reads as it did. -/
def fnBusSpec : ChangeSpec := { name := "fnBus", fn := fun _ => fun
  | [d1, d2] => { results := [.lit (.bool true)], args := [d1, d2] }
  | _ => none }
def fnBusRow : OpenClaim := { program := "ytdanefhfngmipaa", sum := "81bfc56c0435ca8b0d52f2fc34d4f04b5ba72825235cfcc33aa5b9ba8bc75340", func := "loop.example/g00563/laws.FnBus", spec := "fnBus", unfollowed := true, recurses := true, apart := false }
def FnBusSaid : Prop := fnBusRow.holds Try.pinned (OpenSpec.ofChange fnBusSpec)

/-- ITS FALSE NEIGHBOUR: 'it returns false'. Refute it at one input. -/
def fnBusWrong : ChangeSpec := { name := "fnBus", fn := fun _ => fun
  | [d1, d2] => { results := [.lit (.bool false)], args := [d1, d2] }
  | _ => none }
def FnBusWrongFalsely : Prop := fnBusRow.holds Try.pinned (OpenSpec.ofChange fnBusWrong)

/-- 'laws.FnExactBusRead': WHATEVER THE INPUT: true; the input reads as it did. -/
def fnExactBusReadSpec : ChangeSpec := { name := "fnExactBusRead", fn := fun _ => fun
  | [d1, d2] => { results := [.lit (.bool true)], args := [d1, d2] }
  | _ => none }
def fnExactBusReadRow : OpenClaim := { program := "ytdanefhfngmipaa", sum := "81bfc56c0435ca8b0d52f2fc34d4f04b5ba72825235cfcc33aa5b9ba8bc75340", func := "loop.example/g00563/laws.FnExactBusRead", spec := "fnExactBusRead", apart := false }
def FnExactBusReadSaid : Prop := fnExactBusReadRow.holds Try.pinned (OpenSpec.ofChange fnExactBusReadSpec)

/-- ITS FALSE NEIGHBOUR: 'it returns false'. Refute it at one input. -/
def fnExactBusReadWrong : ChangeSpec := { name := "fnExactBusRead", fn := fun _ => fun
  | [d1, d2] => { results := [.lit (.bool false)], args := [d1, d2] }
  | _ => none }
def FnExactBusReadWrongFalsely : Prop := fnExactBusReadRow.holds Try.pinned (OpenSpec.ofChange fnExactBusReadWrong)

/-- 'laws.FnExactMemOK': WHATEVER THE INPUT: true; the input reads as it did. -/
def fnExactMemOKSpec : ChangeSpec := { name := "fnExactMemOK", fn := fun _ => fun
  | [d] => { results := [.lit (.bool true)], args := [d] }
  | _ => none }
def fnExactMemOKRow : OpenClaim := { program := "ytdanefhfngmipaa", sum := "81bfc56c0435ca8b0d52f2fc34d4f04b5ba72825235cfcc33aa5b9ba8bc75340", func := "loop.example/g00563/laws.FnExactMemOK", spec := "fnExactMemOK", apart := false }
def FnExactMemOKSaid : Prop := fnExactMemOKRow.holds Try.pinned (OpenSpec.ofChange fnExactMemOKSpec)

/-- ITS FALSE NEIGHBOUR: 'it returns false'. Refute it at one input. -/
def fnExactMemOKWrong : ChangeSpec := { name := "fnExactMemOK", fn := fun _ => fun
  | [d] => { results := [.lit (.bool false)], args := [d] }
  | _ => none }
def FnExactMemOKWrongFalsely : Prop := fnExactMemOKRow.holds Try.pinned (OpenSpec.ofChange fnExactMemOKWrong)

/-- 'laws.FnExactNewMem': WHATEVER THE INPUT: true; the input reads as it did. -/
def fnExactNewMemSpec : ChangeSpec := { name := "fnExactNewMem", fn := fun _ => fun
  | [d] => { results := [.lit (.bool true)], args := [d] }
  | _ => none }
def fnExactNewMemRow : OpenClaim := { program := "ytdanefhfngmipaa", sum := "81bfc56c0435ca8b0d52f2fc34d4f04b5ba72825235cfcc33aa5b9ba8bc75340", func := "loop.example/g00563/laws.FnExactNewMem", spec := "fnExactNewMem", apart := false }
def FnExactNewMemSaid : Prop := fnExactNewMemRow.holds Try.pinned (OpenSpec.ofChange fnExactNewMemSpec)

/-- ITS FALSE NEIGHBOUR: 'it returns false'. Refute it at one input. -/
def fnExactNewMemWrong : ChangeSpec := { name := "fnExactNewMem", fn := fun _ => fun
  | [d] => { results := [.lit (.bool false)], args := [d] }
  | _ => none }
def FnExactNewMemWrongFalsely : Prop := fnExactNewMemRow.holds Try.pinned (OpenSpec.ofChange fnExactNewMemWrong)

/-- 'laws.FnExactRegion': WHATEVER THE INPUT: true; the input reads as it did. -/
def fnExactRegionSpec : ChangeSpec := { name := "fnExactRegion", fn := fun _ => fun
  | [d] => { results := [.lit (.bool true)], args := [d] }
  | _ => none }
def fnExactRegionRow : OpenClaim := { program := "ytdanefhfngmipaa", sum := "81bfc56c0435ca8b0d52f2fc34d4f04b5ba72825235cfcc33aa5b9ba8bc75340", func := "loop.example/g00563/laws.FnExactRegion", spec := "fnExactRegion", apart := false }
def FnExactRegionSaid : Prop := fnExactRegionRow.holds Try.pinned (OpenSpec.ofChange fnExactRegionSpec)

/-- ITS FALSE NEIGHBOUR: 'it returns false'. Refute it at one input. -/
def fnExactRegionWrong : ChangeSpec := { name := "fnExactRegion", fn := fun _ => fun
  | [d] => { results := [.lit (.bool false)], args := [d] }
  | _ => none }
def FnExactRegionWrongFalsely : Prop := fnExactRegionRow.holds Try.pinned (OpenSpec.ofChange fnExactRegionWrong)

/-- 'laws.FnExactBusGet': WHATEVER THE INPUT: true; the input reads as it did. -/
def fnExactBusGetSpec : ChangeSpec := { name := "fnExactBusGet", fn := fun _ => fun
  | [d1, d2] => { results := [.lit (.bool true)], args := [d1, d2] }
  | _ => none }
def fnExactBusGetRow : OpenClaim := { program := "ytdanefhfngmipaa", sum := "81bfc56c0435ca8b0d52f2fc34d4f04b5ba72825235cfcc33aa5b9ba8bc75340", func := "loop.example/g00563/laws.FnExactBusGet", spec := "fnExactBusGet", unfollowed := true, recurses := true, apart := false }
def FnExactBusGetSaid : Prop := fnExactBusGetRow.holds Try.pinned (OpenSpec.ofChange fnExactBusGetSpec)

/-- ITS FALSE NEIGHBOUR: 'it returns false'. Refute it at one input. -/
def fnExactBusGetWrong : ChangeSpec := { name := "fnExactBusGet", fn := fun _ => fun
  | [d1, d2] => { results := [.lit (.bool false)], args := [d1, d2] }
  | _ => none }
def FnExactBusGetWrongFalsely : Prop := fnExactBusGetRow.holds Try.pinned (OpenSpec.ofChange fnExactBusGetWrong)

/-- 'laws.FnExactBusPut': WHATEVER THE INPUT: true; the input reads as it did. -/
def fnExactBusPutSpec : ChangeSpec := { name := "fnExactBusPut", fn := fun _ => fun
  | [d1, d2, d3] => { results := [.lit (.bool true)], args := [d1, d2, d3] }
  | _ => none }
def fnExactBusPutRow : OpenClaim := { program := "ytdanefhfngmipaa", sum := "81bfc56c0435ca8b0d52f2fc34d4f04b5ba72825235cfcc33aa5b9ba8bc75340", func := "loop.example/g00563/laws.FnExactBusPut", spec := "fnExactBusPut", unfollowed := true, recurses := true, apart := false }
def FnExactBusPutSaid : Prop := fnExactBusPutRow.holds Try.pinned (OpenSpec.ofChange fnExactBusPutSpec)

/-- ITS FALSE NEIGHBOUR: 'it returns false'. Refute it at one input. -/
def fnExactBusPutWrong : ChangeSpec := { name := "fnExactBusPut", fn := fun _ => fun
  | [d1, d2, d3] => { results := [.lit (.bool false)], args := [d1, d2, d3] }
  | _ => none }
def FnExactBusPutWrongFalsely : Prop := fnExactBusPutRow.holds Try.pinned (OpenSpec.ofChange fnExactBusPutWrong)

/-- 'laws.FnExactSameMem': WHATEVER THE INPUT: true; the input reads as it did. -/
def fnExactSameMemSpec : ChangeSpec := { name := "fnExactSameMem", fn := fun _ => fun
  | [d1, d2] => { results := [.lit (.bool true)], args := [d1, d2] }
  | _ => none }
def fnExactSameMemRow : OpenClaim := { program := "ytdanefhfngmipaa", sum := "81bfc56c0435ca8b0d52f2fc34d4f04b5ba72825235cfcc33aa5b9ba8bc75340", func := "loop.example/g00563/laws.FnExactSameMem", spec := "fnExactSameMem", apart := false }
def FnExactSameMemSaid : Prop := fnExactSameMemRow.holds Try.pinned (OpenSpec.ofChange fnExactSameMemSpec)

/-- ITS FALSE NEIGHBOUR: 'it returns false'. Refute it at one input. -/
def fnExactSameMemWrong : ChangeSpec := { name := "fnExactSameMem", fn := fun _ => fun
  | [d1, d2] => { results := [.lit (.bool false)], args := [d1, d2] }
  | _ => none }
def FnExactSameMemWrongFalsely : Prop := fnExactSameMemRow.holds Try.pinned (OpenSpec.ofChange fnExactSameMemWrong)

/- THE SECOND FORM. 'bulk': how many values and letters a reading holds, each counted each time it is reached (what is shared counts as often as it is met; a slice's spare places count too). A statement '..UptoSaid' is the law's where the arguments, and the package variables that the reading takes, are together of bulk at most 1048576: NARROWER than '..Said'. Prove '..Said' where nothing that the law and all that it calls make is longer than what came in: it says more and counts as full. Else prove '..UptoSaid'. A law counts once. -/
mutual
def uptoBulk {H : Type} : DataW H → Nat
  | .lit (.string bytes) => bytes.length + 1
  | .lit _ => 1
  | .nil => 1
  | .ptr d => uptoBulk d + 1
  | .slice elems spare => uptoBulkAll elems + uptoBulkAll spare + 1
  | .agg parts => uptoBulkAll parts + 1
  | .iface _ d => uptoBulk d + 1
  | .map entries => uptoBulkEntries entries + 1
  | .held _ => 1
def uptoBulkAll {H : Type} : List (DataW H) → Nat
  | [] => 0
  | d :: r => uptoBulk d + uptoBulkAll r
def uptoBulkEntries {H : Type} : List (Lit × DataW H) → Nat
  | [] => 0
  | x :: r => uptoBulkEntry x + uptoBulkEntries r
def uptoBulkEntry {H : Type} : Lit × DataW H → Nat
  | (.string bytes, d) => bytes.length + uptoBulk d + 1
  | (_, d) => uptoBulk d + 1
 end
def uptoSmall : (H : Type) → List (DataW H) → Bool := fun _ ds => decide (uptoBulkAll ds ≤ 1048576)
def OpenSpec.upto (s : _root_.Go.ChangeSpec) : _root_.Go.OpenSpec := { _root_.Go.OpenSpec.ofChange s with cond := some uptoSmall }

/-- 'laws.FnBus', WHERE WHAT IT READS IS OF BULK AT MOST 1048576: true; the input reads as it did. -/
def fnBusUptoRow : OpenClaim := { program := "ytdanefhfngmipaa", sum := "81bfc56c0435ca8b0d52f2fc34d4f04b5ba72825235cfcc33aa5b9ba8bc75340", func := "loop.example/g00563/laws.FnBus", spec := "fnBus", unfollowed := true, recurses := true, apart := false, narrowed := true }
def FnBusUptoSaid : Prop := fnBusUptoRow.holds Try.pinned (OpenSpec.upto fnBusSpec)

/-- 'laws.FnExactBusRead', WHERE WHAT IT READS IS OF BULK AT MOST 1048576: true; the input reads as it did. -/
def fnExactBusReadUptoRow : OpenClaim := { program := "ytdanefhfngmipaa", sum := "81bfc56c0435ca8b0d52f2fc34d4f04b5ba72825235cfcc33aa5b9ba8bc75340", func := "loop.example/g00563/laws.FnExactBusRead", spec := "fnExactBusRead", apart := false, narrowed := true }
def FnExactBusReadUptoSaid : Prop := fnExactBusReadUptoRow.holds Try.pinned (OpenSpec.upto fnExactBusReadSpec)

/-- 'laws.FnExactMemOK', WHERE WHAT IT READS IS OF BULK AT MOST 1048576: true; the input reads as it did. -/
def fnExactMemOKUptoRow : OpenClaim := { program := "ytdanefhfngmipaa", sum := "81bfc56c0435ca8b0d52f2fc34d4f04b5ba72825235cfcc33aa5b9ba8bc75340", func := "loop.example/g00563/laws.FnExactMemOK", spec := "fnExactMemOK", apart := false, narrowed := true }
def FnExactMemOKUptoSaid : Prop := fnExactMemOKUptoRow.holds Try.pinned (OpenSpec.upto fnExactMemOKSpec)

/-- 'laws.FnExactNewMem', WHERE WHAT IT READS IS OF BULK AT MOST 1048576: true; the input reads as it did. -/
def fnExactNewMemUptoRow : OpenClaim := { program := "ytdanefhfngmipaa", sum := "81bfc56c0435ca8b0d52f2fc34d4f04b5ba72825235cfcc33aa5b9ba8bc75340", func := "loop.example/g00563/laws.FnExactNewMem", spec := "fnExactNewMem", apart := false, narrowed := true }
def FnExactNewMemUptoSaid : Prop := fnExactNewMemUptoRow.holds Try.pinned (OpenSpec.upto fnExactNewMemSpec)

/-- 'laws.FnExactRegion', WHERE WHAT IT READS IS OF BULK AT MOST 1048576: true; the input reads as it did. -/
def fnExactRegionUptoRow : OpenClaim := { program := "ytdanefhfngmipaa", sum := "81bfc56c0435ca8b0d52f2fc34d4f04b5ba72825235cfcc33aa5b9ba8bc75340", func := "loop.example/g00563/laws.FnExactRegion", spec := "fnExactRegion", apart := false, narrowed := true }
def FnExactRegionUptoSaid : Prop := fnExactRegionUptoRow.holds Try.pinned (OpenSpec.upto fnExactRegionSpec)

/-- 'laws.FnExactBusGet', WHERE WHAT IT READS IS OF BULK AT MOST 1048576: true; the input reads as it did. -/
def fnExactBusGetUptoRow : OpenClaim := { program := "ytdanefhfngmipaa", sum := "81bfc56c0435ca8b0d52f2fc34d4f04b5ba72825235cfcc33aa5b9ba8bc75340", func := "loop.example/g00563/laws.FnExactBusGet", spec := "fnExactBusGet", unfollowed := true, recurses := true, apart := false, narrowed := true }
def FnExactBusGetUptoSaid : Prop := fnExactBusGetUptoRow.holds Try.pinned (OpenSpec.upto fnExactBusGetSpec)

/-- 'laws.FnExactBusPut', WHERE WHAT IT READS IS OF BULK AT MOST 1048576: true; the input reads as it did. -/
def fnExactBusPutUptoRow : OpenClaim := { program := "ytdanefhfngmipaa", sum := "81bfc56c0435ca8b0d52f2fc34d4f04b5ba72825235cfcc33aa5b9ba8bc75340", func := "loop.example/g00563/laws.FnExactBusPut", spec := "fnExactBusPut", unfollowed := true, recurses := true, apart := false, narrowed := true }
def FnExactBusPutUptoSaid : Prop := fnExactBusPutUptoRow.holds Try.pinned (OpenSpec.upto fnExactBusPutSpec)

/-- 'laws.FnExactSameMem', WHERE WHAT IT READS IS OF BULK AT MOST 1048576: true; the input reads as it did. -/
def fnExactSameMemUptoRow : OpenClaim := { program := "ytdanefhfngmipaa", sum := "81bfc56c0435ca8b0d52f2fc34d4f04b5ba72825235cfcc33aa5b9ba8bc75340", func := "loop.example/g00563/laws.FnExactSameMem", spec := "fnExactSameMem", apart := false, narrowed := true }
def FnExactSameMemUptoSaid : Prop := fnExactSameMemUptoRow.holds Try.pinned (OpenSpec.upto fnExactSameMemSpec)

end Rows
end Go.Proofs.Ytdanefhfngmipaa
