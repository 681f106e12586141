/-
  No cell of these rows narrows 'for every input' (looked for: loops, veiled, ifaces, maps, wideKeys, modest, calm, conditions, laid).
  DERIVED. THE GIVEN ROWS OF THIS SEAT. 6 by the template 'for every input the law returns true; each argument reads behind the call as it read before'; 0 by the template 'total and deterministic' (their statements: YtngoijchebfolaaTotals.lean).
  GIVEN WITH THE SEED: the statements are not yours to turn. If you find one false, say at which input.
  Laid BY PROGRAM, IN A SANDBOX (cutbox-rows.mjs): the forced cells as the released guide's own fill.sh prints them over the translation ac4c69a85b923f13… (all of the seat's roots in one cut). By AI agents, Wed Nov 11 2026. No macro, syntax, notation, axiom, sorry.
-/
import Derived.Test.YtngoijchebfolaaChecked
import GoSem.Claim
import GoSem.ClaimJoined
import GoSem.ClaimMapViews
import Derived.JoinedTies
import Derived.KernelRfl
namespace Go.Proofs.Ytngoijchebfolaa
/- THE CELL 'sum', in the pinned program and in every row, IS THE sha256 OF THE DUMP (.gsa) THAT YtngoijchebfolaaProg.lean LOADS. Nothing in Lean hashes anything: it is a label: what it is worth is what the hold of that sum in a sandbox is worth. -/
noncomputable def Try.pinned : Pinned := { name := "ytngoijchebfolaa", sum := "ac4c69a85b923f1375075a696225cb69cb36b046aa4bab9e292c0340bf072df6", checked := Try.checked }
namespace Rows
def none {H : Type} : Left H := { results := [], args := [] }

/-- 'laws.FnDma': WHATEVER THE INPUT: true; the input reads as it did. -/
def fnDmaSpec : ChangeSpec := { name := "fnDma", fn := fun _ => fun
  | [d1, d2] => { results := [.lit (.bool true)], args := [d1, d2] }
  | _ => none }
def fnDmaRow : OpenClaim := { program := "ytngoijchebfolaa", sum := "ac4c69a85b923f1375075a696225cb69cb36b046aa4bab9e292c0340bf072df6", func := "loop.example/g00563/laws.FnDma", spec := "fnDma", unfollowed := true, recurses := true, apart := false }
def FnDmaSaid : Prop := fnDmaRow.holds Try.pinned (OpenSpec.ofChange fnDmaSpec)

/-- ITS FALSE NEIGHBOUR: 'it returns false'. Refute it at one input. -/
def fnDmaWrong : ChangeSpec := { name := "fnDma", fn := fun _ => fun
  | [d1, d2] => { results := [.lit (.bool false)], args := [d1, d2] }
  | _ => none }
def FnDmaWrongFalsely : Prop := fnDmaRow.holds Try.pinned (OpenSpec.ofChange fnDmaWrong)

/-- 'laws.FnExactEnterIrq': WHATEVER THE INPUT: true; the input reads as it did. -/
def fnExactEnterIrqSpec : ChangeSpec := { name := "fnExactEnterIrq", fn := fun _ => fun
  | [d1, d2, d3, d4] => { results := [.lit (.bool true)], args := [d1, d2, d3, d4] }
  | _ => none }
def fnExactEnterIrqRow : OpenClaim := { program := "ytngoijchebfolaa", sum := "ac4c69a85b923f1375075a696225cb69cb36b046aa4bab9e292c0340bf072df6", func := "loop.example/g00563/laws.FnExactEnterIrq", spec := "fnExactEnterIrq", unfollowed := true, recurses := true, apart := false }
def FnExactEnterIrqSaid : Prop := fnExactEnterIrqRow.holds Try.pinned (OpenSpec.ofChange fnExactEnterIrqSpec)

/-- ITS FALSE NEIGHBOUR: 'it returns false'. Refute it at one input. -/
def fnExactEnterIrqWrong : ChangeSpec := { name := "fnExactEnterIrq", fn := fun _ => fun
  | [d1, d2, d3, d4] => { results := [.lit (.bool false)], args := [d1, d2, d3, d4] }
  | _ => none }
def FnExactEnterIrqWrongFalsely : Prop := fnExactEnterIrqRow.holds Try.pinned (OpenSpec.ofChange fnExactEnterIrqWrong)

/-- 'laws.FnExactDmaOK': WHATEVER THE INPUT: true; the input reads as it did. -/
def fnExactDmaOKSpec : ChangeSpec := { name := "fnExactDmaOK", fn := fun _ => fun
  | [d] => { results := [.lit (.bool true)], args := [d] }
  | _ => none }
def fnExactDmaOKRow : OpenClaim := { program := "ytngoijchebfolaa", sum := "ac4c69a85b923f1375075a696225cb69cb36b046aa4bab9e292c0340bf072df6", func := "loop.example/g00563/laws.FnExactDmaOK", spec := "fnExactDmaOK", apart := false }
def FnExactDmaOKSaid : Prop := fnExactDmaOKRow.holds Try.pinned (OpenSpec.ofChange fnExactDmaOKSpec)

/-- ITS FALSE NEIGHBOUR: 'it returns false'. Refute it at one input. -/
def fnExactDmaOKWrong : ChangeSpec := { name := "fnExactDmaOK", fn := fun _ => fun
  | [d] => { results := [.lit (.bool false)], args := [d] }
  | _ => none }
def FnExactDmaOKWrongFalsely : Prop := fnExactDmaOKRow.holds Try.pinned (OpenSpec.ofChange fnExactDmaOKWrong)

/-- 'laws.FnExactNewDma': WHATEVER THE INPUT: true; the input reads as it did. -/
def fnExactNewDmaSpec : ChangeSpec := { name := "fnExactNewDma", fn := fun _ => fun
  | [] => { results := [.lit (.bool true)], args := [] }
  | _ => none }
def fnExactNewDmaRow : OpenClaim := { program := "ytngoijchebfolaa", sum := "ac4c69a85b923f1375075a696225cb69cb36b046aa4bab9e292c0340bf072df6", func := "loop.example/g00563/laws.FnExactNewDma", spec := "fnExactNewDma", apart := false }
def FnExactNewDmaSaid : Prop := fnExactNewDmaRow.holds Try.pinned (OpenSpec.ofChange fnExactNewDmaSpec)

/-- ITS FALSE NEIGHBOUR: 'it returns false'. Refute it at one input. -/
def fnExactNewDmaWrong : ChangeSpec := { name := "fnExactNewDma", fn := fun _ => fun
  | [] => { results := [.lit (.bool false)], args := [] }
  | _ => none }
def FnExactNewDmaWrongFalsely : Prop := fnExactNewDmaRow.holds Try.pinned (OpenSpec.ofChange fnExactNewDmaWrong)

/-- 'laws.FnExactSetChannel': WHATEVER THE INPUT: true; the input reads as it did. -/
def fnExactSetChannelSpec : ChangeSpec := { name := "fnExactSetChannel", fn := fun _ => fun
  | [d1, d2, d3] => { results := [.lit (.bool true)], args := [d1, d2, d3] }
  | _ => none }
def fnExactSetChannelRow : OpenClaim := { program := "ytngoijchebfolaa", sum := "ac4c69a85b923f1375075a696225cb69cb36b046aa4bab9e292c0340bf072df6", func := "loop.example/g00563/laws.FnExactSetChannel", spec := "fnExactSetChannel", apart := false }
def FnExactSetChannelSaid : Prop := fnExactSetChannelRow.holds Try.pinned (OpenSpec.ofChange fnExactSetChannelSpec)

/-- ITS FALSE NEIGHBOUR: 'it returns false'. Refute it at one input. -/
def fnExactSetChannelWrong : ChangeSpec := { name := "fnExactSetChannel", fn := fun _ => fun
  | [d1, d2, d3] => { results := [.lit (.bool false)], args := [d1, d2, d3] }
  | _ => none }
def FnExactSetChannelWrongFalsely : Prop := fnExactSetChannelRow.holds Try.pinned (OpenSpec.ofChange fnExactSetChannelWrong)

/-- 'laws.FnExactDmaMove': WHATEVER THE INPUT: true; the input reads as it did. -/
def fnExactDmaMoveSpec : ChangeSpec := { name := "fnExactDmaMove", fn := fun _ => fun
  | [d1, d2, d3] => { results := [.lit (.bool true)], args := [d1, d2, d3] }
  | _ => none }
def fnExactDmaMoveRow : OpenClaim := { program := "ytngoijchebfolaa", sum := "ac4c69a85b923f1375075a696225cb69cb36b046aa4bab9e292c0340bf072df6", func := "loop.example/g00563/laws.FnExactDmaMove", spec := "fnExactDmaMove", unfollowed := true, recurses := true, apart := false }
def FnExactDmaMoveSaid : Prop := fnExactDmaMoveRow.holds Try.pinned (OpenSpec.ofChange fnExactDmaMoveSpec)

/-- ITS FALSE NEIGHBOUR: 'it returns false'. Refute it at one input. -/
def fnExactDmaMoveWrong : ChangeSpec := { name := "fnExactDmaMove", fn := fun _ => fun
  | [d1, d2, d3] => { results := [.lit (.bool false)], args := [d1, d2, d3] }
  | _ => none }
def FnExactDmaMoveWrongFalsely : Prop := fnExactDmaMoveRow.holds Try.pinned (OpenSpec.ofChange fnExactDmaMoveWrong)

/- THE SECOND FORM. 'bulk': how many values and letters a reading holds, each counted each time it is reached (what is shared counts as often as it is met; a slice's spare places count too). A statement '..UptoSaid' is the law's where the arguments, and the package variables that the reading takes, are together of bulk at most 1048576: NARROWER than '..Said'. Prove '..Said' where nothing that the law and all that it calls make is longer than what came in: it says more and counts as full. Else prove '..UptoSaid'. A law counts once. -/
mutual
def uptoBulk {H : Type} : DataW H → Nat
  | .lit (.string bytes) => bytes.length + 1
  | .lit _ => 1
  | .nil => 1
  | .ptr d => uptoBulk d + 1
  | .slice elems spare => uptoBulkAll elems + uptoBulkAll spare + 1
  | .agg parts => uptoBulkAll parts + 1
  | .iface _ d => uptoBulk d + 1
  | .map entries => uptoBulkEntries entries + 1
  | .held _ => 1
def uptoBulkAll {H : Type} : List (DataW H) → Nat
  | [] => 0
  | d :: r => uptoBulk d + uptoBulkAll r
def uptoBulkEntries {H : Type} : List (Lit × DataW H) → Nat
  | [] => 0
  | x :: r => uptoBulkEntry x + uptoBulkEntries r
def uptoBulkEntry {H : Type} : Lit × DataW H → Nat
  | (.string bytes, d) => bytes.length + uptoBulk d + 1
  | (_, d) => uptoBulk d + 1
 end
def uptoSmall : (H : Type) → List (DataW H) → Bool := fun _ ds => decide (uptoBulkAll ds ≤ 1048576)
def OpenSpec.upto (s : _root_.Go.ChangeSpec) : _root_.Go.OpenSpec := { _root_.Go.OpenSpec.ofChange s with cond := some uptoSmall }

/-- 'laws.FnDma', WHERE WHAT IT READS IS OF BULK AT MOST 1048576: true; the input reads as it did. -/
def fnDmaUptoRow : OpenClaim := { program := "ytngoijchebfolaa", sum := "ac4c69a85b923f1375075a696225cb69cb36b046aa4bab9e292c0340bf072df6", func := "loop.example/g00563/laws.FnDma", spec := "fnDma", unfollowed := true, recurses := true, apart := false, narrowed := true }
def FnDmaUptoSaid : Prop := fnDmaUptoRow.holds Try.pinned (OpenSpec.upto fnDmaSpec)

/-- 'laws.FnExactEnterIrq', WHERE WHAT IT READS IS OF BULK AT MOST 1048576: true; the input reads as it did. -/
def fnExactEnterIrqUptoRow : OpenClaim := { program := "ytngoijchebfolaa", sum := "ac4c69a85b923f1375075a696225cb69cb36b046aa4bab9e292c0340bf072df6", func := "loop.example/g00563/laws.FnExactEnterIrq", spec := "fnExactEnterIrq", unfollowed := true, recurses := true, apart := false, narrowed := true }
def FnExactEnterIrqUptoSaid : Prop := fnExactEnterIrqUptoRow.holds Try.pinned (OpenSpec.upto fnExactEnterIrqSpec)

/-- 'laws.FnExactDmaOK', WHERE WHAT IT READS IS OF BULK AT MOST 1048576: true; the input reads as it did. -/
def fnExactDmaOKUptoRow : OpenClaim := { program := "ytngoijchebfolaa", sum := "ac4c69a85b923f1375075a696225cb69cb36b046aa4bab9e292c0340bf072df6", func := "loop.example/g00563/laws.FnExactDmaOK", spec := "fnExactDmaOK", apart := false, narrowed := true }
def FnExactDmaOKUptoSaid : Prop := fnExactDmaOKUptoRow.holds Try.pinned (OpenSpec.upto fnExactDmaOKSpec)

/-- 'laws.FnExactNewDma', WHERE WHAT IT READS IS OF BULK AT MOST 1048576: true; the input reads as it did. -/
def fnExactNewDmaUptoRow : OpenClaim := { program := "ytngoijchebfolaa", sum := "ac4c69a85b923f1375075a696225cb69cb36b046aa4bab9e292c0340bf072df6", func := "loop.example/g00563/laws.FnExactNewDma", spec := "fnExactNewDma", apart := false, narrowed := true }
def FnExactNewDmaUptoSaid : Prop := fnExactNewDmaUptoRow.holds Try.pinned (OpenSpec.upto fnExactNewDmaSpec)

/-- 'laws.FnExactSetChannel', WHERE WHAT IT READS IS OF BULK AT MOST 1048576: true; the input reads as it did. -/
def fnExactSetChannelUptoRow : OpenClaim := { program := "ytngoijchebfolaa", sum := "ac4c69a85b923f1375075a696225cb69cb36b046aa4bab9e292c0340bf072df6", func := "loop.example/g00563/laws.FnExactSetChannel", spec := "fnExactSetChannel", apart := false, narrowed := true }
def FnExactSetChannelUptoSaid : Prop := fnExactSetChannelUptoRow.holds Try.pinned (OpenSpec.upto fnExactSetChannelSpec)

/-- 'laws.FnExactDmaMove', WHERE WHAT IT READS IS OF BULK AT MOST 1048576: true; the input reads as it did. -/
def fnExactDmaMoveUptoRow : OpenClaim := { program := "ytngoijchebfolaa", sum := "ac4c69a85b923f1375075a696225cb69cb36b046aa4bab9e292c0340bf072df6", func := "loop.example/g00563/laws.FnExactDmaMove", spec := "fnExactDmaMove", unfollowed := true, recurses := true, apart := false, narrowed := true }
def FnExactDmaMoveUptoSaid : Prop := fnExactDmaMoveUptoRow.holds Try.pinned (OpenSpec.upto fnExactDmaMoveSpec)

end Rows
end Go.Proofs.Ytngoijchebfolaa
