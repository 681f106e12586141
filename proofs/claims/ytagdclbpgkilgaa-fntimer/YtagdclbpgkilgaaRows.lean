/-
  No cell of these rows narrows 'for every input' (looked for: loops, veiled, ifaces, maps, wideKeys, modest, calm, conditions, laid).
  DERIVED. THE GIVEN ROWS OF THIS SEAT. 7 by the template 'for every input the law returns true; each argument reads behind the call as it read before'; 0 by the template 'total and deterministic' (their statements: YtagdclbpgkilgaaTotals.lean).
  GIVEN WITH THE SEED: the statements are not yours to turn. If you find one false, say at which input.
  Laid BY PROGRAM, IN A SANDBOX (cutbox-rows.mjs): the forced cells as the released guide's own fill.sh prints them over the translation fa535db8f4deddfe… (all of the seat's roots in one cut). By AI agents, Wed Nov 11 2026. No macro, syntax, notation, axiom, sorry.
-/
import Derived.Test.YtagdclbpgkilgaaChecked
import GoSem.Claim
import GoSem.ClaimJoined
import GoSem.ClaimMapViews
import Derived.JoinedTies
import Derived.KernelRfl
namespace Go.Proofs.Ytagdclbpgkilgaa
/- THE CELL 'sum', in the pinned program and in every row, IS THE sha256 OF THE DUMP (.gsa) THAT YtagdclbpgkilgaaProg.lean LOADS. Nothing in Lean hashes anything: it is a label: what it is worth is what the hold of that sum in a sandbox is worth. -/
noncomputable def Try.pinned : Pinned := { name := "ytagdclbpgkilgaa", sum := "fa535db8f4deddfeaf1b7c32669af007246487e0e5294785b68176dba869db8a", checked := Try.checked }
namespace Rows
def none {H : Type} : Left H := { results := [], args := [] }

/-- 'laws.FnDma': WHATEVER THE INPUT: true; the input reads as it did. -/
def fnDmaSpec : ChangeSpec := { name := "fnDma", fn := fun _ => fun
  | [d1, d2] => { results := [.lit (.bool true)], args := [d1, d2] }
  | _ => none }
def fnDmaRow : OpenClaim := { program := "ytagdclbpgkilgaa", sum := "fa535db8f4deddfeaf1b7c32669af007246487e0e5294785b68176dba869db8a", func := "loop.example/g00563/laws.FnDma", spec := "fnDma", unfollowed := true, recurses := true, apart := false }
def FnDmaSaid : Prop := fnDmaRow.holds Try.pinned (OpenSpec.ofChange fnDmaSpec)

/-- ITS FALSE NEIGHBOUR: 'it returns false'. Refute it at one input. -/
def fnDmaWrong : ChangeSpec := { name := "fnDma", fn := fun _ => fun
  | [d1, d2] => { results := [.lit (.bool false)], args := [d1, d2] }
  | _ => none }
def FnDmaWrongFalsely : Prop := fnDmaRow.holds Try.pinned (OpenSpec.ofChange fnDmaWrong)

/-- 'laws.FnTimer': WHATEVER THE INPUT: true; the input reads as it did. -/
def fnTimerSpec : ChangeSpec := { name := "fnTimer", fn := fun _ => fun
  | [d1, d2] => { results := [.lit (.bool true)], args := [d1, d2] }
  | _ => none }
def fnTimerRow : OpenClaim := { program := "ytagdclbpgkilgaa", sum := "fa535db8f4deddfeaf1b7c32669af007246487e0e5294785b68176dba869db8a", func := "loop.example/g00563/laws.FnTimer", spec := "fnTimer", unfollowed := true, recurses := true, apart := false }
def FnTimerSaid : Prop := fnTimerRow.holds Try.pinned (OpenSpec.ofChange fnTimerSpec)

/-- ITS FALSE NEIGHBOUR: 'it returns false'. Refute it at one input. -/
def fnTimerWrong : ChangeSpec := { name := "fnTimer", fn := fun _ => fun
  | [d1, d2] => { results := [.lit (.bool false)], args := [d1, d2] }
  | _ => none }
def FnTimerWrongFalsely : Prop := fnTimerRow.holds Try.pinned (OpenSpec.ofChange fnTimerWrong)

/-- 'laws.FnChain': WHATEVER THE INPUT: true; the input reads as it did. -/
def fnChainSpec : ChangeSpec := { name := "fnChain", fn := fun _ => fun
  | [d1, d2] => { results := [.lit (.bool true)], args := [d1, d2] }
  | _ => none }
def fnChainRow : OpenClaim := { program := "ytagdclbpgkilgaa", sum := "fa535db8f4deddfeaf1b7c32669af007246487e0e5294785b68176dba869db8a", func := "loop.example/g00563/laws.FnChain", spec := "fnChain", unfollowed := true, recurses := true, apart := false }
def FnChainSaid : Prop := fnChainRow.holds Try.pinned (OpenSpec.ofChange fnChainSpec)

/-- ITS FALSE NEIGHBOUR: 'it returns false'. Refute it at one input. -/
def fnChainWrong : ChangeSpec := { name := "fnChain", fn := fun _ => fun
  | [d1, d2] => { results := [.lit (.bool false)], args := [d1, d2] }
  | _ => none }
def FnChainWrongFalsely : Prop := fnChainRow.holds Try.pinned (OpenSpec.ofChange fnChainWrong)

/-- 'laws.FnExactTimersOK': WHATEVER THE INPUT: true; the input reads as it did. -/
def fnExactTimersOKSpec : ChangeSpec := { name := "fnExactTimersOK", fn := fun _ => fun
  | [d] => { results := [.lit (.bool true)], args := [d] }
  | _ => none }
def fnExactTimersOKRow : OpenClaim := { program := "ytagdclbpgkilgaa", sum := "fa535db8f4deddfeaf1b7c32669af007246487e0e5294785b68176dba869db8a", func := "loop.example/g00563/laws.FnExactTimersOK", spec := "fnExactTimersOK", apart := false }
def FnExactTimersOKSaid : Prop := fnExactTimersOKRow.holds Try.pinned (OpenSpec.ofChange fnExactTimersOKSpec)

/-- ITS FALSE NEIGHBOUR: 'it returns false'. Refute it at one input. -/
def fnExactTimersOKWrong : ChangeSpec := { name := "fnExactTimersOK", fn := fun _ => fun
  | [d] => { results := [.lit (.bool false)], args := [d] }
  | _ => none }
def FnExactTimersOKWrongFalsely : Prop := fnExactTimersOKRow.holds Try.pinned (OpenSpec.ofChange fnExactTimersOKWrong)

/-- 'laws.FnExactNewTimers': WHATEVER THE INPUT: true; the input reads as it did. -/
def fnExactNewTimersSpec : ChangeSpec := { name := "fnExactNewTimers", fn := fun _ => fun
  | [] => { results := [.lit (.bool true)], args := [] }
  | _ => none }
def fnExactNewTimersRow : OpenClaim := { program := "ytagdclbpgkilgaa", sum := "fa535db8f4deddfeaf1b7c32669af007246487e0e5294785b68176dba869db8a", func := "loop.example/g00563/laws.FnExactNewTimers", spec := "fnExactNewTimers", apart := false }
def FnExactNewTimersSaid : Prop := fnExactNewTimersRow.holds Try.pinned (OpenSpec.ofChange fnExactNewTimersSpec)

/-- ITS FALSE NEIGHBOUR: 'it returns false'. Refute it at one input. -/
def fnExactNewTimersWrong : ChangeSpec := { name := "fnExactNewTimers", fn := fun _ => fun
  | [] => { results := [.lit (.bool false)], args := [] }
  | _ => none }
def FnExactNewTimersWrongFalsely : Prop := fnExactNewTimersRow.holds Try.pinned (OpenSpec.ofChange fnExactNewTimersWrong)

/-- 'laws.FnExactSetTimer': WHATEVER THE INPUT: true; the input reads as it did. -/
def fnExactSetTimerSpec : ChangeSpec := { name := "fnExactSetTimer", fn := fun _ => fun
  | [d1, d2, d3, d4] => { results := [.lit (.bool true)], args := [d1, d2, d3, d4] }
  | _ => none }
def fnExactSetTimerRow : OpenClaim := { program := "ytagdclbpgkilgaa", sum := "fa535db8f4deddfeaf1b7c32669af007246487e0e5294785b68176dba869db8a", func := "loop.example/g00563/laws.FnExactSetTimer", spec := "fnExactSetTimer", apart := false }
def FnExactSetTimerSaid : Prop := fnExactSetTimerRow.holds Try.pinned (OpenSpec.ofChange fnExactSetTimerSpec)

/-- ITS FALSE NEIGHBOUR: 'it returns false'. Refute it at one input. -/
def fnExactSetTimerWrong : ChangeSpec := { name := "fnExactSetTimer", fn := fun _ => fun
  | [d1, d2, d3, d4] => { results := [.lit (.bool false)], args := [d1, d2, d3, d4] }
  | _ => none }
def FnExactSetTimerWrongFalsely : Prop := fnExactSetTimerRow.holds Try.pinned (OpenSpec.ofChange fnExactSetTimerWrong)

/-- 'laws.FnExactTickTimers': WHATEVER THE INPUT: true; the input reads as it did. -/
def fnExactTickTimersSpec : ChangeSpec := { name := "fnExactTickTimers", fn := fun _ => fun
  | [d1, d2] => { results := [.lit (.bool true)], args := [d1, d2] }
  | _ => none }
def fnExactTickTimersRow : OpenClaim := { program := "ytagdclbpgkilgaa", sum := "fa535db8f4deddfeaf1b7c32669af007246487e0e5294785b68176dba869db8a", func := "loop.example/g00563/laws.FnExactTickTimers", spec := "fnExactTickTimers", unfollowed := true, recurses := true, apart := false }
def FnExactTickTimersSaid : Prop := fnExactTickTimersRow.holds Try.pinned (OpenSpec.ofChange fnExactTickTimersSpec)

/-- ITS FALSE NEIGHBOUR: 'it returns false'. Refute it at one input. -/
def fnExactTickTimersWrong : ChangeSpec := { name := "fnExactTickTimers", fn := fun _ => fun
  | [d1, d2] => { results := [.lit (.bool false)], args := [d1, d2] }
  | _ => none }
def FnExactTickTimersWrongFalsely : Prop := fnExactTickTimersRow.holds Try.pinned (OpenSpec.ofChange fnExactTickTimersWrong)

/- THE SECOND FORM. 'bulk': how many values and letters a reading holds, each counted each time it is reached (what is shared counts as often as it is met; a slice's spare places count too). A statement '..UptoSaid' is the law's where the arguments, and the package variables that the reading takes, are together of bulk at most 1048576: NARROWER than '..Said'. Prove '..Said' where nothing that the law and all that it calls make is longer than what came in: it says more and counts as full. Else prove '..UptoSaid'. A law counts once. -/
mutual
def uptoBulk {H : Type} : DataW H → Nat
  | .lit (.string bytes) => bytes.length + 1
  | .lit _ => 1
  | .nil => 1
  | .ptr d => uptoBulk d + 1
  | .slice elems spare => uptoBulkAll elems + uptoBulkAll spare + 1
  | .agg parts => uptoBulkAll parts + 1
  | .iface _ d => uptoBulk d + 1
  | .map entries => uptoBulkEntries entries + 1
  | .held _ => 1
def uptoBulkAll {H : Type} : List (DataW H) → Nat
  | [] => 0
  | d :: r => uptoBulk d + uptoBulkAll r
def uptoBulkEntries {H : Type} : List (Lit × DataW H) → Nat
  | [] => 0
  | x :: r => uptoBulkEntry x + uptoBulkEntries r
def uptoBulkEntry {H : Type} : Lit × DataW H → Nat
  | (.string bytes, d) => bytes.length + uptoBulk d + 1
  | (_, d) => uptoBulk d + 1
 end
def uptoSmall : (H : Type) → List (DataW H) → Bool := fun _ ds => decide (uptoBulkAll ds ≤ 1048576)
def OpenSpec.upto (s : _root_.Go.ChangeSpec) : _root_.Go.OpenSpec := { _root_.Go.OpenSpec.ofChange s with cond := some uptoSmall }

/-- 'laws.FnDma', WHERE WHAT IT READS IS OF BULK AT MOST 1048576: true; the input reads as it did. -/
def fnDmaUptoRow : OpenClaim := { program := "ytagdclbpgkilgaa", sum := "fa535db8f4deddfeaf1b7c32669af007246487e0e5294785b68176dba869db8a", func := "loop.example/g00563/laws.FnDma", spec := "fnDma", unfollowed := true, recurses := true, apart := false, narrowed := true }
def FnDmaUptoSaid : Prop := fnDmaUptoRow.holds Try.pinned (OpenSpec.upto fnDmaSpec)

/-- 'laws.FnTimer', WHERE WHAT IT READS IS OF BULK AT MOST 1048576: true; the input reads as it did. -/
def fnTimerUptoRow : OpenClaim := { program := "ytagdclbpgkilgaa", sum := "fa535db8f4deddfeaf1b7c32669af007246487e0e5294785b68176dba869db8a", func := "loop.example/g00563/laws.FnTimer", spec := "fnTimer", unfollowed := true, recurses := true, apart := false, narrowed := true }
def FnTimerUptoSaid : Prop := fnTimerUptoRow.holds Try.pinned (OpenSpec.upto fnTimerSpec)

/-- 'laws.FnChain', WHERE WHAT IT READS IS OF BULK AT MOST 1048576: true; the input reads as it did. -/
def fnChainUptoRow : OpenClaim := { program := "ytagdclbpgkilgaa", sum := "fa535db8f4deddfeaf1b7c32669af007246487e0e5294785b68176dba869db8a", func := "loop.example/g00563/laws.FnChain", spec := "fnChain", unfollowed := true, recurses := true, apart := false, narrowed := true }
def FnChainUptoSaid : Prop := fnChainUptoRow.holds Try.pinned (OpenSpec.upto fnChainSpec)

/-- 'laws.FnExactTimersOK', WHERE WHAT IT READS IS OF BULK AT MOST 1048576: true; the input reads as it did. -/
def fnExactTimersOKUptoRow : OpenClaim := { program := "ytagdclbpgkilgaa", sum := "fa535db8f4deddfeaf1b7c32669af007246487e0e5294785b68176dba869db8a", func := "loop.example/g00563/laws.FnExactTimersOK", spec := "fnExactTimersOK", apart := false, narrowed := true }
def FnExactTimersOKUptoSaid : Prop := fnExactTimersOKUptoRow.holds Try.pinned (OpenSpec.upto fnExactTimersOKSpec)

/-- 'laws.FnExactNewTimers', WHERE WHAT IT READS IS OF BULK AT MOST 1048576: true; the input reads as it did. -/
def fnExactNewTimersUptoRow : OpenClaim := { program := "ytagdclbpgkilgaa", sum := "fa535db8f4deddfeaf1b7c32669af007246487e0e5294785b68176dba869db8a", func := "loop.example/g00563/laws.FnExactNewTimers", spec := "fnExactNewTimers", apart := false, narrowed := true }
def FnExactNewTimersUptoSaid : Prop := fnExactNewTimersUptoRow.holds Try.pinned (OpenSpec.upto fnExactNewTimersSpec)

/-- 'laws.FnExactSetTimer', WHERE WHAT IT READS IS OF BULK AT MOST 1048576: true; the input reads as it did. -/
def fnExactSetTimerUptoRow : OpenClaim := { program := "ytagdclbpgkilgaa", sum := "fa535db8f4deddfeaf1b7c32669af007246487e0e5294785b68176dba869db8a", func := "loop.example/g00563/laws.FnExactSetTimer", spec := "fnExactSetTimer", apart := false, narrowed := true }
def FnExactSetTimerUptoSaid : Prop := fnExactSetTimerUptoRow.holds Try.pinned (OpenSpec.upto fnExactSetTimerSpec)

/-- 'laws.FnExactTickTimers', WHERE WHAT IT READS IS OF BULK AT MOST 1048576: true; the input reads as it did. -/
def fnExactTickTimersUptoRow : OpenClaim := { program := "ytagdclbpgkilgaa", sum := "fa535db8f4deddfeaf1b7c32669af007246487e0e5294785b68176dba869db8a", func := "loop.example/g00563/laws.FnExactTickTimers", spec := "fnExactTickTimers", unfollowed := true, recurses := true, apart := false, narrowed := true }
def FnExactTickTimersUptoSaid : Prop := fnExactTickTimersUptoRow.holds Try.pinned (OpenSpec.upto fnExactTickTimersSpec)

end Rows
end Go.Proofs.Ytagdclbpgkilgaa
