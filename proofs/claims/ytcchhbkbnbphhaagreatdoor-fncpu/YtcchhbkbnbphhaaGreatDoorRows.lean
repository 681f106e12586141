/-
  NARROWER THAN 'FOR EVERY INPUT', by the rows' own cells (each row's printed sentence says how): FnCpu: laid · FnBack: laid.
  DERIVED. THE GIVEN ROWS OF THIS SEAT. 2 by the template 'for every input the law returns true; each argument reads behind the call as it read before'; 0 by the template 'total and deterministic' (their statements: YtcchhbkbnbphhaaGreatDoorTotals.lean).
  GIVEN WITH THE SEED: the statements are not yours to turn. If you find one false, say at which input.
  Laid BY PROGRAM, IN A SANDBOX (cutbox-rows.mjs): the forced cells as the released guide's own fill.sh prints them over the translation f6f0a70e99644b62… (all of the seat's roots in one cut). By AI agents, Wed Nov 11 2026. No macro, syntax, notation, axiom, sorry.
-/
import Derived.Test.YtcchhbkbnbphhaaGreatDoorChecked
import GoSem.Claim
import GoSem.ClaimJoined
import GoSem.ClaimMapViews
import Derived.JoinedTies
import Derived.KernelRfl
namespace Go.Proofs.YtcchhbkbnbphhaaGreatDoor
/- THE CELL 'sum', in the pinned program and in every row, IS THE sha256 OF THE DUMP (.gsa) THAT YtcchhbkbnbphhaaGreatDoorProg.lean LOADS. Nothing in Lean hashes anything: it is a label: what it is worth is what the hold of that sum in a sandbox is worth. -/
noncomputable def Tryz.pinned : Pinned := { name := "ytcchhbkbnbphhaagreatdoor", sum := "f6f0a70e99644b62da487f5d90c6d415301e433a3e6d841c242bd489bb1d5130", checked := Tryz.checked }
namespace Rows
def none {H : Type} : Left H := { results := [], args := [] }

/- WHAT THE LISTED PACKAGE-LEVEL VARIABLES READ AS WHEN THE CALL BEGINS. Each datum BY PROGRAM (the guide's laid-datum.mjs) off the statement by which the dump's own 'gosem.cut.vars' lays the variable. In a bare row this is a premise. The card (YtcchhbkbnbphhaaGreatDoorCards.lean) ties it to the program's text. -/
def laid_loop_example_g00563_impl_operations {H : Type} : DataW H := .agg [.agg [.lit (.string [110, 111, 112]), .lit (.int .i64 0), .lit (.int .i64 0), .lit (.int .i64 0)], .agg [.lit (.string [104, 97, 108, 116]), .lit (.int .i64 0), .lit (.int .i64 0), .lit (.int .i64 0)], .agg [.lit (.string [114, 101, 116, 105]), .lit (.int .i64 0), .lit (.int .i64 0), .lit (.int .i64 8)], .agg [.lit (.string [101, 105]), .lit (.int .i64 0), .lit (.int .i64 0), .lit (.int .i64 0)], .agg [.lit (.string [100, 105]), .lit (.int .i64 0), .lit (.int .i64 0), .lit (.int .i64 0)], .agg [.lit (.string [108, 100, 105]), .lit (.int .i64 3), .lit (.int .i64 255), .lit (.int .i64 0)], .agg [.lit (.string [108, 100]), .lit (.int .i64 3), .lit (.int .i64 4095), .lit (.int .i64 0)], .agg [.lit (.string [115, 116]), .lit (.int .i64 3), .lit (.int .i64 4095), .lit (.int .i64 0)], .agg [.lit (.string [105, 110, 99]), .lit (.int .i64 3), .lit (.int .i64 0), .lit (.int .i64 0)], .agg [.lit (.string [100, 101, 99]), .lit (.int .i64 3), .lit (.int .i64 0), .lit (.int .i64 0)], .agg [.lit (.string [97, 100, 100]), .lit (.int .i64 3), .lit (.int .i64 0), .lit (.int .i64 0)], .agg [.lit (.string [115, 117, 98]), .lit (.int .i64 3), .lit (.int .i64 0), .lit (.int .i64 0)], .agg [.lit (.string [97, 110, 100]), .lit (.int .i64 3), .lit (.int .i64 0), .lit (.int .i64 0)], .agg [.lit (.string [111, 114]), .lit (.int .i64 3), .lit (.int .i64 0), .lit (.int .i64 0)], .agg [.lit (.string [120, 111, 114]), .lit (.int .i64 3), .lit (.int .i64 0), .lit (.int .i64 0)], .agg [.lit (.string [106, 112]), .lit (.int .i64 0), .lit (.int .i64 4095), .lit (.int .i64 0)], .agg [.lit (.string [106, 122]), .lit (.int .i64 0), .lit (.int .i64 4095), .lit (.int .i64 0)], .agg [.lit (.string [106, 110, 122]), .lit (.int .i64 0), .lit (.int .i64 4095), .lit (.int .i64 0)], .agg [.lit (.string [99, 97, 108, 108]), .lit (.int .i64 0), .lit (.int .i64 4095), .lit (.int .i64 8)], .agg [.lit (.string [114, 101, 116]), .lit (.int .i64 0), .lit (.int .i64 0), .lit (.int .i64 8)], .agg [.lit (.string [115, 119, 105]), .lit (.int .i64 0), .lit (.int .i64 255), .lit (.int .i64 12)], .agg [.lit (.string [98, 97, 110, 107]), .lit (.int .i64 0), .lit (.int .i64 3), .lit (.int .i64 0)], .agg [.lit (.string []), .lit (.int .i64 0), .lit (.int .i64 0), .lit (.int .i64 12)]]

/-- 'laws.FnCpu': WHATEVER THE INPUT: true; the input reads as it did. -/
def fnCpuSpec : ChangeSpec := { name := "fnCpu", vars := ["loop.example/g00563/impl.operations"], fn := fun _ => fun
  | [d1, d2, g1] => { results := [.lit (.bool true)], args := [d1, d2], vars := [g1] }
  | _ => none }
def fnCpuRow : OpenClaim := { program := "ytcchhbkbnbphhaagreatdoor", sum := "f6f0a70e99644b62da487f5d90c6d415301e433a3e6d841c242bd489bb1d5130", func := "loop.example/g00563/laws.FnCpu", spec := "fnCpu", unfollowed := true, recurses := true, named := ["loop.example/g00563/impl.operations"], apart := false, laid := [("loop.example/g00563/impl.operations", laid_loop_example_g00563_impl_operations)] }
def FnCpuSaid : Prop := fnCpuRow.holds Tryz.pinned (OpenSpec.ofChange fnCpuSpec)

/-- ITS FALSE NEIGHBOUR: 'it returns false'. Refute it at one input. -/
def fnCpuWrong : ChangeSpec := { name := "fnCpu", vars := ["loop.example/g00563/impl.operations"], fn := fun _ => fun
  | [d1, d2, g1] => { results := [.lit (.bool false)], args := [d1, d2], vars := [g1] }
  | _ => none }
def FnCpuWrongFalsely : Prop := fnCpuRow.holds Tryz.pinned (OpenSpec.ofChange fnCpuWrong)

/-- 'laws.FnBack': WHATEVER THE INPUT: true; the input reads as it did. -/
def fnBackSpec : ChangeSpec := { name := "fnBack", vars := ["loop.example/g00563/impl.operations"], fn := fun _ => fun
  | [d1, d2, g1] => { results := [.lit (.bool true)], args := [d1, d2], vars := [g1] }
  | _ => none }
def fnBackRow : OpenClaim := { program := "ytcchhbkbnbphhaagreatdoor", sum := "f6f0a70e99644b62da487f5d90c6d415301e433a3e6d841c242bd489bb1d5130", func := "loop.example/g00563/laws.FnBack", spec := "fnBack", unfollowed := true, recurses := true, named := ["loop.example/g00563/impl.operations"], apart := false, laid := [("loop.example/g00563/impl.operations", laid_loop_example_g00563_impl_operations)] }
def FnBackSaid : Prop := fnBackRow.holds Tryz.pinned (OpenSpec.ofChange fnBackSpec)

/-- ITS FALSE NEIGHBOUR: 'it returns false'. Refute it at one input. -/
def fnBackWrong : ChangeSpec := { name := "fnBack", vars := ["loop.example/g00563/impl.operations"], fn := fun _ => fun
  | [d1, d2, g1] => { results := [.lit (.bool false)], args := [d1, d2], vars := [g1] }
  | _ => none }
def FnBackWrongFalsely : Prop := fnBackRow.holds Tryz.pinned (OpenSpec.ofChange fnBackWrong)

/- THE SECOND FORM. 'bulk': how many values and letters a reading holds, each counted each time it is reached (what is shared counts as often as it is met; a slice's spare places count too). A statement '..UptoSaid' is the law's where the arguments, and the package variables that the reading takes, are together of bulk at most 1048576: NARROWER than '..Said'. Prove '..Said' where nothing that the law and all that it calls make is longer than what came in: it says more and counts as full. Else prove '..UptoSaid'. A law counts once. -/
mutual
def uptoBulk {H : Type} : DataW H → Nat
  | .lit (.string bytes) => bytes.length + 1
  | .lit _ => 1
  | .nil => 1
  | .ptr d => uptoBulk d + 1
  | .slice elems spare => uptoBulkAll elems + uptoBulkAll spare + 1
  | .agg parts => uptoBulkAll parts + 1
  | .iface _ d => uptoBulk d + 1
  | .map entries => uptoBulkEntries entries + 1
  | .held _ => 1
def uptoBulkAll {H : Type} : List (DataW H) → Nat
  | [] => 0
  | d :: r => uptoBulk d + uptoBulkAll r
def uptoBulkEntries {H : Type} : List (Lit × DataW H) → Nat
  | [] => 0
  | x :: r => uptoBulkEntry x + uptoBulkEntries r
def uptoBulkEntry {H : Type} : Lit × DataW H → Nat
  | (.string bytes, d) => bytes.length + uptoBulk d + 1
  | (_, d) => uptoBulk d + 1
 end
def uptoSmall : (H : Type) → List (DataW H) → Bool := fun _ ds => decide (uptoBulkAll ds ≤ 1048576)
def OpenSpec.upto (s : _root_.Go.ChangeSpec) : _root_.Go.OpenSpec := { _root_.Go.OpenSpec.ofChange s with cond := some uptoSmall }

/-- 'laws.FnCpu', WHERE WHAT IT READS IS OF BULK AT MOST 1048576: true; the input reads as it did. -/
def fnCpuUptoRow : OpenClaim := { program := "ytcchhbkbnbphhaagreatdoor", sum := "f6f0a70e99644b62da487f5d90c6d415301e433a3e6d841c242bd489bb1d5130", func := "loop.example/g00563/laws.FnCpu", spec := "fnCpu", unfollowed := true, recurses := true, named := ["loop.example/g00563/impl.operations"], apart := false, laid := [("loop.example/g00563/impl.operations", laid_loop_example_g00563_impl_operations)], narrowed := true }
def FnCpuUptoSaid : Prop := fnCpuUptoRow.holds Tryz.pinned (OpenSpec.upto fnCpuSpec)

/-- 'laws.FnBack', WHERE WHAT IT READS IS OF BULK AT MOST 1048576: true; the input reads as it did. -/
def fnBackUptoRow : OpenClaim := { program := "ytcchhbkbnbphhaagreatdoor", sum := "f6f0a70e99644b62da487f5d90c6d415301e433a3e6d841c242bd489bb1d5130", func := "loop.example/g00563/laws.FnBack", spec := "fnBack", unfollowed := true, recurses := true, named := ["loop.example/g00563/impl.operations"], apart := false, laid := [("loop.example/g00563/impl.operations", laid_loop_example_g00563_impl_operations)], narrowed := true }
def FnBackUptoSaid : Prop := fnBackUptoRow.holds Tryz.pinned (OpenSpec.upto fnBackSpec)

end Rows
end Go.Proofs.YtcchhbkbnbphhaaGreatDoor
