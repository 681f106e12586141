/-
  DERIVED. GIVEN WITH THE SEED: THE CARDS: each row of YtcchhbkbnbphhaaGreatDoorRows.lean that lists a variable, with what it lists TIED to the program's text (the seventh form; the later family's looks); each row that meets fmt, with fmt's text TOLD by the authors' own Lean function (tested against real Go, not proved from fmt's source: count such statements apart). THE CARD IS WHAT COUNTS. Prove the row's statement (the work); the ties are given (YtcchhbkbnbphhaaGreatDoorTie.lean); close each card by the builder's one call (the guide's Derived/Test/ToyasCard.lean, 'card_holds'). Laid BY PROGRAM, IN A SANDBOX (cutbox-door.mjs). By AI agents, Wed Nov 11 2026. No macro, syntax, notation, axiom, sorry.
-/
import Derived.Test.YtcchhbkbnbphhaaGreatDoorRows
import GoSem.ClaimSeven
namespace Go.Proofs.YtcchhbkbnbphhaaGreatDoor
namespace Rows

/-- THE TIED CARD OF 'laws.FnCpu'. -/
def fnCpuCard : Claim7 := { stood := { row := fnCpuRow, standIns := [], harness := (true, "9a3c674ef9ea329f2da20f55947188a5f304153163bd556c115d46eb411872a3"), looks := false }, kinds := [], alts := [], laidByText := true, laidKinds := [.wider], laidTests := true, laidLooks := .later }
def FnCpuCardSaid : Prop := Claim7.holds Tryz.pinned (.plain (OpenSpec.ofChange fnCpuSpec)) fnCpuCard

/-- THE TIED CARD OF 'laws.FnBack'. -/
def fnBackCard : Claim7 := { stood := { row := fnBackRow, standIns := [], harness := (true, "9a3c674ef9ea329f2da20f55947188a5f304153163bd556c115d46eb411872a3"), looks := false }, kinds := [], alts := [], laidByText := true, laidKinds := [.wider], laidTests := true, laidLooks := .later }
def FnBackCardSaid : Prop := Claim7.holds Tryz.pinned (.plain (OpenSpec.ofChange fnBackSpec)) fnBackCard

/-- THE SECOND FORM's CARD OF 'laws.FnCpu'. -/
def fnCpuUptoCard : Claim7 := { stood := { row := fnCpuUptoRow, standIns := [], harness := (true, "9a3c674ef9ea329f2da20f55947188a5f304153163bd556c115d46eb411872a3"), looks := false }, kinds := [], alts := [], laidByText := true, laidKinds := [.wider], laidTests := true, laidLooks := .later }
def FnCpuUptoCardSaid : Prop := Claim7.holds Tryz.pinned (.plain (OpenSpec.upto fnCpuSpec)) fnCpuUptoCard

/-- THE SECOND FORM's CARD OF 'laws.FnBack'. -/
def fnBackUptoCard : Claim7 := { stood := { row := fnBackUptoRow, standIns := [], harness := (true, "9a3c674ef9ea329f2da20f55947188a5f304153163bd556c115d46eb411872a3"), looks := false }, kinds := [], alts := [], laidByText := true, laidKinds := [.wider], laidTests := true, laidLooks := .later }
def FnBackUptoCardSaid : Prop := Claim7.holds Tryz.pinned (.plain (OpenSpec.upto fnBackSpec)) fnBackUptoCard
end Rows
end Go.Proofs.YtcchhbkbnbphhaaGreatDoor
