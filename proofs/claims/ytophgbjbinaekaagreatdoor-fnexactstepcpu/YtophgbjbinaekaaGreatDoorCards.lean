/-
  DERIVED. GIVEN WITH THE SEED: THE CARDS: each row of YtophgbjbinaekaaGreatDoorRows.lean that lists a variable, with what it lists TIED to the program's text (the seventh form; the later family's looks); each row that meets fmt, with fmt's text TOLD by the authors' own Lean function (tested against real Go, not proved from fmt's source: count such statements apart). THE CARD IS WHAT COUNTS. Prove the row's statement (the work); the ties are given (YtophgbjbinaekaaGreatDoorTie.lean); close each card by the builder's one call (the guide's Derived/Test/ToyasCard.lean, 'card_holds'). Laid BY PROGRAM, IN A SANDBOX (cutbox-door.mjs). By AI agents, Wed Nov 11 2026. No macro, syntax, notation, axiom, sorry.
-/
import Derived.Test.YtophgbjbinaekaaGreatDoorRows
import GoSem.ClaimSeven
namespace Go.Proofs.YtophgbjbinaekaaGreatDoor
namespace Rows

/-- THE TIED CARD OF 'laws.FnCpu'. -/
def fnCpuCard : Claim7 := { stood := { row := fnCpuRow, standIns := [], harness := (true, "8af485eec94b4447bbc55ced7bbd23a1d7c6377539fa485168189112e737e92a"), looks := false }, kinds := [], alts := [], laidByText := true, laidKinds := [.wider], laidTests := true, laidLooks := .later }
def FnCpuCardSaid : Prop := Claim7.holds Tryz.pinned (.plain (OpenSpec.ofChange fnCpuSpec)) fnCpuCard

/-- THE TIED CARD OF 'laws.FnBack'. -/
def fnBackCard : Claim7 := { stood := { row := fnBackRow, standIns := [], harness := (true, "8af485eec94b4447bbc55ced7bbd23a1d7c6377539fa485168189112e737e92a"), looks := false }, kinds := [], alts := [], laidByText := true, laidKinds := [.wider], laidTests := true, laidLooks := .later }
def FnBackCardSaid : Prop := Claim7.holds Tryz.pinned (.plain (OpenSpec.ofChange fnBackSpec)) fnBackCard

/-- THE TIED CARD OF 'laws.FnExactStepCpu'. -/
def fnExactStepCpuCard : Claim7 := { stood := { row := fnExactStepCpuRow, standIns := [], harness := (true, "8af485eec94b4447bbc55ced7bbd23a1d7c6377539fa485168189112e737e92a"), looks := false }, kinds := [], alts := [], laidByText := true, laidKinds := [.wider], laidTests := true, laidLooks := .later }
def FnExactStepCpuCardSaid : Prop := Claim7.holds Tryz.pinned (.plain (OpenSpec.ofChange fnExactStepCpuSpec)) fnExactStepCpuCard

/-- THE SECOND FORM's CARD OF 'laws.FnCpu'. -/
def fnCpuUptoCard : Claim7 := { stood := { row := fnCpuUptoRow, standIns := [], harness := (true, "8af485eec94b4447bbc55ced7bbd23a1d7c6377539fa485168189112e737e92a"), looks := false }, kinds := [], alts := [], laidByText := true, laidKinds := [.wider], laidTests := true, laidLooks := .later }
def FnCpuUptoCardSaid : Prop := Claim7.holds Tryz.pinned (.plain (OpenSpec.upto fnCpuSpec)) fnCpuUptoCard

/-- THE SECOND FORM's CARD OF 'laws.FnBack'. -/
def fnBackUptoCard : Claim7 := { stood := { row := fnBackUptoRow, standIns := [], harness := (true, "8af485eec94b4447bbc55ced7bbd23a1d7c6377539fa485168189112e737e92a"), looks := false }, kinds := [], alts := [], laidByText := true, laidKinds := [.wider], laidTests := true, laidLooks := .later }
def FnBackUptoCardSaid : Prop := Claim7.holds Tryz.pinned (.plain (OpenSpec.upto fnBackSpec)) fnBackUptoCard

/-- THE SECOND FORM's CARD OF 'laws.FnExactStepCpu'. -/
def fnExactStepCpuUptoCard : Claim7 := { stood := { row := fnExactStepCpuUptoRow, standIns := [], harness := (true, "8af485eec94b4447bbc55ced7bbd23a1d7c6377539fa485168189112e737e92a"), looks := false }, kinds := [], alts := [], laidByText := true, laidKinds := [.wider], laidTests := true, laidLooks := .later }
def FnExactStepCpuUptoCardSaid : Prop := Claim7.holds Tryz.pinned (.plain (OpenSpec.upto fnExactStepCpuSpec)) fnExactStepCpuUptoCard
end Rows
end Go.Proofs.YtophgbjbinaekaaGreatDoor
