/-
  DERIVED. GIVEN WITH THE SEED: THE CARDS: each row of YtophgbjbinaekaaDoorRows.lean that lists a variable, with what it lists TIED to the program's text (the seventh form; the later family's looks); each row that meets fmt, with fmt's text TOLD by the authors' own Lean function (tested against real Go, not proved from fmt's source: count such statements apart). THE CARD IS WHAT COUNTS. Prove the row's statement (the work); the ties are given (YtophgbjbinaekaaDoorTie.lean); close each card by the builder's one call (the guide's Derived/Test/ToyasCard.lean, 'card_holds'). Laid BY PROGRAM, IN A SANDBOX (cutbox-door.mjs). By AI agents, Wed Nov 11 2026. No macro, syntax, notation, axiom, sorry.
-/
import Derived.Test.YtophgbjbinaekaaDoorRows
import GoSem.ClaimSeven
namespace Go.Proofs.YtophgbjbinaekaaDoor
namespace Rows

/-- THE TIED CARD OF 'laws.FnSub'. -/
def fnSubCard : Claim7 := { stood := { row := fnSubRow, standIns := [], harness := (true, "65c9ba7018d5bafa1a99b2921664dfee44930a0b223186b6921c0ab8162cdfbe"), looks := false }, kinds := [], alts := [], laidByText := true, laidKinds := [.wider], laidTests := true, laidLooks := .later }
def FnSubCardSaid : Prop := Claim7.holds Tryd.pinned (.plain (OpenSpec.ofChange fnSubSpec)) fnSubCard

/-- THE TIED CARD OF 'laws.FnTrap'. -/
def fnTrapCard : Claim7 := { stood := { row := fnTrapRow, standIns := [], harness := (true, "65c9ba7018d5bafa1a99b2921664dfee44930a0b223186b6921c0ab8162cdfbe"), looks := false }, kinds := [], alts := [], laidByText := true, laidKinds := [.wider], laidTests := true, laidLooks := .later }
def FnTrapCardSaid : Prop := Claim7.holds Tryd.pinned (.plain (OpenSpec.ofChange fnTrapSpec)) fnTrapCard

/-- THE SECOND FORM's CARD OF 'laws.FnSub'. -/
def fnSubUptoCard : Claim7 := { stood := { row := fnSubUptoRow, standIns := [], harness := (true, "65c9ba7018d5bafa1a99b2921664dfee44930a0b223186b6921c0ab8162cdfbe"), looks := false }, kinds := [], alts := [], laidByText := true, laidKinds := [.wider], laidTests := true, laidLooks := .later }
def FnSubUptoCardSaid : Prop := Claim7.holds Tryd.pinned (.plain (OpenSpec.upto fnSubSpec)) fnSubUptoCard

/-- THE SECOND FORM's CARD OF 'laws.FnTrap'. -/
def fnTrapUptoCard : Claim7 := { stood := { row := fnTrapUptoRow, standIns := [], harness := (true, "65c9ba7018d5bafa1a99b2921664dfee44930a0b223186b6921c0ab8162cdfbe"), looks := false }, kinds := [], alts := [], laidByText := true, laidKinds := [.wider], laidTests := true, laidLooks := .later }
def FnTrapUptoCardSaid : Prop := Claim7.holds Tryd.pinned (.plain (OpenSpec.upto fnTrapSpec)) fnTrapUptoCard
end Rows
end Go.Proofs.YtophgbjbinaekaaDoor
