/-
  DERIVED. GIVEN WITH THE SEED: THE CARDS: each row of YtcchhbkbnbphhaaDoorRows.lean that lists a variable, with what it lists TIED to the program's text (the seventh form; the later family's looks); each row that meets fmt, with fmt's text TOLD by the authors' own Lean function (tested against real Go, not proved from fmt's source: count such statements apart). THE CARD IS WHAT COUNTS. Prove the row's statement (the work); the ties are given (YtcchhbkbnbphhaaDoorTie.lean); close each card by the builder's one call (the guide's Derived/Test/ToyasCard.lean, 'card_holds'). Laid BY PROGRAM, IN A SANDBOX (cutbox-door.mjs). By AI agents, Wed Nov 11 2026. No macro, syntax, notation, axiom, sorry.
-/
import Derived.Test.YtcchhbkbnbphhaaDoorRows
import GoSem.ClaimSeven
namespace Go.Proofs.YtcchhbkbnbphhaaDoor
namespace Rows

/-- THE TIED CARD OF 'laws.FnCode'. -/
def fnCodeCard : Claim7 := { stood := { row := fnCodeRow, standIns := [], harness := (true, "664406505329801943b646b0a3dee54af2336562cb0c2a953afe41828a8469ad"), looks := false }, kinds := [], alts := [], laidByText := true, laidKinds := [.data, .data, .data, .data, .wider, .pinned], laidTests := true, laidLooks := .later }
def FnCodeCardSaid : Prop := Claim7.holds Tryd.pinned (.plain (OpenSpec.ofChange fnCodeSpec)) fnCodeCard

/-- THE TIED CARD OF 'laws.FnAssemble'. -/
def fnAssembleCard : Claim7 := { stood := { row := fnAssembleRow, standIns := [], harness := (true, "664406505329801943b646b0a3dee54af2336562cb0c2a953afe41828a8469ad"), looks := false }, kinds := [], alts := [], laidByText := true, laidKinds := [.data, .data, .data, .data, .wider, .pinned], laidTests := true, laidLooks := .later }
def FnAssembleCardSaid : Prop := Claim7.holds Tryd.pinned (.plain (OpenSpec.ofChange fnAssembleSpec)) fnAssembleCard

/-- THE SECOND FORM's CARD OF 'laws.FnCode'. -/
def fnCodeUptoCard : Claim7 := { stood := { row := fnCodeUptoRow, standIns := [], harness := (true, "664406505329801943b646b0a3dee54af2336562cb0c2a953afe41828a8469ad"), looks := false }, kinds := [], alts := [], laidByText := true, laidKinds := [.data, .data, .data, .data, .wider, .pinned], laidTests := true, laidLooks := .later }
def FnCodeUptoCardSaid : Prop := Claim7.holds Tryd.pinned (.plain (OpenSpec.upto fnCodeSpec)) fnCodeUptoCard

/-- THE SECOND FORM's CARD OF 'laws.FnAssemble'. -/
def fnAssembleUptoCard : Claim7 := { stood := { row := fnAssembleUptoRow, standIns := [], harness := (true, "664406505329801943b646b0a3dee54af2336562cb0c2a953afe41828a8469ad"), looks := false }, kinds := [], alts := [], laidByText := true, laidKinds := [.data, .data, .data, .data, .wider, .pinned], laidTests := true, laidLooks := .later }
def FnAssembleUptoCardSaid : Prop := Claim7.holds Tryd.pinned (.plain (OpenSpec.upto fnAssembleSpec)) fnAssembleUptoCard
end Rows
end Go.Proofs.YtcchhbkbnbphhaaDoor
