/-
  DERIVED. GIVEN WITH THE SEED: THE CARDS: each row of YtffhbndfllnemaaDoorRows.lean that lists a variable, with what it lists TIED to the program's text (the seventh form; the later family's looks); each row that meets fmt, with fmt's text TOLD by the authors' own Lean function (tested against real Go, not proved from fmt's source: count such statements apart). THE CARD IS WHAT COUNTS. Prove the row's statement (the work); the ties are given (YtffhbndfllnemaaDoorTie.lean); close each card by the builder's one call (the guide's Derived/Test/ToyasCard.lean, 'card_holds'). Laid BY PROGRAM, IN A SANDBOX (cutbox-door.mjs). By AI agents, Wed Nov 11 2026. No macro, syntax, notation, axiom, sorry.
-/
import Derived.Test.YtffhbndfllnemaaDoorRows
import GoSem.ClaimSeven
namespace Go.Proofs.YtffhbndfllnemaaDoor
namespace Rows

/-- THE TIED CARD OF 'flarepathlaw19.BandTells'. -/
def bandTellsCard : Claim7 := { stood := { row := bandTellsRow, standIns := [], harness := (true, "e0caf2734ca08e3d1e4dd8c9f5ea23cea00e9f2acb6bc5430f52aa7de4169423"), looks := false }, kinds := [], alts := [], laidByText := true, laidKinds := [.data], laidTests := true, laidLooks := .later }
def BandTellsCardSaid : Prop := Claim7.holds Tryd.pinned (.plain (OpenSpec.ofChange bandTellsSpec)) bandTellsCard

/-- THE TIED CARD OF 'flarepathlaw19.BandFalls'. -/
def bandFallsCard : Claim7 := { stood := { row := bandFallsRow, standIns := [], harness := (true, "e0caf2734ca08e3d1e4dd8c9f5ea23cea00e9f2acb6bc5430f52aa7de4169423"), looks := false }, kinds := [], alts := [], laidByText := true, laidKinds := [.data], laidTests := true, laidLooks := .later }
def BandFallsCardSaid : Prop := Claim7.holds Tryd.pinned (.plain (OpenSpec.ofChange bandFallsSpec)) bandFallsCard

/-- THE SECOND FORM's CARD OF 'flarepathlaw19.BandTells'. -/
def bandTellsUptoCard : Claim7 := { stood := { row := bandTellsUptoRow, standIns := [], harness := (true, "e0caf2734ca08e3d1e4dd8c9f5ea23cea00e9f2acb6bc5430f52aa7de4169423"), looks := false }, kinds := [], alts := [], laidByText := true, laidKinds := [.data], laidTests := true, laidLooks := .later }
def BandTellsUptoCardSaid : Prop := Claim7.holds Tryd.pinned (.plain (OpenSpec.upto bandTellsSpec)) bandTellsUptoCard

/-- THE SECOND FORM's CARD OF 'flarepathlaw19.BandFalls'. -/
def bandFallsUptoCard : Claim7 := { stood := { row := bandFallsUptoRow, standIns := [], harness := (true, "e0caf2734ca08e3d1e4dd8c9f5ea23cea00e9f2acb6bc5430f52aa7de4169423"), looks := false }, kinds := [], alts := [], laidByText := true, laidKinds := [.data], laidTests := true, laidLooks := .later }
def BandFallsUptoCardSaid : Prop := Claim7.holds Tryd.pinned (.plain (OpenSpec.upto bandFallsSpec)) bandFallsUptoCard
end Rows
end Go.Proofs.YtffhbndfllnemaaDoor
