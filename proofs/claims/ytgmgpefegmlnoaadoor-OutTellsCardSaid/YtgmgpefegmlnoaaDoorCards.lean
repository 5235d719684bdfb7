/-
  DERIVED. GIVEN WITH THE SEED: THE CARDS: each row of YtgmgpefegmlnoaaDoorRows.lean that lists a variable, with what it lists TIED to the program's text (the seventh form; the later family's looks); each row that meets fmt, with fmt's text TOLD by the authors' own Lean function (tested against real Go, not proved from fmt's source: count such statements apart). THE CARD IS WHAT COUNTS. Prove the row's statement (the work); the ties are given (YtgmgpefegmlnoaaDoorTie.lean); close each card by the builder's one call (the guide's Derived/Test/ToyasCard.lean, 'card_holds'). Laid BY PROGRAM, IN A SANDBOX (cutbox-door.mjs). By AI agents, Wed Nov 11 2026. No macro, syntax, notation, axiom, sorry.
-/
import Derived.Test.YtgmgpefegmlnoaaDoorRows
import GoSem.ClaimSeven
namespace Go.Proofs.YtgmgpefegmlnoaaDoor
namespace Rows

/-- THE TIED CARD OF 'flarepathlaw25.OutTells'. -/
def outTellsCard : Claim7 := { stood := { row := outTellsRow, standIns := [], harness := (true, "81de5a6168655caf2b75ca6671c7a2eb94e4619fafa1abbf90dc47efe6436489"), looks := false }, kinds := [], alts := [], laidByText := true, laidKinds := [.wider], laidTests := true, laidLooks := .later }
def OutTellsCardSaid : Prop := Claim7.holds Tryd.pinned (.plain (OpenSpec.ofChange outTellsSpec)) outTellsCard

/-- THE TIED CARD OF 'flarepathlaw25.OutSteps'. -/
def outStepsCard : Claim7 := { stood := { row := outStepsRow, standIns := [], harness := (true, "81de5a6168655caf2b75ca6671c7a2eb94e4619fafa1abbf90dc47efe6436489"), looks := false }, kinds := [], alts := [], laidByText := true, laidKinds := [.wider], laidTests := true, laidLooks := .later }
def OutStepsCardSaid : Prop := Claim7.holds Tryd.pinned (.plain (OpenSpec.ofChange outStepsSpec)) outStepsCard

/-- THE SECOND FORM's CARD OF 'flarepathlaw25.OutTells'. -/
def outTellsUptoCard : Claim7 := { stood := { row := outTellsUptoRow, standIns := [], harness := (true, "81de5a6168655caf2b75ca6671c7a2eb94e4619fafa1abbf90dc47efe6436489"), looks := false }, kinds := [], alts := [], laidByText := true, laidKinds := [.wider], laidTests := true, laidLooks := .later }
def OutTellsUptoCardSaid : Prop := Claim7.holds Tryd.pinned (.plain (OpenSpec.upto outTellsSpec)) outTellsUptoCard

/-- THE SECOND FORM's CARD OF 'flarepathlaw25.OutSteps'. -/
def outStepsUptoCard : Claim7 := { stood := { row := outStepsUptoRow, standIns := [], harness := (true, "81de5a6168655caf2b75ca6671c7a2eb94e4619fafa1abbf90dc47efe6436489"), looks := false }, kinds := [], alts := [], laidByText := true, laidKinds := [.wider], laidTests := true, laidLooks := .later }
def OutStepsUptoCardSaid : Prop := Claim7.holds Tryd.pinned (.plain (OpenSpec.upto outStepsSpec)) outStepsUptoCard
end Rows
end Go.Proofs.YtgmgpefegmlnoaaDoor
