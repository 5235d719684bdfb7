/-
  DERIVED. GIVEN WITH THE SEED: THE CARDS: each row of YtaicijhkchfcfaaDoorRows.lean that lists a variable, with what it lists TIED to the program's text (the seventh form; the later family's looks); each row that meets fmt, with fmt's text TOLD by the authors' own Lean function (tested against real Go, not proved from fmt's source: count such statements apart). THE CARD IS WHAT COUNTS. Prove the row's statement (the work); the ties are given (YtaicijhkchfcfaaDoorTie.lean); close each card by the builder's one call (the guide's Derived/Test/ToyasCard.lean, 'card_holds'). Laid BY PROGRAM, IN A SANDBOX (cutbox-door.mjs). By AI agents, Wed Nov 11 2026. No macro, syntax, notation, axiom, sorry.
-/
import Derived.Test.YtaicijhkchfcfaaDoorRows
import GoSem.ClaimSeven
namespace Go.Proofs.YtaicijhkchfcfaaDoor
namespace Rows

/-- THE TIED CARD OF 'flarepathlaw28.PlaneFlies'. -/
def planeFliesCard : Claim7 := { stood := { row := planeFliesRow, standIns := [], harness := (true, "908e0ba6669616a666f73252abf6db7d6d1688e632c1fd995dbab801d1d264ed"), looks := false }, kinds := [], alts := [], laidByText := true, laidKinds := [.data, .data], laidTests := true, laidLooks := .later }
def PlaneFliesCardSaid : Prop := Claim7.holds Tryd.pinned (.plain (OpenSpec.ofChange planeFliesSpec)) planeFliesCard

/-- THE TIED CARD OF 'flarepathlaw28.PlaneCalm'. -/
def planeCalmCard : Claim7 := { stood := { row := planeCalmRow, standIns := [], harness := (true, "908e0ba6669616a666f73252abf6db7d6d1688e632c1fd995dbab801d1d264ed"), looks := false }, kinds := [], alts := [], laidByText := true, laidKinds := [.data, .data], laidTests := true, laidLooks := .later }
def PlaneCalmCardSaid : Prop := Claim7.holds Tryd.pinned (.plain (OpenSpec.ofChange planeCalmSpec)) planeCalmCard

/-- THE TIED CARD OF 'flarepathlaw28.PlaneDown'. -/
def planeDownCard : Claim7 := { stood := { row := planeDownRow, standIns := [], harness := (true, "908e0ba6669616a666f73252abf6db7d6d1688e632c1fd995dbab801d1d264ed"), looks := false }, kinds := [], alts := [], laidByText := true, laidKinds := [.data, .data], laidTests := true, laidLooks := .later }
def PlaneDownCardSaid : Prop := Claim7.holds Tryd.pinned (.plain (OpenSpec.ofChange planeDownSpec)) planeDownCard

/-- THE TIED CARD OF 'flarepathlaw28.PlaneSays'. -/
def planeSaysCard : Claim7 := { stood := { row := planeSaysRow, standIns := [], harness := (true, "908e0ba6669616a666f73252abf6db7d6d1688e632c1fd995dbab801d1d264ed"), looks := false }, kinds := [], alts := [], laidByText := true, laidKinds := [.data, .data], laidTests := true, laidLooks := .later }
def PlaneSaysCardSaid : Prop := Claim7.holds Tryd.pinned (.plain (OpenSpec.ofChange planeSaysSpec)) planeSaysCard

/-- THE SECOND FORM's CARD OF 'flarepathlaw28.PlaneFlies'. -/
def planeFliesUptoCard : Claim7 := { stood := { row := planeFliesUptoRow, standIns := [], harness := (true, "908e0ba6669616a666f73252abf6db7d6d1688e632c1fd995dbab801d1d264ed"), looks := false }, kinds := [], alts := [], laidByText := true, laidKinds := [.data, .data], laidTests := true, laidLooks := .later }
def PlaneFliesUptoCardSaid : Prop := Claim7.holds Tryd.pinned (.plain (OpenSpec.upto planeFliesSpec)) planeFliesUptoCard

/-- THE SECOND FORM's CARD OF 'flarepathlaw28.PlaneCalm'. -/
def planeCalmUptoCard : Claim7 := { stood := { row := planeCalmUptoRow, standIns := [], harness := (true, "908e0ba6669616a666f73252abf6db7d6d1688e632c1fd995dbab801d1d264ed"), looks := false }, kinds := [], alts := [], laidByText := true, laidKinds := [.data, .data], laidTests := true, laidLooks := .later }
def PlaneCalmUptoCardSaid : Prop := Claim7.holds Tryd.pinned (.plain (OpenSpec.upto planeCalmSpec)) planeCalmUptoCard

/-- THE SECOND FORM's CARD OF 'flarepathlaw28.PlaneDown'. -/
def planeDownUptoCard : Claim7 := { stood := { row := planeDownUptoRow, standIns := [], harness := (true, "908e0ba6669616a666f73252abf6db7d6d1688e632c1fd995dbab801d1d264ed"), looks := false }, kinds := [], alts := [], laidByText := true, laidKinds := [.data, .data], laidTests := true, laidLooks := .later }
def PlaneDownUptoCardSaid : Prop := Claim7.holds Tryd.pinned (.plain (OpenSpec.upto planeDownSpec)) planeDownUptoCard

/-- THE SECOND FORM's CARD OF 'flarepathlaw28.PlaneSays'. -/
def planeSaysUptoCard : Claim7 := { stood := { row := planeSaysUptoRow, standIns := [], harness := (true, "908e0ba6669616a666f73252abf6db7d6d1688e632c1fd995dbab801d1d264ed"), looks := false }, kinds := [], alts := [], laidByText := true, laidKinds := [.data, .data], laidTests := true, laidLooks := .later }
def PlaneSaysUptoCardSaid : Prop := Claim7.holds Tryd.pinned (.plain (OpenSpec.upto planeSaysSpec)) planeSaysUptoCard
end Rows
end Go.Proofs.YtaicijhkchfcfaaDoor
