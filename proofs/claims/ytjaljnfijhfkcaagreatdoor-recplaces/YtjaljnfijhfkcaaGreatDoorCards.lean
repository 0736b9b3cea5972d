/-
  DERIVED. GIVEN WITH THE SEED: THE CARDS: each row of YtjaljnfijhfkcaaGreatDoorRows.lean that lists a variable, with what it lists TIED to the program's text (the seventh form; the later family's looks); each row that meets fmt, with fmt's text TOLD by the authors' own Lean function (tested against real Go, not proved from fmt's source: count such statements apart). THE CARD IS WHAT COUNTS. Prove the row's statement (the work); the ties are given (YtjaljnfijhfkcaaGreatDoorTie.lean); close each card by the builder's one call (the guide's Derived/Test/ToyasCard.lean, 'card_holds'). Laid BY PROGRAM, IN A SANDBOX (cutbox-door.mjs). By AI agents, Wed Nov 11 2026. No macro, syntax, notation, axiom, sorry.
-/
import Derived.Test.YtjaljnfijhfkcaaGreatDoorRows
import GoSem.ClaimSeven
namespace Go.Proofs.YtjaljnfijhfkcaaGreatDoor
namespace Rows

/-- THE TIED CARD OF 'pendulumlaw13.RecSeals'. -/
def recSealsCard : Claim7 := { stood := { row := recSealsRow, standIns := [], harness := (true, "f09a67dd7e9171e82127e0b02e7bebd26a3e623ccea09c5ff808d65249f911a0"), looks := false }, kinds := [], alts := [], laidByText := true, laidKinds := [.data, .pinned], laidTests := true, laidLooks := .later }
def RecSealsCardSaid : Prop := Claim7.holds Tryz.pinned (.plain (OpenSpec.ofChange recSealsSpec)) recSealsCard

/-- THE TIED CARD OF 'pendulumlaw13.RecBack'. -/
def recBackCard : Claim7 := { stood := { row := recBackRow, standIns := [], harness := (true, "f09a67dd7e9171e82127e0b02e7bebd26a3e623ccea09c5ff808d65249f911a0"), looks := false }, kinds := [], alts := [], laidByText := true, laidKinds := [.data, .pinned], laidTests := true, laidLooks := .later }
def RecBackCardSaid : Prop := Claim7.holds Tryz.pinned (.plain (OpenSpec.ofChange recBackSpec)) recBackCard

/-- THE TIED CARD OF 'pendulumlaw13.RecPlaces'. -/
def recPlacesCard : Claim7 := { stood := { row := recPlacesRow, standIns := [], harness := (true, "f09a67dd7e9171e82127e0b02e7bebd26a3e623ccea09c5ff808d65249f911a0"), looks := false }, kinds := [], alts := [], laidByText := true, laidKinds := [.data, .pinned], laidTests := true, laidLooks := .later }
def RecPlacesCardSaid : Prop := Claim7.holds Tryz.pinned (.plain (OpenSpec.ofChange recPlacesSpec)) recPlacesCard

/-- THE SECOND FORM's CARD OF 'pendulumlaw13.RecSeals'. -/
def recSealsUptoCard : Claim7 := { stood := { row := recSealsUptoRow, standIns := [], harness := (true, "f09a67dd7e9171e82127e0b02e7bebd26a3e623ccea09c5ff808d65249f911a0"), looks := false }, kinds := [], alts := [], laidByText := true, laidKinds := [.data, .pinned], laidTests := true, laidLooks := .later }
def RecSealsUptoCardSaid : Prop := Claim7.holds Tryz.pinned (.plain (OpenSpec.upto recSealsSpec)) recSealsUptoCard

/-- THE SECOND FORM's CARD OF 'pendulumlaw13.RecBack'. -/
def recBackUptoCard : Claim7 := { stood := { row := recBackUptoRow, standIns := [], harness := (true, "f09a67dd7e9171e82127e0b02e7bebd26a3e623ccea09c5ff808d65249f911a0"), looks := false }, kinds := [], alts := [], laidByText := true, laidKinds := [.data, .pinned], laidTests := true, laidLooks := .later }
def RecBackUptoCardSaid : Prop := Claim7.holds Tryz.pinned (.plain (OpenSpec.upto recBackSpec)) recBackUptoCard

/-- THE SECOND FORM's CARD OF 'pendulumlaw13.RecPlaces'. -/
def recPlacesUptoCard : Claim7 := { stood := { row := recPlacesUptoRow, standIns := [], harness := (true, "f09a67dd7e9171e82127e0b02e7bebd26a3e623ccea09c5ff808d65249f911a0"), looks := false }, kinds := [], alts := [], laidByText := true, laidKinds := [.data, .pinned], laidTests := true, laidLooks := .later }
def RecPlacesUptoCardSaid : Prop := Claim7.holds Tryz.pinned (.plain (OpenSpec.upto recPlacesSpec)) recPlacesUptoCard
end Rows
end Go.Proofs.YtjaljnfijhfkcaaGreatDoor
