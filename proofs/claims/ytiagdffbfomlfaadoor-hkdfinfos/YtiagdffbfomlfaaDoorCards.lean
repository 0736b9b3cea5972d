/-
  DERIVED. GIVEN WITH THE SEED: THE CARDS: each row of YtiagdffbfomlfaaDoorRows.lean that lists a variable, with what it lists TIED to the program's text (the seventh form; the later family's looks); each row that meets fmt, with fmt's text TOLD by the authors' own Lean function (tested against real Go, not proved from fmt's source: count such statements apart). THE CARD IS WHAT COUNTS. Prove the row's statement (the work); the ties are given (YtiagdffbfomlfaaDoorTie.lean); close each card by the builder's one call (the guide's Derived/Test/ToyasCard.lean, 'card_holds'). Laid BY PROGRAM, IN A SANDBOX (cutbox-door.mjs). By AI agents, Wed Nov 11 2026. No macro, syntax, notation, axiom, sorry.
-/
import Derived.Test.YtiagdffbfomlfaaDoorRows
import GoSem.ClaimSeven
namespace Go.Proofs.YtiagdffbfomlfaaDoor
namespace Rows

/-- THE TIED CARD OF 'pendulumlaw07.HkdfExpands'. -/
def hkdfExpandsCard : Claim7 := { stood := { row := hkdfExpandsRow, standIns := [], harness := (true, "4110a74f5c7eb094dc9b1157648a484b42e554ac5b965f08ecd59d3ee7afe684"), looks := false }, kinds := [], alts := [], laidByText := true, laidKinds := [.data, .data], laidTests := true, laidLooks := .later }
def HkdfExpandsCardSaid : Prop := Claim7.holds Tryd.pinned (.plain (OpenSpec.ofChange hkdfExpandsSpec)) hkdfExpandsCard

/-- THE TIED CARD OF 'pendulumlaw07.HkdfLabels'. -/
def hkdfLabelsCard : Claim7 := { stood := { row := hkdfLabelsRow, standIns := [], harness := (true, "4110a74f5c7eb094dc9b1157648a484b42e554ac5b965f08ecd59d3ee7afe684"), looks := false }, kinds := [], alts := [], laidByText := true, laidKinds := [.data, .data], laidTests := true, laidLooks := .later }
def HkdfLabelsCardSaid : Prop := Claim7.holds Tryd.pinned (.plain (OpenSpec.ofChange hkdfLabelsSpec)) hkdfLabelsCard

/-- THE TIED CARD OF 'pendulumlaw07.HkdfFewer'. -/
def hkdfFewerCard : Claim7 := { stood := { row := hkdfFewerRow, standIns := [], harness := (true, "4110a74f5c7eb094dc9b1157648a484b42e554ac5b965f08ecd59d3ee7afe684"), looks := false }, kinds := [], alts := [], laidByText := true, laidKinds := [.data, .data], laidTests := true, laidLooks := .later }
def HkdfFewerCardSaid : Prop := Claim7.holds Tryd.pinned (.plain (OpenSpec.ofChange hkdfFewerSpec)) hkdfFewerCard

/-- THE TIED CARD OF 'pendulumlaw07.HkdfInfos'. -/
def hkdfInfosCard : Claim7 := { stood := { row := hkdfInfosRow, standIns := [], harness := (true, "4110a74f5c7eb094dc9b1157648a484b42e554ac5b965f08ecd59d3ee7afe684"), looks := false }, kinds := [], alts := [], laidByText := true, laidKinds := [.data, .data], laidTests := true, laidLooks := .later }
def HkdfInfosCardSaid : Prop := Claim7.holds Tryd.pinned (.plain (OpenSpec.ofChange hkdfInfosSpec)) hkdfInfosCard

/-- THE SECOND FORM's CARD OF 'pendulumlaw07.HkdfExpands'. -/
def hkdfExpandsUptoCard : Claim7 := { stood := { row := hkdfExpandsUptoRow, standIns := [], harness := (true, "4110a74f5c7eb094dc9b1157648a484b42e554ac5b965f08ecd59d3ee7afe684"), looks := false }, kinds := [], alts := [], laidByText := true, laidKinds := [.data, .data], laidTests := true, laidLooks := .later }
def HkdfExpandsUptoCardSaid : Prop := Claim7.holds Tryd.pinned (.plain (OpenSpec.upto hkdfExpandsSpec)) hkdfExpandsUptoCard

/-- THE SECOND FORM's CARD OF 'pendulumlaw07.HkdfLabels'. -/
def hkdfLabelsUptoCard : Claim7 := { stood := { row := hkdfLabelsUptoRow, standIns := [], harness := (true, "4110a74f5c7eb094dc9b1157648a484b42e554ac5b965f08ecd59d3ee7afe684"), looks := false }, kinds := [], alts := [], laidByText := true, laidKinds := [.data, .data], laidTests := true, laidLooks := .later }
def HkdfLabelsUptoCardSaid : Prop := Claim7.holds Tryd.pinned (.plain (OpenSpec.upto hkdfLabelsSpec)) hkdfLabelsUptoCard

/-- THE SECOND FORM's CARD OF 'pendulumlaw07.HkdfFewer'. -/
def hkdfFewerUptoCard : Claim7 := { stood := { row := hkdfFewerUptoRow, standIns := [], harness := (true, "4110a74f5c7eb094dc9b1157648a484b42e554ac5b965f08ecd59d3ee7afe684"), looks := false }, kinds := [], alts := [], laidByText := true, laidKinds := [.data, .data], laidTests := true, laidLooks := .later }
def HkdfFewerUptoCardSaid : Prop := Claim7.holds Tryd.pinned (.plain (OpenSpec.upto hkdfFewerSpec)) hkdfFewerUptoCard

/-- THE SECOND FORM's CARD OF 'pendulumlaw07.HkdfInfos'. -/
def hkdfInfosUptoCard : Claim7 := { stood := { row := hkdfInfosUptoRow, standIns := [], harness := (true, "4110a74f5c7eb094dc9b1157648a484b42e554ac5b965f08ecd59d3ee7afe684"), looks := false }, kinds := [], alts := [], laidByText := true, laidKinds := [.data, .data], laidTests := true, laidLooks := .later }
def HkdfInfosUptoCardSaid : Prop := Claim7.holds Tryd.pinned (.plain (OpenSpec.upto hkdfInfosSpec)) hkdfInfosUptoCard
end Rows
end Go.Proofs.YtiagdffbfomlfaaDoor
