/-
  DERIVED. GIVEN WITH THE SEED: THE CARDS: each row of YtfglpcfacjedmaaDoorRows.lean that lists a variable, with what it lists TIED to the program's text (the seventh form; the later family's looks); each row that meets fmt, with fmt's text TOLD by the authors' own Lean function (tested against real Go, not proved from fmt's source: count such statements apart). THE CARD IS WHAT COUNTS. Prove the row's statement (the work); the ties are given (YtfglpcfacjedmaaDoorTie.lean); close each card by the builder's one call (the guide's Derived/Test/ToyasCard.lean, 'card_holds'). Laid BY PROGRAM, IN A SANDBOX (cutbox-door.mjs). By AI agents, Wed Nov 11 2026. No macro, syntax, notation, axiom, sorry.
-/
import Derived.Test.YtfglpcfacjedmaaDoorRows
import GoSem.ClaimSeven
namespace Go.Proofs.YtfglpcfacjedmaaDoor
namespace Rows

/-- THE TIED CARD OF 'pendulumlaw15.SchedSecrets'. -/
def schedSecretsCard : Claim7 := { stood := { row := schedSecretsRow, standIns := [], harness := (true, "09d4dbe5aeaafe3dc65cf0eda8b65f04af225945fd3a20326da05e2543098930"), looks := false }, kinds := [], alts := [], laidByText := true, laidKinds := [.data, .data], laidTests := true, laidLooks := .later }
def SchedSecretsCardSaid : Prop := Claim7.holds Tryd.pinned (.plain (OpenSpec.ofChange schedSecretsSpec)) schedSecretsCard

/-- THE TIED CARD OF 'pendulumlaw15.SchedKeys'. -/
def schedKeysCard : Claim7 := { stood := { row := schedKeysRow, standIns := [], harness := (true, "09d4dbe5aeaafe3dc65cf0eda8b65f04af225945fd3a20326da05e2543098930"), looks := false }, kinds := [], alts := [], laidByText := true, laidKinds := [.data, .data], laidTests := true, laidLooks := .later }
def SchedKeysCardSaid : Prop := Claim7.holds Tryd.pinned (.plain (OpenSpec.ofChange schedKeysSpec)) schedKeysCard

/-- THE TIED CARD OF 'pendulumlaw15.SchedSizes'. -/
def schedSizesCard : Claim7 := { stood := { row := schedSizesRow, standIns := [], harness := (true, "09d4dbe5aeaafe3dc65cf0eda8b65f04af225945fd3a20326da05e2543098930"), looks := false }, kinds := [], alts := [], laidByText := true, laidKinds := [.data, .data], laidTests := true, laidLooks := .later }
def SchedSizesCardSaid : Prop := Claim7.holds Tryd.pinned (.plain (OpenSpec.ofChange schedSizesSpec)) schedSizesCard

/-- THE SECOND FORM's CARD OF 'pendulumlaw15.SchedSecrets'. -/
def schedSecretsUptoCard : Claim7 := { stood := { row := schedSecretsUptoRow, standIns := [], harness := (true, "09d4dbe5aeaafe3dc65cf0eda8b65f04af225945fd3a20326da05e2543098930"), looks := false }, kinds := [], alts := [], laidByText := true, laidKinds := [.data, .data], laidTests := true, laidLooks := .later }
def SchedSecretsUptoCardSaid : Prop := Claim7.holds Tryd.pinned (.plain (OpenSpec.upto schedSecretsSpec)) schedSecretsUptoCard

/-- THE SECOND FORM's CARD OF 'pendulumlaw15.SchedKeys'. -/
def schedKeysUptoCard : Claim7 := { stood := { row := schedKeysUptoRow, standIns := [], harness := (true, "09d4dbe5aeaafe3dc65cf0eda8b65f04af225945fd3a20326da05e2543098930"), looks := false }, kinds := [], alts := [], laidByText := true, laidKinds := [.data, .data], laidTests := true, laidLooks := .later }
def SchedKeysUptoCardSaid : Prop := Claim7.holds Tryd.pinned (.plain (OpenSpec.upto schedKeysSpec)) schedKeysUptoCard

/-- THE SECOND FORM's CARD OF 'pendulumlaw15.SchedSizes'. -/
def schedSizesUptoCard : Claim7 := { stood := { row := schedSizesUptoRow, standIns := [], harness := (true, "09d4dbe5aeaafe3dc65cf0eda8b65f04af225945fd3a20326da05e2543098930"), looks := false }, kinds := [], alts := [], laidByText := true, laidKinds := [.data, .data], laidTests := true, laidLooks := .later }
def SchedSizesUptoCardSaid : Prop := Claim7.holds Tryd.pinned (.plain (OpenSpec.upto schedSizesSpec)) schedSizesUptoCard
end Rows
end Go.Proofs.YtfglpcfacjedmaaDoor
