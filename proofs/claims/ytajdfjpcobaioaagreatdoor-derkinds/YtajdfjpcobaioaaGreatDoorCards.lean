/-
  DERIVED. GIVEN WITH THE SEED: THE CARDS: each row of YtajdfjpcobaioaaGreatDoorRows.lean that lists a variable, with what it lists TIED to the program's text (the seventh form; the later family's looks); each row that meets fmt, with fmt's text TOLD by the authors' own Lean function (tested against real Go, not proved from fmt's source: count such statements apart). THE CARD IS WHAT COUNTS. Prove the row's statement (the work); the ties are given (YtajdfjpcobaioaaGreatDoorTie.lean); close each card by the builder's one call (the guide's Derived/Test/ToyasCard.lean, 'card_holds'). Laid BY PROGRAM, IN A SANDBOX (cutbox-door.mjs). By AI agents, Wed Nov 11 2026. No macro, syntax, notation, axiom, sorry.
-/
import Derived.Test.YtajdfjpcobaioaaGreatDoorRows
import GoSem.ClaimSeven
namespace Go.Proofs.YtajdfjpcobaioaaGreatDoor
namespace Rows

/-- THE TIED CARD OF 'pendulumlaw11.DerKinds'. -/
def derKindsCard : Claim7 := { stood := { row := derKindsRow, standIns := [], harness := (true, "af0268f426ecf823c7c70275cf3b8bdb5bf6e76211d0956243f33b75acdd92b1"), looks := false }, kinds := [], alts := [], laidByText := true, laidKinds := [.data, .data, .data, .data, .pinned], laidTests := true, laidLooks := .later }
def DerKindsCardSaid : Prop := Claim7.holds Tryz.pinned (.plain (OpenSpec.ofChange derKindsSpec)) derKindsCard

/-- THE SECOND FORM's CARD OF 'pendulumlaw11.DerKinds'. -/
def derKindsUptoCard : Claim7 := { stood := { row := derKindsUptoRow, standIns := [], harness := (true, "af0268f426ecf823c7c70275cf3b8bdb5bf6e76211d0956243f33b75acdd92b1"), looks := false }, kinds := [], alts := [], laidByText := true, laidKinds := [.data, .data, .data, .data, .pinned], laidTests := true, laidLooks := .later }
def DerKindsUptoCardSaid : Prop := Claim7.holds Tryz.pinned (.plain (OpenSpec.upto derKindsSpec)) derKindsUptoCard
end Rows
end Go.Proofs.YtajdfjpcobaioaaGreatDoor
