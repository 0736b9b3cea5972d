/-
  DERIVED. GIVEN WITH THE SEED: THE CARDS: each row of YtmkfnfencllfnaaDoorRows.lean that lists a variable, with what it lists TIED to the program's text (the seventh form; the later family's looks); each row that meets fmt, with fmt's text TOLD by the authors' own Lean function (tested against real Go, not proved from fmt's source: count such statements apart). THE CARD IS WHAT COUNTS. Prove the row's statement (the work); the ties are given (YtmkfnfencllfnaaDoorTie.lean); close each card by the builder's one call (the guide's Derived/Test/ToyasCard.lean, 'card_holds'). Laid BY PROGRAM, IN A SANDBOX (cutbox-door.mjs). By AI agents, Wed Nov 11 2026. No macro, syntax, notation, axiom, sorry.
-/
import Derived.Test.YtmkfnfencllfnaaDoorRows
import GoSem.ClaimSeven
namespace Go.Proofs.YtmkfnfencllfnaaDoor
namespace Rows

/-- THE TIED CARD OF 'pendulumlaw19.NegoKeys'. -/
def negoKeysCard : Claim7 := { stood := { row := negoKeysRow, standIns := [], harness := (true, "7ac1e7f45b0705e16955e206b7181ef11e22737db9a6fe4b768fe917fe89cf1e"), looks := false }, kinds := [], alts := [], laidByText := true, laidKinds := [.data, .data], laidTests := true, laidLooks := .later }
def NegoKeysCardSaid : Prop := Claim7.holds Tryd.pinned (.plain (OpenSpec.ofChange negoKeysSpec)) negoKeysCard

/-- THE SECOND FORM's CARD OF 'pendulumlaw19.NegoKeys'. -/
def negoKeysUptoCard : Claim7 := { stood := { row := negoKeysUptoRow, standIns := [], harness := (true, "7ac1e7f45b0705e16955e206b7181ef11e22737db9a6fe4b768fe917fe89cf1e"), looks := false }, kinds := [], alts := [], laidByText := true, laidKinds := [.data, .data], laidTests := true, laidLooks := .later }
def NegoKeysUptoCardSaid : Prop := Claim7.holds Tryd.pinned (.plain (OpenSpec.upto negoKeysSpec)) negoKeysUptoCard
end Rows
end Go.Proofs.YtmkfnfencllfnaaDoor
