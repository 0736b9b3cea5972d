/-
  DERIVED. GIVEN WITH THE SEED: THE CARDS: each row of YtbhmbdkijpocmaaGreatDoorRows.lean that lists a variable, with what it lists TIED to the program's text (the seventh form; the later family's looks); each row that meets fmt, with fmt's text TOLD by the authors' own Lean function (tested against real Go, not proved from fmt's source: count such statements apart). THE CARD IS WHAT COUNTS. Prove the row's statement (the work); the ties are given (YtbhmbdkijpocmaaGreatDoorTie.lean); close each card by the builder's one call (the guide's Derived/Test/ToyasCard.lean, 'card_holds'). Laid BY PROGRAM, IN A SANDBOX (cutbox-door.mjs). By AI agents, Wed Nov 11 2026. No macro, syntax, notation, axiom, sorry.
-/
import Derived.Test.YtbhmbdkijpocmaaGreatDoorRows
import GoSem.ClaimSeven
namespace Go.Proofs.YtbhmbdkijpocmaaGreatDoor
namespace Rows

/-- THE TIED CARD OF 'pendulumlaw19.NegoAsks'. -/
def negoAsksCard : Claim7 := { stood := { row := negoAsksRow, standIns := [], harness := (true, "e358241ec76f595fcd7711744791c251019dc7dc1b741903f4fdb421c2084b9c"), looks := false }, kinds := [], alts := [], laidByText := true, laidKinds := [.data, .data], laidTests := true, laidLooks := .later }
def NegoAsksCardSaid : Prop := Claim7.holds Tryz.pinned (.plain (OpenSpec.ofChange negoAsksSpec)) negoAsksCard

/-- THE TIED CARD OF 'pendulumlaw19.NegoAccepts'. -/
def negoAcceptsCard : Claim7 := { stood := { row := negoAcceptsRow, standIns := [], harness := (true, "e358241ec76f595fcd7711744791c251019dc7dc1b741903f4fdb421c2084b9c"), looks := false }, kinds := [], alts := [], laidByText := true, laidKinds := [.data, .data], laidTests := true, laidLooks := .later }
def NegoAcceptsCardSaid : Prop := Claim7.holds Tryz.pinned (.plain (OpenSpec.ofChange negoAcceptsSpec)) negoAcceptsCard

/-- THE TIED CARD OF 'pendulumlaw19.NegoAgrees'. -/
def negoAgreesCard : Claim7 := { stood := { row := negoAgreesRow, standIns := [], harness := (true, "e358241ec76f595fcd7711744791c251019dc7dc1b741903f4fdb421c2084b9c"), looks := false }, kinds := [], alts := [], laidByText := true, laidKinds := [.data, .data], laidTests := true, laidLooks := .later }
def NegoAgreesCardSaid : Prop := Claim7.holds Tryz.pinned (.plain (OpenSpec.ofChange negoAgreesSpec)) negoAgreesCard

/-- THE TIED CARD OF 'pendulumlaw19.NegoSafe'. -/
def negoSafeCard : Claim7 := { stood := { row := negoSafeRow, standIns := [], harness := (true, "e358241ec76f595fcd7711744791c251019dc7dc1b741903f4fdb421c2084b9c"), looks := false }, kinds := [], alts := [], laidByText := true, laidKinds := [.data, .data], laidTests := true, laidLooks := .later }
def NegoSafeCardSaid : Prop := Claim7.holds Tryz.pinned (.plain (OpenSpec.ofChange negoSafeSpec)) negoSafeCard

/-- THE SECOND FORM's CARD OF 'pendulumlaw19.NegoAsks'. -/
def negoAsksUptoCard : Claim7 := { stood := { row := negoAsksUptoRow, standIns := [], harness := (true, "e358241ec76f595fcd7711744791c251019dc7dc1b741903f4fdb421c2084b9c"), looks := false }, kinds := [], alts := [], laidByText := true, laidKinds := [.data, .data], laidTests := true, laidLooks := .later }
def NegoAsksUptoCardSaid : Prop := Claim7.holds Tryz.pinned (.plain (OpenSpec.upto negoAsksSpec)) negoAsksUptoCard

/-- THE SECOND FORM's CARD OF 'pendulumlaw19.NegoAccepts'. -/
def negoAcceptsUptoCard : Claim7 := { stood := { row := negoAcceptsUptoRow, standIns := [], harness := (true, "e358241ec76f595fcd7711744791c251019dc7dc1b741903f4fdb421c2084b9c"), looks := false }, kinds := [], alts := [], laidByText := true, laidKinds := [.data, .data], laidTests := true, laidLooks := .later }
def NegoAcceptsUptoCardSaid : Prop := Claim7.holds Tryz.pinned (.plain (OpenSpec.upto negoAcceptsSpec)) negoAcceptsUptoCard

/-- THE SECOND FORM's CARD OF 'pendulumlaw19.NegoAgrees'. -/
def negoAgreesUptoCard : Claim7 := { stood := { row := negoAgreesUptoRow, standIns := [], harness := (true, "e358241ec76f595fcd7711744791c251019dc7dc1b741903f4fdb421c2084b9c"), looks := false }, kinds := [], alts := [], laidByText := true, laidKinds := [.data, .data], laidTests := true, laidLooks := .later }
def NegoAgreesUptoCardSaid : Prop := Claim7.holds Tryz.pinned (.plain (OpenSpec.upto negoAgreesSpec)) negoAgreesUptoCard

/-- THE SECOND FORM's CARD OF 'pendulumlaw19.NegoSafe'. -/
def negoSafeUptoCard : Claim7 := { stood := { row := negoSafeUptoRow, standIns := [], harness := (true, "e358241ec76f595fcd7711744791c251019dc7dc1b741903f4fdb421c2084b9c"), looks := false }, kinds := [], alts := [], laidByText := true, laidKinds := [.data, .data], laidTests := true, laidLooks := .later }
def NegoSafeUptoCardSaid : Prop := Claim7.holds Tryz.pinned (.plain (OpenSpec.upto negoSafeSpec)) negoSafeUptoCard
end Rows
end Go.Proofs.YtbhmbdkijpocmaaGreatDoor
