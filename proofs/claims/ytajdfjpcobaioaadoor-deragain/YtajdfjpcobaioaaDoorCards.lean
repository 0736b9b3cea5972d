/-
  DERIVED. GIVEN WITH THE SEED: THE CARDS: each row of YtajdfjpcobaioaaDoorRows.lean that lists a variable, with what it lists TIED to the program's text (the seventh form; the later family's looks); each row that meets fmt, with fmt's text TOLD by the authors' own Lean function (tested against real Go, not proved from fmt's source: count such statements apart). THE CARD IS WHAT COUNTS. Prove the row's statement (the work); the ties are given (YtajdfjpcobaioaaDoorTie.lean); close each card by the builder's one call (the guide's Derived/Test/ToyasCard.lean, 'card_holds'). Laid BY PROGRAM, IN A SANDBOX (cutbox-door.mjs). By AI agents, Wed Nov 11 2026. No macro, syntax, notation, axiom, sorry.
-/
import Derived.Test.YtajdfjpcobaioaaDoorRows
import GoSem.ClaimSeven
namespace Go.Proofs.YtajdfjpcobaioaaDoor
namespace Rows

/-- THE TIED CARD OF 'pendulumlaw11.DerReads'. -/
def derReadsCard : Claim7 := { stood := { row := derReadsRow, standIns := [], harness := (true, "40130e41d1e744bd389d134ccff57049042ced56634c7a38c8ac6506cc90f662"), looks := false }, kinds := [], alts := [], laidByText := true, laidKinds := [.data, .data, .data, .data, .pinned], laidTests := true, laidLooks := .later }
def DerReadsCardSaid : Prop := Claim7.holds Tryd.pinned (.plain (OpenSpec.ofChange derReadsSpec)) derReadsCard

/-- THE TIED CARD OF 'pendulumlaw11.DerBack'. -/
def derBackCard : Claim7 := { stood := { row := derBackRow, standIns := [], harness := (true, "40130e41d1e744bd389d134ccff57049042ced56634c7a38c8ac6506cc90f662"), looks := false }, kinds := [], alts := [], laidByText := true, laidKinds := [.data, .data, .data, .data, .pinned], laidTests := true, laidLooks := .later }
def DerBackCardSaid : Prop := Claim7.holds Tryd.pinned (.plain (OpenSpec.ofChange derBackSpec)) derBackCard

/-- THE TIED CARD OF 'pendulumlaw11.DerAgain'. -/
def derAgainCard : Claim7 := { stood := { row := derAgainRow, standIns := [], harness := (true, "40130e41d1e744bd389d134ccff57049042ced56634c7a38c8ac6506cc90f662"), looks := false }, kinds := [], alts := [], laidByText := true, laidKinds := [.data, .data, .data, .data, .pinned], laidTests := true, laidLooks := .later }
def DerAgainCardSaid : Prop := Claim7.holds Tryd.pinned (.plain (OpenSpec.ofChange derAgainSpec)) derAgainCard

/-- THE TIED CARD OF 'pendulumlaw11.DerOrder'. -/
def derOrderCard : Claim7 := { stood := { row := derOrderRow, standIns := [], harness := (true, "40130e41d1e744bd389d134ccff57049042ced56634c7a38c8ac6506cc90f662"), looks := false }, kinds := [], alts := [], laidByText := true, laidKinds := [.data, .data, .data, .data, .pinned], laidTests := true, laidLooks := .later }
def DerOrderCardSaid : Prop := Claim7.holds Tryd.pinned (.plain (OpenSpec.ofChange derOrderSpec)) derOrderCard

/-- THE SECOND FORM's CARD OF 'pendulumlaw11.DerReads'. -/
def derReadsUptoCard : Claim7 := { stood := { row := derReadsUptoRow, standIns := [], harness := (true, "40130e41d1e744bd389d134ccff57049042ced56634c7a38c8ac6506cc90f662"), looks := false }, kinds := [], alts := [], laidByText := true, laidKinds := [.data, .data, .data, .data, .pinned], laidTests := true, laidLooks := .later }
def DerReadsUptoCardSaid : Prop := Claim7.holds Tryd.pinned (.plain (OpenSpec.upto derReadsSpec)) derReadsUptoCard

/-- THE SECOND FORM's CARD OF 'pendulumlaw11.DerBack'. -/
def derBackUptoCard : Claim7 := { stood := { row := derBackUptoRow, standIns := [], harness := (true, "40130e41d1e744bd389d134ccff57049042ced56634c7a38c8ac6506cc90f662"), looks := false }, kinds := [], alts := [], laidByText := true, laidKinds := [.data, .data, .data, .data, .pinned], laidTests := true, laidLooks := .later }
def DerBackUptoCardSaid : Prop := Claim7.holds Tryd.pinned (.plain (OpenSpec.upto derBackSpec)) derBackUptoCard

/-- THE SECOND FORM's CARD OF 'pendulumlaw11.DerAgain'. -/
def derAgainUptoCard : Claim7 := { stood := { row := derAgainUptoRow, standIns := [], harness := (true, "40130e41d1e744bd389d134ccff57049042ced56634c7a38c8ac6506cc90f662"), looks := false }, kinds := [], alts := [], laidByText := true, laidKinds := [.data, .data, .data, .data, .pinned], laidTests := true, laidLooks := .later }
def DerAgainUptoCardSaid : Prop := Claim7.holds Tryd.pinned (.plain (OpenSpec.upto derAgainSpec)) derAgainUptoCard

/-- THE SECOND FORM's CARD OF 'pendulumlaw11.DerOrder'. -/
def derOrderUptoCard : Claim7 := { stood := { row := derOrderUptoRow, standIns := [], harness := (true, "40130e41d1e744bd389d134ccff57049042ced56634c7a38c8ac6506cc90f662"), looks := false }, kinds := [], alts := [], laidByText := true, laidKinds := [.data, .data, .data, .data, .pinned], laidTests := true, laidLooks := .later }
def DerOrderUptoCardSaid : Prop := Claim7.holds Tryd.pinned (.plain (OpenSpec.upto derOrderSpec)) derOrderUptoCard
end Rows
end Go.Proofs.YtajdfjpcobaioaaDoor
