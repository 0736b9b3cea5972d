/-
  DERIVED. GIVEN WITH THE SEED: THE CARDS: each row of YtjdpeedghpblgaaGreatDoorRows.lean that lists a variable, with what it lists TIED to the program's text (the seventh form; the later family's looks); each row that meets fmt, with fmt's text TOLD by the authors' own Lean function (tested against real Go, not proved from fmt's source: count such statements apart). THE CARD IS WHAT COUNTS. Prove the row's statement (the work); the ties are given (YtjdpeedghpblgaaGreatDoorTie.lean); close each card by the builder's one call (the guide's Derived/Test/ToyasCard.lean, 'card_holds'). Laid BY PROGRAM, IN A SANDBOX (cutbox-door.mjs). By AI agents, Wed Nov 11 2026. No macro, syntax, notation, axiom, sorry.
-/
import Derived.Test.YtjdpeedghpblgaaGreatDoorRows
import GoSem.ClaimSeven
namespace Go.Proofs.YtjdpeedghpblgaaGreatDoor
namespace Rows

/-- THE TIED CARD OF 'pendulumlaw14.HandReads'. -/
def handReadsCard : Claim7 := { stood := { row := handReadsRow, standIns := [], harness := (true, "890ba1d8d1ebe89a82a1639a593f56d68c5c1aa40ce5963e0be6516c75233c59"), looks := true }, kinds := [], alts := [], laidByText := true, laidKinds := [.data, .pinned], laidTests := true, laidLooks := .later }
def HandReadsCardSaid : Prop := Claim7.holds Tryz.pinned (.plain (OpenSpec.ofChange handReadsSpec)) handReadsCard

/-- THE TIED CARD OF 'pendulumlaw14.HandRows'. -/
def handRowsCard : Claim7 := { stood := { row := handRowsRow, standIns := [], harness := (true, "890ba1d8d1ebe89a82a1639a593f56d68c5c1aa40ce5963e0be6516c75233c59"), looks := true }, kinds := [], alts := [], laidByText := true, laidKinds := [.data, .pinned], laidTests := true, laidLooks := .later }
def HandRowsCardSaid : Prop := Claim7.holds Tryz.pinned (.plain (OpenSpec.ofChange handRowsSpec)) handRowsCard

/-- THE TIED CARD OF 'pendulumlaw14.HandBack'. -/
def handBackCard : Claim7 := { stood := { row := handBackRow, standIns := [], harness := (true, "890ba1d8d1ebe89a82a1639a593f56d68c5c1aa40ce5963e0be6516c75233c59"), looks := true }, kinds := [], alts := [], laidByText := true, laidKinds := [.data, .pinned], laidTests := true, laidLooks := .later }
def HandBackCardSaid : Prop := Claim7.holds Tryz.pinned (.plain (OpenSpec.ofChange handBackSpec)) handBackCard

/-- THE TIED CARD OF 'pendulumlaw14.HandJoins'. -/
def handJoinsCard : Claim7 := { stood := { row := handJoinsRow, standIns := [], harness := (true, "890ba1d8d1ebe89a82a1639a593f56d68c5c1aa40ce5963e0be6516c75233c59"), looks := true }, kinds := [], alts := [], laidByText := true, laidKinds := [.data, .pinned], laidTests := true, laidLooks := .later }
def HandJoinsCardSaid : Prop := Claim7.holds Tryz.pinned (.plain (OpenSpec.ofChange handJoinsSpec)) handJoinsCard

/-- THE SECOND FORM's CARD OF 'pendulumlaw14.HandReads'. -/
def handReadsUptoCard : Claim7 := { stood := { row := handReadsUptoRow, standIns := [], harness := (true, "890ba1d8d1ebe89a82a1639a593f56d68c5c1aa40ce5963e0be6516c75233c59"), looks := true }, kinds := [], alts := [], laidByText := true, laidKinds := [.data, .pinned], laidTests := true, laidLooks := .later }
def HandReadsUptoCardSaid : Prop := Claim7.holds Tryz.pinned (.plain (OpenSpec.upto handReadsSpec)) handReadsUptoCard

/-- THE SECOND FORM's CARD OF 'pendulumlaw14.HandRows'. -/
def handRowsUptoCard : Claim7 := { stood := { row := handRowsUptoRow, standIns := [], harness := (true, "890ba1d8d1ebe89a82a1639a593f56d68c5c1aa40ce5963e0be6516c75233c59"), looks := true }, kinds := [], alts := [], laidByText := true, laidKinds := [.data, .pinned], laidTests := true, laidLooks := .later }
def HandRowsUptoCardSaid : Prop := Claim7.holds Tryz.pinned (.plain (OpenSpec.upto handRowsSpec)) handRowsUptoCard

/-- THE SECOND FORM's CARD OF 'pendulumlaw14.HandBack'. -/
def handBackUptoCard : Claim7 := { stood := { row := handBackUptoRow, standIns := [], harness := (true, "890ba1d8d1ebe89a82a1639a593f56d68c5c1aa40ce5963e0be6516c75233c59"), looks := true }, kinds := [], alts := [], laidByText := true, laidKinds := [.data, .pinned], laidTests := true, laidLooks := .later }
def HandBackUptoCardSaid : Prop := Claim7.holds Tryz.pinned (.plain (OpenSpec.upto handBackSpec)) handBackUptoCard

/-- THE SECOND FORM's CARD OF 'pendulumlaw14.HandJoins'. -/
def handJoinsUptoCard : Claim7 := { stood := { row := handJoinsUptoRow, standIns := [], harness := (true, "890ba1d8d1ebe89a82a1639a593f56d68c5c1aa40ce5963e0be6516c75233c59"), looks := true }, kinds := [], alts := [], laidByText := true, laidKinds := [.data, .pinned], laidTests := true, laidLooks := .later }
def HandJoinsUptoCardSaid : Prop := Claim7.holds Tryz.pinned (.plain (OpenSpec.upto handJoinsSpec)) handJoinsUptoCard
end Rows
end Go.Proofs.YtjdpeedghpblgaaGreatDoor
