/-
  No cell of these rows narrows 'for every input' (looked for: loops, veiled, ifaces, maps, wideKeys, modest, calm, conditions, laid).
  DERIVED. THE GIVEN ROWS OF THIS SEAT. 4 by the template 'for every input the law returns true; each argument reads behind the call as it read before'; 0 by the template 'total and deterministic' (their statements: YtoolbnbfbegjaaaGreatTotals.lean).
  GIVEN WITH THE SEED: the statements are not yours to turn. If you find one false, say at which input.
  Laid BY PROGRAM, IN A SANDBOX (cutbox-rows.mjs): the forced cells as the released guide's own fill.sh prints them over the translation dc1578ad7a088e53… (all of the seat's roots in one cut). By AI agents, Wed Nov 11 2026. No macro, syntax, notation, axiom, sorry.
-/
import Derived.Test.YtoolbnbfbegjaaaGreatChecked
import GoSem.Claim
import GoSem.ClaimJoined
import GoSem.ClaimMapViews
import Derived.JoinedTies
import Derived.KernelRfl
namespace Go.Proofs.YtoolbnbfbegjaaaGreat
/- THE CELL 'sum', in the pinned program and in every row, IS THE sha256 OF THE DUMP (.gsa) THAT YtoolbnbfbegjaaaGreatProg.lean LOADS. Nothing in Lean hashes anything: it is a label: what it is worth is what the hold of that sum in a sandbox is worth. -/
noncomputable def Tryz.pinned : Pinned := { name := "ytoolbnbfbegjaaagreat", sum := "dc1578ad7a088e53a2d33df9d6dbbaaa1da0ba27b67d7f2211850baa19b26225", checked := Tryz.checked }
namespace Rows
def none {H : Type} : Left H := { results := [], args := [] }

/-- 'pendulumlaw05.EcdsaSigns': WHATEVER THE INPUT: true; the input reads as it did. -/
def ecdsaSignsSpec : ChangeSpec := { name := "ecdsaSigns", fn := fun _ => fun
  | [d1, d2, d3, d4] => { results := [.lit (.bool true)], args := [d1, d2, d3, d4] }
  | _ => none }
def ecdsaSignsRow : OpenClaim := { program := "ytoolbnbfbegjaaagreat", sum := "dc1578ad7a088e53a2d33df9d6dbbaaa1da0ba27b67d7f2211850baa19b26225", func := "pendulum/pendulumlaw05.EcdsaSigns", spec := "ecdsaSigns", inPlace := ["math/bits.Add64", "math/bits.Sub64"], unfollowed := true, recurses := true, named := ["math/bits.divideError", "math/bits.overflowError"], apart := false }
def EcdsaSignsSaid : Prop := ecdsaSignsRow.holds Tryz.pinned (OpenSpec.ofChange ecdsaSignsSpec)

/-- ITS FALSE NEIGHBOUR: 'it returns false'. Refute it at one input. -/
def ecdsaSignsWrong : ChangeSpec := { name := "ecdsaSigns", fn := fun _ => fun
  | [d1, d2, d3, d4] => { results := [.lit (.bool false)], args := [d1, d2, d3, d4] }
  | _ => none }
def EcdsaSignsWrongFalsely : Prop := ecdsaSignsRow.holds Tryz.pinned (OpenSpec.ofChange ecdsaSignsWrong)

/-- 'pendulumlaw05.EcdsaChecks': WHATEVER THE INPUT: true; the input reads as it did. -/
def ecdsaChecksSpec : ChangeSpec := { name := "ecdsaChecks", fn := fun _ => fun
  | [d1, d2, d3] => { results := [.lit (.bool true)], args := [d1, d2, d3] }
  | _ => none }
def ecdsaChecksRow : OpenClaim := { program := "ytoolbnbfbegjaaagreat", sum := "dc1578ad7a088e53a2d33df9d6dbbaaa1da0ba27b67d7f2211850baa19b26225", func := "pendulum/pendulumlaw05.EcdsaChecks", spec := "ecdsaChecks", inPlace := ["math/bits.Add64", "math/bits.Sub64"], unfollowed := true, recurses := true, named := ["math/bits.divideError", "math/bits.overflowError"], apart := false }
def EcdsaChecksSaid : Prop := ecdsaChecksRow.holds Tryz.pinned (OpenSpec.ofChange ecdsaChecksSpec)

/-- ITS FALSE NEIGHBOUR: 'it returns false'. Refute it at one input. -/
def ecdsaChecksWrong : ChangeSpec := { name := "ecdsaChecks", fn := fun _ => fun
  | [d1, d2, d3] => { results := [.lit (.bool false)], args := [d1, d2, d3] }
  | _ => none }
def EcdsaChecksWrongFalsely : Prop := ecdsaChecksRow.holds Tryz.pinned (OpenSpec.ofChange ecdsaChecksWrong)

/-- 'pendulumlaw05.EcdsaHolds': WHATEVER THE INPUT: true; the input reads as it did. -/
def ecdsaHoldsSpec : ChangeSpec := { name := "ecdsaHolds", fn := fun _ => fun
  | [d1, d2, d3, d4] => { results := [.lit (.bool true)], args := [d1, d2, d3, d4] }
  | _ => none }
def ecdsaHoldsRow : OpenClaim := { program := "ytoolbnbfbegjaaagreat", sum := "dc1578ad7a088e53a2d33df9d6dbbaaa1da0ba27b67d7f2211850baa19b26225", func := "pendulum/pendulumlaw05.EcdsaHolds", spec := "ecdsaHolds", inPlace := ["math/bits.Add64", "math/bits.Sub64"], unfollowed := true, recurses := true, named := ["math/bits.divideError", "math/bits.overflowError"], apart := false }
def EcdsaHoldsSaid : Prop := ecdsaHoldsRow.holds Tryz.pinned (OpenSpec.ofChange ecdsaHoldsSpec)

/-- ITS FALSE NEIGHBOUR: 'it returns false'. Refute it at one input. -/
def ecdsaHoldsWrong : ChangeSpec := { name := "ecdsaHolds", fn := fun _ => fun
  | [d1, d2, d3, d4] => { results := [.lit (.bool false)], args := [d1, d2, d3, d4] }
  | _ => none }
def EcdsaHoldsWrongFalsely : Prop := ecdsaHoldsRow.holds Tryz.pinned (OpenSpec.ofChange ecdsaHoldsWrong)

/-- 'pendulumlaw05.EcdsaOther': WHATEVER THE INPUT: true; the input reads as it did. -/
def ecdsaOtherSpec : ChangeSpec := { name := "ecdsaOther", fn := fun _ => fun
  | [d1, d2, d3] => { results := [.lit (.bool true)], args := [d1, d2, d3] }
  | _ => none }
def ecdsaOtherRow : OpenClaim := { program := "ytoolbnbfbegjaaagreat", sum := "dc1578ad7a088e53a2d33df9d6dbbaaa1da0ba27b67d7f2211850baa19b26225", func := "pendulum/pendulumlaw05.EcdsaOther", spec := "ecdsaOther", inPlace := ["math/bits.Add64", "math/bits.Sub64"], unfollowed := true, recurses := true, named := ["math/bits.divideError", "math/bits.overflowError"], apart := false }
def EcdsaOtherSaid : Prop := ecdsaOtherRow.holds Tryz.pinned (OpenSpec.ofChange ecdsaOtherSpec)

/-- ITS FALSE NEIGHBOUR: 'it returns false'. Refute it at one input. -/
def ecdsaOtherWrong : ChangeSpec := { name := "ecdsaOther", fn := fun _ => fun
  | [d1, d2, d3] => { results := [.lit (.bool false)], args := [d1, d2, d3] }
  | _ => none }
def EcdsaOtherWrongFalsely : Prop := ecdsaOtherRow.holds Tryz.pinned (OpenSpec.ofChange ecdsaOtherWrong)

/- THE SECOND FORM. 'bulk': how many values and letters a reading holds, each counted each time it is reached (what is shared counts as often as it is met; a slice's spare places count too). A statement '..UptoSaid' is the law's where the arguments, and the package variables that the reading takes, are together of bulk at most 1048576: NARROWER than '..Said'. Prove '..Said' where nothing that the law and all that it calls make is longer than what came in: it says more and counts as full. Else prove '..UptoSaid'. A law counts once. -/
mutual
def uptoBulk {H : Type} : DataW H → Nat
  | .lit (.string bytes) => bytes.length + 1
  | .lit _ => 1
  | .nil => 1
  | .ptr d => uptoBulk d + 1
  | .slice elems spare => uptoBulkAll elems + uptoBulkAll spare + 1
  | .agg parts => uptoBulkAll parts + 1
  | .iface _ d => uptoBulk d + 1
  | .map entries => uptoBulkEntries entries + 1
  | .held _ => 1
def uptoBulkAll {H : Type} : List (DataW H) → Nat
  | [] => 0
  | d :: r => uptoBulk d + uptoBulkAll r
def uptoBulkEntries {H : Type} : List (Lit × DataW H) → Nat
  | [] => 0
  | x :: r => uptoBulkEntry x + uptoBulkEntries r
def uptoBulkEntry {H : Type} : Lit × DataW H → Nat
  | (.string bytes, d) => bytes.length + uptoBulk d + 1
  | (_, d) => uptoBulk d + 1
 end
def uptoSmall : (H : Type) → List (DataW H) → Bool := fun _ ds => decide (uptoBulkAll ds ≤ 1048576)
def OpenSpec.upto (s : _root_.Go.ChangeSpec) : _root_.Go.OpenSpec := { _root_.Go.OpenSpec.ofChange s with cond := some uptoSmall }

/-- 'pendulumlaw05.EcdsaSigns', WHERE WHAT IT READS IS OF BULK AT MOST 1048576: true; the input reads as it did. -/
def ecdsaSignsUptoRow : OpenClaim := { program := "ytoolbnbfbegjaaagreat", sum := "dc1578ad7a088e53a2d33df9d6dbbaaa1da0ba27b67d7f2211850baa19b26225", func := "pendulum/pendulumlaw05.EcdsaSigns", spec := "ecdsaSigns", inPlace := ["math/bits.Add64", "math/bits.Sub64"], unfollowed := true, recurses := true, named := ["math/bits.divideError", "math/bits.overflowError"], apart := false, narrowed := true }
def EcdsaSignsUptoSaid : Prop := ecdsaSignsUptoRow.holds Tryz.pinned (OpenSpec.upto ecdsaSignsSpec)

/-- 'pendulumlaw05.EcdsaChecks', WHERE WHAT IT READS IS OF BULK AT MOST 1048576: true; the input reads as it did. -/
def ecdsaChecksUptoRow : OpenClaim := { program := "ytoolbnbfbegjaaagreat", sum := "dc1578ad7a088e53a2d33df9d6dbbaaa1da0ba27b67d7f2211850baa19b26225", func := "pendulum/pendulumlaw05.EcdsaChecks", spec := "ecdsaChecks", inPlace := ["math/bits.Add64", "math/bits.Sub64"], unfollowed := true, recurses := true, named := ["math/bits.divideError", "math/bits.overflowError"], apart := false, narrowed := true }
def EcdsaChecksUptoSaid : Prop := ecdsaChecksUptoRow.holds Tryz.pinned (OpenSpec.upto ecdsaChecksSpec)

/-- 'pendulumlaw05.EcdsaHolds', WHERE WHAT IT READS IS OF BULK AT MOST 1048576: true; the input reads as it did. -/
def ecdsaHoldsUptoRow : OpenClaim := { program := "ytoolbnbfbegjaaagreat", sum := "dc1578ad7a088e53a2d33df9d6dbbaaa1da0ba27b67d7f2211850baa19b26225", func := "pendulum/pendulumlaw05.EcdsaHolds", spec := "ecdsaHolds", inPlace := ["math/bits.Add64", "math/bits.Sub64"], unfollowed := true, recurses := true, named := ["math/bits.divideError", "math/bits.overflowError"], apart := false, narrowed := true }
def EcdsaHoldsUptoSaid : Prop := ecdsaHoldsUptoRow.holds Tryz.pinned (OpenSpec.upto ecdsaHoldsSpec)

/-- 'pendulumlaw05.EcdsaOther', WHERE WHAT IT READS IS OF BULK AT MOST 1048576: true; the input reads as it did. -/
def ecdsaOtherUptoRow : OpenClaim := { program := "ytoolbnbfbegjaaagreat", sum := "dc1578ad7a088e53a2d33df9d6dbbaaa1da0ba27b67d7f2211850baa19b26225", func := "pendulum/pendulumlaw05.EcdsaOther", spec := "ecdsaOther", inPlace := ["math/bits.Add64", "math/bits.Sub64"], unfollowed := true, recurses := true, named := ["math/bits.divideError", "math/bits.overflowError"], apart := false, narrowed := true }
def EcdsaOtherUptoSaid : Prop := ecdsaOtherUptoRow.holds Tryz.pinned (OpenSpec.upto ecdsaOtherSpec)

end Rows
end Go.Proofs.YtoolbnbfbegjaaaGreat
