/- The program's contracts of nego. -/
import Derived.Test.YtbhmbdkijpocmaaGreatDoorJ14
import Derived.Test.YtbhmbdkijpocmaaGreatDoorJ15
import Derived.Test.YtbhmbdkijpocmaaGreatDoorJ12
import Derived.Test.YtbhmbdkijpocmaaGreatDoorJ10
import Derived.Test.YtbhmbdkijpocmaaGreatDoorJ16
set_option linter.all false
namespace Go.Proofs.YtbhmbdkijpocmaaGreatDoor
theorem allFive : CAs ∧ CAn ∧ CAc ∧ CSm ∧ CK0 := ⟨tA, tN, tC, tM, tK⟩
end Go.Proofs.YtbhmbdkijpocmaaGreatDoor
