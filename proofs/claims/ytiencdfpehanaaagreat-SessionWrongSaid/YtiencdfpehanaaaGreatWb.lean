/- P12.1: a message that does not belong to a state ends the line with 5, 0; a NOTIFICATION ends it without a word: its ways, 1. -/
import Derived.Test.YtiencdfpehanaaaGreatWa
namespace Go.Proofs.YtiencdfpehanaaaGreat
open Go Go.Ev
set_option maxRecDepth 100000
namespace SessW
theorem r_0_4 (a b : Int) : SRow a b 0 4 3 590 := by unfold SRow; kernel_rfl
theorem r_0_5 (a b : Int) : SRow a b 0 5 3 495 := by unfold SRow; kernel_rfl
theorem r_0_6 (a b : Int) : SRow a b 0 6 3 576 := by unfold SRow; kernel_rfl
theorem r_0_7 (a b : Int) : SRow a b 0 7 3 273 := by unfold SRow; kernel_rfl
end SessW
end Go.Proofs.YtiencdfpehanaaaGreat
