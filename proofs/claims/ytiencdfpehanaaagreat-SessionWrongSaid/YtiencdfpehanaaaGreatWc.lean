/- P12.1: a message that does not belong to a state ends the line with 5, 0; a NOTIFICATION ends it without a word: its ways, 2. -/
import Derived.Test.YtiencdfpehanaaaGreatWa
namespace Go.Proofs.YtiencdfpehanaaaGreat
open Go Go.Ev
set_option maxRecDepth 100000
namespace SessW
theorem r_1_4 (a b : Int) : SRow a b 1 4 578 531 := by unfold SRow; kernel_rfl
theorem r_1_5 (a b : Int) : SRow a b 1 5 578 267 := by unfold SRow; kernel_rfl
theorem r_1_6 (a b : Int) : SRow a b 1 6 578 578 := by unfold SRow; kernel_rfl
theorem r_1_7 (a b : Int) : SRow a b 1 7 578 274 := by unfold SRow; kernel_rfl
end SessW
end Go.Proofs.YtiencdfpehanaaaGreat
