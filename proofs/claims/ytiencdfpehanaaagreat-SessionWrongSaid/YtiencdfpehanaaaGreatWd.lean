/- P12.1: a message that does not belong to a state ends the line with 5, 0; a NOTIFICATION ends it without a word: its ways, 3. -/
import Derived.Test.YtiencdfpehanaaaGreatWa
namespace Go.Proofs.YtiencdfpehanaaaGreat
open Go Go.Ev
set_option maxRecDepth 100000
namespace SessW
theorem r_2_4 (a b : Int) : SRow a b 2 4 827 538 := by unfold SRow; kernel_rfl
theorem r_2_5 (a b : Int) : SRow a b 2 5 827 273 := by unfold SRow; kernel_rfl
theorem r_2_6 (a b : Int) : SRow a b 2 6 827 471 := by unfold SRow; kernel_rfl
theorem r_2_7 (a b : Int) : SRow a b 2 7 827 279 := by unfold SRow; kernel_rfl
end SessW
end Go.Proofs.YtiencdfpehanaaaGreat
