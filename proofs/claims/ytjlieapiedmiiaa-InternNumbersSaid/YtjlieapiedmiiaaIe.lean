/- Chapter 11: InternNumbers, a closed sentence, comes out true. Pieces. -/
import Derived.Test.YtjlieapiedmiiaaIa
namespace Go.Proofs.Ytjlieapiedmiiaa
open Go Go.Ev Go.RowKit
set_option maxRecDepth 100000
namespace ILaw
theorem p71 : pc [1, 1, 1, 1, 1, 1, 1, 0, 1, 0, 0, 1, 1, 0, 0, 1, 0] [G + 0, G + 1, G + 2, G + 3, G + 4, G + 5, G + 6, G + 7, G + 8, G + 9, G + 10, G + 11] [2, 4, 5, 7, 9, 66, 67, 68, 82] L13 K29 = some (.normal, L14, K30) := by kernel_rfl
end ILaw
end Go.Proofs.Ytjlieapiedmiiaa
