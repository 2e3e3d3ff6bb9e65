/- Chapter 22: AdjoutNumbers, a closed sentence, comes out true. Pieces. -/
import Derived.Test.YtjlieapiedmiiaaGreatAa
namespace Go.Proofs.YtjlieapiedmiiaaGreat
open Go Go.Ev Go.RowKit
set_option maxRecDepth 100000
namespace ALaw
theorem p55 : pc [1, 1, 1, 1, 1, 1, 1, 1, 0, 1, 0, 0, 1, 1, 0, 0, 1, 1, 0] [G + 0, G + 1, G + 2, G + 3, G + 4, G + 5, G + 6, G + 7, G + 8, G + 9, G + 10, G + 11, G + 12, G + 28, G + 31, G + 36, G + 41, G + 42, G + 43, G + 44, G + 45, G + 46, G + 47, G + 48, G + 58, G + 59, G + 60, G + 61, G + 62, G + 63, G + 64, G + 65, G + 69, G + 73, G + 75] [1, 2, 5, 8, 62, 63, 64] L10 K20 = some (.normal, L11, K21) := by kernel_rfl
end ALaw
end Go.Proofs.YtjlieapiedmiiaaGreat
