/- Chapter 22: AdjoutNumbers, a closed sentence, comes out true. Pieces. -/
import Derived.Test.YtjlieapiedmiiaaGreatAa
namespace Go.Proofs.YtjlieapiedmiiaaGreat
open Go Go.Ev Go.RowKit
set_option maxRecDepth 100000
namespace ALaw
theorem p181 : pc [1, 1, 1, 1, 1, 1, 1, 1, 0, 1, 0, 0, 1, 1, 0, 0, 1, 1, 0] [G + 0, G + 1, G + 2, G + 3, G + 4, G + 5, G + 6, G + 7, G + 8, G + 9, G + 10, G + 11, G + 12, G + 15, G + 16, G + 17, G + 18, G + 19, G + 20, G + 21, G + 22, G + 23, G + 24, G + 25, G + 26, G + 27, G + 28, G + 29, G + 30, G + 31, G + 32, G + 33, G + 34, G + 35, G + 36, G + 37, G + 38, G + 39, G + 40, G + 41, G + 42, G + 43, G + 44, G + 45, G + 46, G + 47, G + 48, G + 64, G + 67, G + 72, G + 77, G + 81, G + 83] [1, 2, 5, 8, 62, 63, 64] L26 K58 = some (.normal, L27, K59) := by kernel_rfl
end ALaw
end Go.Proofs.YtjlieapiedmiiaaGreat
