/- Chapter 11: InternNumbers, a closed sentence, comes out true. Pieces. -/
import Derived.Test.YtjlieapiedmiiaaIa
namespace Go.Proofs.Ytjlieapiedmiiaa
open Go Go.Ev Go.RowKit
set_option maxRecDepth 100000
namespace ILaw
theorem p47 : pc [1, 1, 1, 1, 1, 1, 1, 0, 1, 0, 0, 1, 1, 0, 0, 1, 0] [G + 0, G + 1, G + 2, G + 3, G + 4, G + 5, G + 6, G + 7, G + 18, G + 23, G + 25, G + 39] [2, 4, 5, 7, 9, 66, 67, 68, 82] L10 K21 = some (.normal, L11, K22) := by kernel_rfl
theorem p48 : pc [1, 1, 1, 1, 1, 1, 1, 0, 1, 0, 0, 1, 1, 0, 0, 1, 1] [G + 0, G + 1, G + 2, G + 3, G + 4, G + 5, G + 6, G + 7, G + 8, G + 9, G + 10, G + 11] [2, 4, 5, 7, 9, 66, 67, 68] L11 K22 = some (.normal, L11, K19) := by kernel_rfl
theorem p52 : pc [1, 1, 1, 1, 1, 1, 1, 0, 1, 0, 0, 1, 1, 1] [G + 0, G + 1, G + 2, G + 3, G + 4, G + 5, G + 6, G + 7, G + 8, G + 9, G + 10, G + 11] [2, 4, 5, 7, 9, 66, 67, 68] L11 K19 = some (.normal, L11, K23) := by kernel_rfl
theorem p56 : pc [1, 1, 1, 1, 1, 1, 1, 0, 1, 0, 0, 0] [G + 0, G + 1, G + 2, G + 3, G + 4, G + 5, G + 6, G + 7, G + 8, G + 9, G + 10, G + 11] [2, 4, 5, 7, 9, 66, 67, 68, 69] L11 K23 = some (.normal, L11, K24) := by kernel_rfl
theorem p57 : pc [1, 1, 1, 1, 1, 1, 1, 0, 1, 0, 0, 1, 0] [G + 0, G + 1, G + 2, G + 3, G + 4, G + 5, G + 6, G + 7, G + 8, G + 9, G + 10, G + 11] [2, 4, 5, 7, 9, 66, 67, 68] L11 K24 = some (.normal, L11, K23) := by kernel_rfl
theorem p58 : pc [1, 1, 1, 1, 1, 1, 1, 0, 1, 0, 0, 1, 1, 0, 0, 0] [G + 0, G + 1, G + 2, G + 3, G + 4, G + 5, G + 6, G + 7, G + 8, G + 9, G + 10, G + 11, G + 12] [2, 4, 5, 7, 9, 11, 66, 67, 68] L11 K23 = some (.normal, L12, K25) := by kernel_rfl
end ILaw
end Go.Proofs.Ytjlieapiedmiiaa
