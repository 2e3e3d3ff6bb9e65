/- Chapter 25: FibNumbers, a closed sentence, comes out true. Pieces. -/
import Derived.Test.YtjlieapiedmiiaaFa
namespace Go.Proofs.Ytjlieapiedmiiaa
open Go Go.Ev Go.RowKit
set_option maxRecDepth 100000
namespace FLaw
theorem p518 : pcK18 [kn517] [1, 1, 1, 1, 1, 1, 1, 0, 1, 0, 0, 1, 1, 0, 0, 1, 0] [G + 0, G + 1, G + 2, G + 3, G + 4, G + 5, G + 6, G + 7, G + 8, G + 9, G + 11, G + 12, G + 13, G + 14, G + 15, G + 16, G + 17, G + 18, G + 19, G + 20, G + 21, G + 22, G + 23, G + 24, G + 25, G + 26, G + 27, G + 28, G + 29, G + 30, G + 31, G + 32, G + 33, G + 34, G + 35, G + 36, G + 37, G + 38, G + 39, G + 40, G + 41, G + 42, G + 51] [2, 4, 6, 7, 9, 57, 58, 59, 73] L30 K112 = some (.normal, L33, K113) := by kernel_rfl
theorem p519 : pc [1, 1, 1, 1, 1, 1, 1, 0, 1, 0, 0, 1, 1, 0, 0, 1, 1] [G + 0, G + 1, G + 2, G + 3, G + 4, G + 5, G + 6, G + 7, G + 8, G + 9, G + 10, G + 11, G + 12, G + 13, G + 14, G + 15, G + 16, G + 17, G + 18, G + 19, G + 20, G + 21, G + 22, G + 23, G + 24, G + 25, G + 26, G + 27, G + 28, G + 29, G + 30, G + 31, G + 32, G + 33, G + 34, G + 35, G + 36, G + 37, G + 38, G + 39, G + 40, G + 41, G + 42] [2, 4, 6, 7, 9, 57, 58, 59] L33 K113 = some (.normal, L33, K110) := by kernel_rfl
theorem p523 : pc [1, 1, 1, 1, 1, 1, 1, 0, 1, 0, 0, 1, 1, 1] [G + 0, G + 1, G + 2, G + 3, G + 4, G + 5, G + 6, G + 7, G + 8, G + 9, G + 10, G + 11, G + 12, G + 13, G + 14, G + 15, G + 16, G + 17, G + 18, G + 19, G + 20, G + 21, G + 22, G + 23, G + 24, G + 25, G + 26, G + 27, G + 28, G + 29, G + 30, G + 31, G + 32, G + 33, G + 34, G + 35, G + 36, G + 37, G + 38, G + 39, G + 40, G + 41, G + 42] [2, 4, 6, 7, 9, 57, 58, 59] L33 K110 = some (.normal, L33, K114) := by kernel_rfl
theorem p527 : pc [1, 1, 1, 1, 1, 1, 1, 0, 1, 0, 0, 0] [G + 0, G + 1, G + 2, G + 3, G + 4, G + 5, G + 6, G + 7, G + 8, G + 9, G + 10, G + 11, G + 12, G + 13, G + 14, G + 15, G + 16, G + 17, G + 18, G + 19, G + 20, G + 21, G + 22, G + 23, G + 24, G + 25, G + 26, G + 27, G + 28, G + 29, G + 30, G + 31, G + 32, G + 33, G + 34, G + 35, G + 36, G + 37, G + 38, G + 39, G + 40, G + 41, G + 42] [2, 4, 6, 7, 9, 57, 58, 59, 60] L33 K114 = some (.normal, L33, K115) := by kernel_rfl
theorem p528 : pc [1, 1, 1, 1, 1, 1, 1, 0, 1, 0, 0, 1, 0] [] [2, 4, 6] L33 K115 = some (.exit 0, L0, K3) := by kernel_rfl
theorem p534 : pc [1, 1, 1, 1, 1, 1, 1, 1] [] [0] L0 K3 = some (.ret, L0, K116) := by kernel_rfl
end FLaw
end Go.Proofs.Ytjlieapiedmiiaa
