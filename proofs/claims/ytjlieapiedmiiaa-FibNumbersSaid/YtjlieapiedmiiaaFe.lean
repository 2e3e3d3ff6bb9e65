/- Chapter 25: FibNumbers, a closed sentence, comes out true. Pieces. -/
import Derived.Test.YtjlieapiedmiiaaFa
namespace Go.Proofs.Ytjlieapiedmiiaa
open Go Go.Ev Go.RowKit
set_option maxRecDepth 100000
namespace FLaw
theorem p107 : pc [1, 1, 1, 1, 1, 1, 1, 0, 1, 0, 0, 1, 1, 0, 0, 1, 0] [G + 0, G + 1, G + 2, G + 3, G + 4, G + 5, G + 6, G + 7, G + 8, G + 9, G + 10, G + 11] [2, 4, 6, 7, 9, 57, 58, 59, 73] L17 K41 = some (.normal, L16, K42) := by kernel_rfl
theorem p108 : pc [1, 1, 1, 1, 1, 1, 1, 0, 1, 0, 0, 1, 1, 0, 0, 1, 1] [G + 0, G + 1, G + 2, G + 3, G + 4, G + 5, G + 6, G + 7, G + 8, G + 9, G + 10, G + 11] [2, 4, 6, 7, 9, 57, 58, 59] L16 K42 = some (.normal, L16, K39) := by kernel_rfl
theorem p112 : pc [1, 1, 1, 1, 1, 1, 1, 0, 1, 0, 0, 1, 1, 1] [G + 0, G + 1, G + 2, G + 3, G + 4, G + 5, G + 6, G + 7, G + 8, G + 9, G + 10, G + 11] [2, 4, 6, 7, 9, 57, 58, 59] L16 K39 = some (.normal, L16, K43) := by kernel_rfl
theorem p116 : pc [1, 1, 1, 1, 1, 1, 1, 0, 1, 0, 0, 0] [G + 0, G + 1, G + 2, G + 3, G + 4, G + 5, G + 6, G + 7, G + 8, G + 9, G + 10, G + 11] [2, 4, 6, 7, 9, 57, 58, 59, 60] L16 K43 = some (.normal, L16, K44) := by kernel_rfl
theorem p117 : pc [1, 1, 1, 1, 1, 1, 1, 0, 1, 0, 0, 1, 0] [G + 0, G + 1, G + 2, G + 3, G + 4, G + 5, G + 6, G + 7, G + 8, G + 9, G + 10, G + 11] [2, 4, 6, 7, 9, 57, 58, 59] L16 K44 = some (.normal, L16, K43) := by kernel_rfl
theorem p118 : pc [1, 1, 1, 1, 1, 1, 1, 0, 1, 0, 0, 1, 1, 0, 0, 0] [G + 0, G + 1, G + 2, G + 3, G + 4, G + 5, G + 6, G + 7, G + 8, G + 9, G + 10, G + 11, G + 12] [2, 4, 6, 7, 9, 11, 57, 58, 59] L16 K43 = some (.normal, L18, K45) := by kernel_rfl
theorem p119 : pc [1, 1, 1, 1, 1, 1, 1, 0, 1, 0, 0, 1, 1, 0, 0, 1, 0] [G + 0, G + 1, G + 2, G + 3, G + 4, G + 5, G + 6, G + 7, G + 8, G + 9, G + 10, G + 11] [2, 4, 6, 7, 9, 57, 58, 59, 73] L18 K45 = some (.normal, L16, K46) := by kernel_rfl
theorem p120 : pc [1, 1, 1, 1, 1, 1, 1, 0, 1, 0, 0, 1, 1, 0, 0, 1, 1] [G + 0, G + 1, G + 2, G + 3, G + 4, G + 5, G + 6, G + 7, G + 8, G + 9, G + 10, G + 11] [2, 4, 6, 7, 9, 57, 58, 59] L16 K46 = some (.normal, L16, K43) := by kernel_rfl
theorem p124 : pc [1, 1, 1, 1, 1, 1, 1, 0, 1, 0, 0, 1, 1, 1] [G + 0, G + 1, G + 2, G + 3, G + 4, G + 5, G + 6, G + 7, G + 8, G + 9, G + 10, G + 11] [2, 4, 6, 7, 9, 57, 58, 59] L16 K43 = some (.normal, L16, K47) := by kernel_rfl
theorem p128 : pc [1, 1, 1, 1, 1, 1, 1, 0, 1, 0, 0, 0] [G + 0, G + 1, G + 2, G + 3, G + 4, G + 5, G + 6, G + 7, G + 8, G + 9, G + 10, G + 11] [2, 4, 6, 7, 9, 57, 58, 59, 60] L16 K47 = some (.normal, L16, K48) := by kernel_rfl
theorem p129 : pc [1, 1, 1, 1, 1, 1, 1, 0, 1, 0, 0, 1, 0] [G + 0, G + 1, G + 2, G + 3, G + 4, G + 5, G + 6, G + 7, G + 8, G + 9, G + 10, G + 11] [2, 4, 6, 7, 9, 57, 58, 59] L16 K48 = some (.normal, L16, K47) := by kernel_rfl
theorem p130 : pc [1, 1, 1, 1, 1, 1, 1, 0, 1, 0, 0, 1, 1, 0, 0, 0] [G + 0, G + 1, G + 2, G + 3, G + 4, G + 5, G + 6, G + 7, G + 8, G + 9, G + 10, G + 11, G + 12] [2, 4, 6, 7, 9, 11, 57, 58, 59] L16 K47 = some (.normal, L19, K49) := by kernel_rfl
end FLaw
end Go.Proofs.Ytjlieapiedmiiaa
