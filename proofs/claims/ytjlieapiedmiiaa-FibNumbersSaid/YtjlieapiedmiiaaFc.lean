/- Chapter 25: FibNumbers, a closed sentence, comes out true. Pieces. -/
import Derived.Test.YtjlieapiedmiiaaFa
namespace Go.Proofs.Ytjlieapiedmiiaa
open Go Go.Ev Go.RowKit
set_option maxRecDepth 100000
namespace FLaw
theorem p59 : pc [1, 1, 1, 1, 1, 1, 1, 0, 1, 0, 0, 1, 1, 0, 0, 1, 0] [G + 0, G + 1, G + 2, G + 3, G + 4, G + 5, G + 6, G + 7, G + 18, G + 23, G + 28] [2, 4, 6, 7, 9, 57, 58, 59, 73] L10 K25 = some (.normal, L11, K26) := by kernel_rfl
theorem p60 : pc [1, 1, 1, 1, 1, 1, 1, 0, 1, 0, 0, 1, 1, 0, 0, 1, 1] [G + 0, G + 1, G + 2, G + 3, G + 4, G + 5, G + 6, G + 7, G + 8, G + 9, G + 10] [2, 4, 6, 7, 9, 57, 58, 59] L11 K26 = some (.normal, L11, K23) := by kernel_rfl
theorem p64 : pc [1, 1, 1, 1, 1, 1, 1, 0, 1, 0, 0, 1, 1, 1] [G + 0, G + 1, G + 2, G + 3, G + 4, G + 5, G + 6, G + 7, G + 8, G + 9, G + 10] [2, 4, 6, 7, 9, 57, 58, 59] L11 K23 = some (.normal, L11, K27) := by kernel_rfl
theorem p68 : pc [1, 1, 1, 1, 1, 1, 1, 0, 1, 0, 0, 0] [G + 0, G + 1, G + 2, G + 3, G + 4, G + 5, G + 6, G + 7, G + 8, G + 9, G + 10] [2, 4, 6, 7, 9, 57, 58, 59, 60] L11 K27 = some (.normal, L11, K28) := by kernel_rfl
theorem p69 : pc [1, 1, 1, 1, 1, 1, 1, 0, 1, 0, 0, 1, 0] [G + 0, G + 1, G + 2, G + 3, G + 4, G + 5, G + 6, G + 7, G + 8, G + 9, G + 10] [2, 4, 6, 7, 9, 57, 58, 59] L11 K28 = some (.normal, L11, K27) := by kernel_rfl
theorem p70 : pc [1, 1, 1, 1, 1, 1, 1, 0, 1, 0, 0, 1, 1, 0, 0, 0] [G + 0, G + 1, G + 2, G + 3, G + 4, G + 5, G + 6, G + 7, G + 8, G + 9, G + 10, G + 11] [2, 4, 6, 7, 9, 11, 57, 58, 59] L11 K27 = some (.normal, L12, K29) := by kernel_rfl
theorem p71 : pc [1, 1, 1, 1, 1, 1, 1, 0, 1, 0, 0, 1, 1, 0, 0, 1, 0] [G + 0, G + 1, G + 2, G + 3, G + 4, G + 5, G + 6, G + 7, G + 8, G + 9, G + 10] [2, 4, 6, 7, 9, 57, 58, 59, 73] L12 K29 = some (.normal, L11, K30) := by kernel_rfl
theorem p72 : pc [1, 1, 1, 1, 1, 1, 1, 0, 1, 0, 0, 1, 1, 0, 0, 1, 1] [G + 0, G + 1, G + 2, G + 3, G + 4, G + 5, G + 6, G + 7, G + 8, G + 9, G + 10] [2, 4, 6, 7, 9, 57, 58, 59] L11 K30 = some (.normal, L11, K27) := by kernel_rfl
theorem p76 : pc [1, 1, 1, 1, 1, 1, 1, 0, 1, 0, 0, 1, 1, 1] [G + 0, G + 1, G + 2, G + 3, G + 4, G + 5, G + 6, G + 7, G + 8, G + 9, G + 10] [2, 4, 6, 7, 9, 57, 58, 59] L11 K27 = some (.normal, L11, K31) := by kernel_rfl
theorem p80 : pc [1, 1, 1, 1, 1, 1, 1, 0, 1, 0, 0, 0] [G + 0, G + 1, G + 2, G + 3, G + 4, G + 5, G + 6, G + 7, G + 8, G + 9, G + 10] [2, 4, 6, 7, 9, 57, 58, 59, 60] L11 K31 = some (.normal, L11, K32) := by kernel_rfl
theorem p81 : pc [1, 1, 1, 1, 1, 1, 1, 0, 1, 0, 0, 1, 0] [G + 0, G + 1, G + 2, G + 3, G + 4, G + 5, G + 6, G + 7, G + 8, G + 9, G + 10] [2, 4, 6, 7, 9, 57, 58, 59] L11 K32 = some (.normal, L11, K31) := by kernel_rfl
theorem p82 : pc [1, 1, 1, 1, 1, 1, 1, 0, 1, 0, 0, 1, 1, 0, 0, 0] [G + 0, G + 1, G + 2, G + 3, G + 4, G + 5, G + 6, G + 7, G + 8, G + 9, G + 10, G + 11] [2, 4, 6, 7, 9, 11, 57, 58, 59] L11 K31 = some (.normal, L13, K33) := by kernel_rfl
end FLaw
end Go.Proofs.Ytjlieapiedmiiaa
