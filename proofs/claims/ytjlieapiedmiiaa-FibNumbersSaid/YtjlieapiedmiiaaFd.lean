/- Chapter 25: FibNumbers, a closed sentence, comes out true. Pieces. -/
import Derived.Test.YtjlieapiedmiiaaFa
namespace Go.Proofs.Ytjlieapiedmiiaa
open Go Go.Ev Go.RowKit
set_option maxRecDepth 100000
namespace FLaw
theorem p83 : pc [1, 1, 1, 1, 1, 1, 1, 0, 1, 0, 0, 1, 1, 0, 0, 1, 0] [G + 0, G + 1, G + 2, G + 3, G + 4, G + 5, G + 6, G + 7, G + 8, G + 9, G + 10] [2, 4, 6, 7, 9, 57, 58, 59, 73] L13 K33 = some (.normal, L14, K34) := by kernel_rfl
theorem p84 : pc [1, 1, 1, 1, 1, 1, 1, 0, 1, 0, 0, 1, 1, 0, 0, 1, 1] [G + 0, G + 1, G + 2, G + 3, G + 4, G + 5, G + 6, G + 7, G + 8, G + 9, G + 10] [2, 4, 6, 7, 9, 57, 58, 59] L14 K34 = some (.normal, L14, K31) := by kernel_rfl
theorem p88 : pc [1, 1, 1, 1, 1, 1, 1, 0, 1, 0, 0, 1, 1, 1] [G + 0, G + 1, G + 2, G + 3, G + 4, G + 5, G + 6, G + 7, G + 8, G + 9, G + 10] [2, 4, 6, 7, 9, 57, 58, 59] L14 K31 = some (.normal, L14, K35) := by kernel_rfl
theorem p92 : pc [1, 1, 1, 1, 1, 1, 1, 0, 1, 0, 0, 0] [G + 0, G + 1, G + 2, G + 3, G + 4, G + 5, G + 6, G + 7, G + 8, G + 9, G + 10] [2, 4, 6, 7, 9, 57, 58, 59, 60] L14 K35 = some (.normal, L14, K36) := by kernel_rfl
theorem p93 : pc [1, 1, 1, 1, 1, 1, 1, 0, 1, 0, 0, 1, 0] [G + 0, G + 1, G + 2, G + 3, G + 4, G + 5, G + 6, G + 7, G + 8, G + 9, G + 10] [2, 4, 6, 7, 9, 57, 58, 59] L14 K36 = some (.normal, L14, K35) := by kernel_rfl
theorem p94 : pc [1, 1, 1, 1, 1, 1, 1, 0, 1, 0, 0, 1, 1, 0, 0, 0] [G + 0, G + 1, G + 2, G + 3, G + 4, G + 5, G + 6, G + 7, G + 8, G + 9, G + 10, G + 11] [2, 4, 6, 7, 9, 11, 57, 58, 59] L14 K35 = some (.normal, L15, K37) := by kernel_rfl
theorem p95 : pc [1, 1, 1, 1, 1, 1, 1, 0, 1, 0, 0, 1, 1, 0, 0, 1, 0] [G + 0, G + 1, G + 2, G + 3, G + 4, G + 5, G + 6, G + 7, G + 9, G + 10, G + 21, G + 25] [2, 4, 6, 7, 9, 57, 58, 59, 73] L15 K37 = some (.normal, L16, K38) := by kernel_rfl
theorem p96 : pc [1, 1, 1, 1, 1, 1, 1, 0, 1, 0, 0, 1, 1, 0, 0, 1, 1] [G + 0, G + 1, G + 2, G + 3, G + 4, G + 5, G + 6, G + 7, G + 8, G + 9, G + 10, G + 11] [2, 4, 6, 7, 9, 57, 58, 59] L16 K38 = some (.normal, L16, K35) := by kernel_rfl
theorem p100 : pc [1, 1, 1, 1, 1, 1, 1, 0, 1, 0, 0, 1, 1, 1] [G + 0, G + 1, G + 2, G + 3, G + 4, G + 5, G + 6, G + 7, G + 8, G + 9, G + 10, G + 11] [2, 4, 6, 7, 9, 57, 58, 59] L16 K35 = some (.normal, L16, K39) := by kernel_rfl
theorem p104 : pc [1, 1, 1, 1, 1, 1, 1, 0, 1, 0, 0, 0] [G + 0, G + 1, G + 2, G + 3, G + 4, G + 5, G + 6, G + 7, G + 8, G + 9, G + 10, G + 11] [2, 4, 6, 7, 9, 57, 58, 59, 60] L16 K39 = some (.normal, L16, K40) := by kernel_rfl
theorem p105 : pc [1, 1, 1, 1, 1, 1, 1, 0, 1, 0, 0, 1, 0] [G + 0, G + 1, G + 2, G + 3, G + 4, G + 5, G + 6, G + 7, G + 8, G + 9, G + 10, G + 11] [2, 4, 6, 7, 9, 57, 58, 59] L16 K40 = some (.normal, L16, K39) := by kernel_rfl
theorem p106 : pc [1, 1, 1, 1, 1, 1, 1, 0, 1, 0, 0, 1, 1, 0, 0, 0] [G + 0, G + 1, G + 2, G + 3, G + 4, G + 5, G + 6, G + 7, G + 8, G + 9, G + 10, G + 11, G + 12] [2, 4, 6, 7, 9, 11, 57, 58, 59] L16 K39 = some (.normal, L17, K41) := by kernel_rfl
end FLaw
end Go.Proofs.Ytjlieapiedmiiaa
