/- Chapter 26: DownloadNumbers, a closed sentence, comes out true. Pieces. -/
import Derived.Test.YtjlieapiedmiiaaDa
namespace Go.Proofs.Ytjlieapiedmiiaa
open Go Go.Ev Go.RowKit
set_option maxRecDepth 100000
namespace DLaw
theorem p0 : pc [0] [] [] L0 K0 = some (.normal, L0, K0) := by kernel_rfl
theorem p1 : pc [1, 0] [] [2] L0 K0 = some (.normal, L0, K1) := by kernel_rfl
theorem p2 : pc [1, 1, 0] [G + 0] [2, 3] L0 K1 = some (.normal, L1, K2) := by kernel_rfl
theorem p3 : pc [1, 1, 1, 0] [G + 0, G + 3, G + 8, G + 15, G + 32] [2, 3, 4] L1 K2 = some (.normal, L2, K3) := by kernel_rfl
theorem p4 : pc [1, 1, 1, 1, 0] [G + 0, G + 1, G + 2, G + 3, G + 4, G + 7, G + 14, G + 21, G + 28] [2, 3, 4, 5] L2 K3 = some (.normal, L3, K4) := by kernel_rfl
theorem p5 : pc [1, 1, 1, 1, 1, 0] [G + 0, G + 1, G + 2, G + 3, G + 4, G + 5, G + 6, G + 7, G + 8, G + 9, G + 10, G + 11, G + 12, G + 16, G + 24, G + 25, G + 26, G + 27, G + 28, G + 29, G + 30, G + 31, G + 35, G + 43, G + 47, G + 55, G + 56, G + 61, G + 66, G + 67, G + 68] [2, 3, 4, 5, 6] L3 K4 = some (.normal, L4, K5) := by kernel_rfl
theorem p6 : pc [1, 1, 1, 1, 1, 1, 0] [G + 0, G + 1, G + 2, G + 3, G + 4, G + 5, G + 6, G + 7, G + 8, G + 9, G + 10, G + 11, G + 12, G + 13, G + 14, G + 15, G + 16, G + 17, G + 18, G + 19, G + 20, G + 21, G + 22, G + 23, G + 24, G + 25, G + 26, G + 27, G + 28, G + 29, G + 30] [2, 3, 4, 5, 6] L4 K5 = some (.normal, L4, K5) := by kernel_rfl
theorem p7 : pc [1, 1, 1, 1, 1, 1, 1, 0] [G + 0, G + 1, G + 2, G + 3, G + 4, G + 5, G + 6, G + 7, G + 8, G + 9, G + 10, G + 11, G + 12, G + 13, G + 14, G + 15, G + 16, G + 17, G + 18, G + 19, G + 20, G + 21, G + 22, G + 23, G + 24, G + 25, G + 26, G + 27, G + 28, G + 29, G + 30, G + 31] [2, 3, 4, 5, 6, 7, 8] L4 K5 = some (.normal, L5, K6) := by kernel_rfl
theorem p8 : pc [1, 1, 1, 1, 1, 1, 1, 1, 0] [G + 0, G + 1, G + 2, G + 3, G + 4, G + 5, G + 6, G + 7, G + 8, G + 9, G + 10, G + 11, G + 12, G + 13, G + 14, G + 15, G + 16, G + 17, G + 18, G + 19, G + 20, G + 21, G + 22, G + 23, G + 24, G + 25, G + 26, G + 27, G + 28, G + 29, G + 30, G + 31] [2, 3, 4, 5, 6, 7] L5 K6 = some (.normal, L5, K7) := by kernel_rfl
theorem p9 : pc [1, 1, 1, 1, 1, 1, 1, 1, 1, 0] [G + 0, G + 1, G + 2, G + 3, G + 4, G + 5, G + 6, G + 7, G + 8, G + 9, G + 10, G + 11, G + 12, G + 13, G + 14, G + 15, G + 16, G + 17, G + 18, G + 19, G + 20, G + 21, G + 22, G + 23, G + 24, G + 25, G + 26, G + 27, G + 28, G + 29, G + 30, G + 31] [2, 3, 4, 5, 6, 7, 9] L5 K7 = some (.normal, L5, K8) := by kernel_rfl
end DLaw
end Go.Proofs.Ytjlieapiedmiiaa
