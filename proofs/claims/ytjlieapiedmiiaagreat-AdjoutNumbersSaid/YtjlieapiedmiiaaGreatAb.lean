/- Chapter 22: AdjoutNumbers, a closed sentence, comes out true. Pieces. -/
import Derived.Test.YtjlieapiedmiiaaGreatAa
namespace Go.Proofs.YtjlieapiedmiiaaGreat
open Go Go.Ev Go.RowKit
set_option maxRecDepth 100000
namespace ALaw
theorem p0 : pc [0] [] [] L0 K0 = some (.normal, L0, K0) := by kernel_rfl
theorem p1 : pc [1, 0] [G + 0, G + 1, G + 2, G + 3, G + 4, G + 5, G + 6, G + 7, G + 8] [1] L0 K0 = some (.normal, L1, K1) := by kernel_rfl
theorem p2 : pc [1, 1, 0] [G + 0, G + 1, G + 2, G + 3, G + 4, G + 5, G + 6, G + 7, G + 8] [1] L1 K1 = some (.normal, L1, K1) := by kernel_rfl
theorem p3 : pc [1, 1, 1, 0] [G + 0, G + 1, G + 2, G + 3, G + 4, G + 5, G + 6, G + 7, G + 8] [1, 2] L1 K1 = some (.normal, L1, K2) := by kernel_rfl
theorem p4 : pc [1, 1, 1, 1, 0] [G + 0, G + 1, G + 2, G + 3, G + 4, G + 5, G + 6, G + 7, G + 8, G + 12, G + 14, G + 15] [1, 2, 3] L1 K2 = some (.normal, L2, K3) := by kernel_rfl
theorem p5 : pc [1, 1, 1, 1, 1, 0] [G + 0, G + 1, G + 2, G + 3, G + 4, G + 5, G + 6, G + 7, G + 8, G + 9, G + 10, G + 11, G + 12] [1, 2, 3, 4] L2 K3 = some (.normal, L3, K4) := by kernel_rfl
theorem p6 : pc [1, 1, 1, 1, 1, 1, 0] [G + 0, G + 1, G + 2, G + 3, G + 4, G + 5, G + 6, G + 7, G + 8, G + 9, G + 10, G + 11, G + 12] [1, 2, 3, 4] L3 K4 = some (.normal, L4, K4) := by kernel_rfl
theorem p7 : pc [1, 1, 1, 1, 1, 1, 1, 0] [G + 0, G + 1, G + 2, G + 3, G + 4, G + 5, G + 6, G + 7, G + 8, G + 9, G + 10, G + 11, G + 12, G + 13] [1, 2, 3, 4, 5] L4 K4 = some (.normal, L5, K5) := by kernel_rfl
theorem p8 : pc [1, 1, 1, 1, 1, 1, 1, 1, 0, 0] [G + 0, G + 1, G + 2, G + 3, G + 4, G + 5, G + 6, G + 7, G + 8, G + 9, G + 10, G + 13, G + 14] [1, 2, 5, 62, 63, 64] L5 K5 = some (.normal, L6, K6) := by kernel_rfl
theorem p9 : pc [1, 1, 1, 1, 1, 1, 1, 1, 0, 1, 0, 0, 0] [G + 0, G + 1, G + 2, G + 3, G + 4, G + 5, G + 6, G + 7, G + 8, G + 9, G + 10, G + 11, G + 12] [1, 2, 5, 62, 63, 64, 65] L6 K6 = some (.normal, L6, K7) := by kernel_rfl
theorem p10 : pc [1, 1, 1, 1, 1, 1, 1, 1, 0, 1, 0, 0, 1, 0] [G + 0, G + 1, G + 2, G + 3, G + 4, G + 5, G + 6, G + 7, G + 8, G + 9, G + 10, G + 11, G + 12] [1, 2, 5, 62, 63, 64] L6 K7 = some (.normal, L6, K6) := by kernel_rfl
theorem p11 : pc [1, 1, 1, 1, 1, 1, 1, 1, 0, 1, 0, 0, 1, 1, 0, 0, 0] [G + 0, G + 1, G + 2, G + 3, G + 4, G + 5, G + 6, G + 7, G + 8, G + 9, G + 10, G + 11, G + 12, G + 13] [1, 2, 5, 7, 62, 63, 64] L6 K6 = some (.normal, L7, K8) := by kernel_rfl
theorem p12 : pc [1, 1, 1, 1, 1, 1, 1, 1, 0, 1, 0, 0, 1, 1, 0, 0, 1, 0] [G + 0, G + 1, G + 2, G + 3, G + 4, G + 5, G + 6, G + 7, G + 8, G + 9, G + 10, G + 11, G + 12, G + 13] [1, 2, 5, 7, 62, 63, 64] L7 K8 = some (.normal, L7, K8) := by kernel_rfl
theorem p13 : pc [1, 1, 1, 1, 1, 1, 1, 1, 0, 1, 0, 0, 1, 1, 0, 0, 1, 1, 0] [G + 0, G + 1, G + 2, G + 3, G + 4, G + 5, G + 6, G + 7, G + 8, G + 9, G + 10, G + 11, G + 12] [1, 2, 5, 8, 62, 63, 64] L7 K8 = some (.normal, L6, K9) := by kernel_rfl
theorem p14 : pc [1, 1, 1, 1, 1, 1, 1, 1, 0, 1, 0, 0, 1, 1, 0, 0, 1, 1, 1] [G + 0, G + 1, G + 2, G + 3, G + 4, G + 5, G + 6, G + 7, G + 8, G + 9, G + 10, G + 11, G + 12] [1, 2, 5, 62, 63, 64] L6 K9 = some (.normal, L6, K6) := by kernel_rfl
theorem p19 : pc [1, 1, 1, 1, 1, 1, 1, 1, 0, 1, 0, 0, 1, 1, 1] [G + 0, G + 1, G + 2, G + 3, G + 4, G + 5, G + 6, G + 7, G + 8, G + 9, G + 10, G + 11, G + 12] [1, 2, 5, 62, 63, 64] L6 K6 = some (.normal, L6, K10) := by kernel_rfl
theorem p23 : pc [1, 1, 1, 1, 1, 1, 1, 1, 0, 1, 0, 0, 0] [G + 0, G + 1, G + 2, G + 3, G + 4, G + 5, G + 6, G + 7, G + 8, G + 9, G + 10, G + 11, G + 12] [1, 2, 5, 62, 63, 64, 65] L6 K10 = some (.normal, L6, K11) := by kernel_rfl
theorem p24 : pc [1, 1, 1, 1, 1, 1, 1, 1, 0, 1, 0, 0, 1, 0] [G + 0, G + 1, G + 2, G + 3, G + 4, G + 5, G + 6, G + 7, G + 8, G + 9, G + 10, G + 11, G + 12] [1, 2, 5, 62, 63, 64] L6 K11 = some (.normal, L6, K10) := by kernel_rfl
theorem p25 : pc [1, 1, 1, 1, 1, 1, 1, 1, 0, 1, 0, 0, 1, 1, 0, 0, 0] [G + 0, G + 1, G + 2, G + 3, G + 4, G + 5, G + 6, G + 7, G + 8, G + 9, G + 10, G + 11, G + 12, G + 13] [1, 2, 5, 7, 62, 63, 64] L6 K10 = some (.normal, L8, K12) := by kernel_rfl
theorem p26 : pc [1, 1, 1, 1, 1, 1, 1, 1, 0, 1, 0, 0, 1, 1, 0, 0, 1, 0] [G + 0, G + 1, G + 2, G + 3, G + 4, G + 5, G + 6, G + 7, G + 8, G + 9, G + 10, G + 11, G + 12, G + 13] [1, 2, 5, 7, 62, 63, 64] L8 K12 = some (.normal, L8, K12) := by kernel_rfl
theorem p27 : pc [1, 1, 1, 1, 1, 1, 1, 1, 0, 1, 0, 0, 1, 1, 0, 0, 1, 1, 0] [G + 0, G + 1, G + 2, G + 3, G + 4, G + 5, G + 6, G + 7, G + 8, G + 9, G + 10, G + 11, G + 12] [1, 2, 5, 8, 62, 63, 64] L8 K12 = some (.normal, L6, K13) := by kernel_rfl
theorem p28 : pc [1, 1, 1, 1, 1, 1, 1, 1, 0, 1, 0, 0, 1, 1, 0, 0, 1, 1, 1] [G + 0, G + 1, G + 2, G + 3, G + 4, G + 5, G + 6, G + 7, G + 8, G + 9, G + 10, G + 11, G + 12] [1, 2, 5, 62, 63, 64] L6 K13 = some (.normal, L6, K10) := by kernel_rfl
theorem p33 : pc [1, 1, 1, 1, 1, 1, 1, 1, 0, 1, 0, 0, 1, 1, 1] [G + 0, G + 1, G + 2, G + 3, G + 4, G + 5, G + 6, G + 7, G + 8, G + 9, G + 10, G + 11, G + 12] [1, 2, 5, 62, 63, 64] L6 K10 = some (.normal, L6, K14) := by kernel_rfl
theorem p37 : pc [1, 1, 1, 1, 1, 1, 1, 1, 0, 1, 0, 0, 0] [G + 0, G + 1, G + 2, G + 3, G + 4, G + 5, G + 6, G + 7, G + 8, G + 9, G + 10, G + 11, G + 12] [1, 2, 5, 62, 63, 64, 65] L6 K14 = some (.normal, L6, K15) := by kernel_rfl
theorem p38 : pc [1, 1, 1, 1, 1, 1, 1, 1, 0, 1, 0, 0, 1, 0] [G + 0, G + 1, G + 2, G + 3, G + 4, G + 5, G + 6, G + 7, G + 8, G + 9, G + 10, G + 11, G + 12] [1, 2, 5, 62, 63, 64] L6 K15 = some (.normal, L6, K14) := by kernel_rfl
theorem p39 : pc [1, 1, 1, 1, 1, 1, 1, 1, 0, 1, 0, 0, 1, 1, 0, 0, 0] [G + 0, G + 1, G + 2, G + 3, G + 4, G + 5, G + 6, G + 7, G + 8, G + 9, G + 10, G + 11, G + 12, G + 13] [1, 2, 5, 7, 62, 63, 64] L6 K14 = some (.normal, L9, K16) := by kernel_rfl
theorem p40 : pc [1, 1, 1, 1, 1, 1, 1, 1, 0, 1, 0, 0, 1, 1, 0, 0, 1, 0] [G + 0, G + 1, G + 2, G + 3, G + 4, G + 5, G + 6, G + 7, G + 8, G + 9, G + 10, G + 11, G + 12, G + 13] [1, 2, 5, 7, 62, 63, 64] L9 K16 = some (.normal, L9, K16) := by kernel_rfl
theorem p41 : pc [1, 1, 1, 1, 1, 1, 1, 1, 0, 1, 0, 0, 1, 1, 0, 0, 1, 1, 0] [G + 0, G + 1, G + 2, G + 3, G + 4, G + 5, G + 6, G + 7, G + 8, G + 9, G + 10, G + 11, G + 12] [1, 2, 5, 8, 62, 63, 64] L9 K16 = some (.normal, L6, K17) := by kernel_rfl
theorem p42 : pc [1, 1, 1, 1, 1, 1, 1, 1, 0, 1, 0, 0, 1, 1, 0, 0, 1, 1, 1] [G + 0, G + 1, G + 2, G + 3, G + 4, G + 5, G + 6, G + 7, G + 8, G + 9, G + 10, G + 11, G + 12] [1, 2, 5, 62, 63, 64] L6 K17 = some (.normal, L6, K14) := by kernel_rfl
theorem p47 : pc [1, 1, 1, 1, 1, 1, 1, 1, 0, 1, 0, 0, 1, 1, 1] [G + 0, G + 1, G + 2, G + 3, G + 4, G + 5, G + 6, G + 7, G + 8, G + 9, G + 10, G + 11, G + 12] [1, 2, 5, 62, 63, 64] L6 K14 = some (.normal, L6, K18) := by kernel_rfl
theorem p51 : pc [1, 1, 1, 1, 1, 1, 1, 1, 0, 1, 0, 0, 0] [G + 0, G + 1, G + 2, G + 3, G + 4, G + 5, G + 6, G + 7, G + 8, G + 9, G + 10, G + 11, G + 12] [1, 2, 5, 62, 63, 64, 65] L6 K18 = some (.normal, L6, K19) := by kernel_rfl
theorem p52 : pc [1, 1, 1, 1, 1, 1, 1, 1, 0, 1, 0, 0, 1, 0] [G + 0, G + 1, G + 2, G + 3, G + 4, G + 5, G + 6, G + 7, G + 8, G + 9, G + 10, G + 11, G + 12] [1, 2, 5, 62, 63, 64] L6 K19 = some (.normal, L6, K18) := by kernel_rfl
theorem p53 : pc [1, 1, 1, 1, 1, 1, 1, 1, 0, 1, 0, 0, 1, 1, 0, 0, 0] [G + 0, G + 1, G + 2, G + 3, G + 4, G + 5, G + 6, G + 7, G + 8, G + 9, G + 10, G + 11, G + 12, G + 13] [1, 2, 5, 7, 62, 63, 64] L6 K18 = some (.normal, L10, K20) := by kernel_rfl
theorem p54 : pc [1, 1, 1, 1, 1, 1, 1, 1, 0, 1, 0, 0, 1, 1, 0, 0, 1, 0] [G + 0, G + 1, G + 2, G + 3, G + 4, G + 5, G + 6, G + 7, G + 8, G + 9, G + 10, G + 11, G + 12, G + 13] [1, 2, 5, 7, 62, 63, 64] L10 K20 = some (.normal, L10, K20) := by kernel_rfl
end ALaw
end Go.Proofs.YtjlieapiedmiiaaGreat
