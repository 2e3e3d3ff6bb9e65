/- Chapter 11: InternNumbers, a closed sentence, comes out true. Pieces. -/
import Derived.Test.YtjlieapiedmiiaaIa
namespace Go.Proofs.Ytjlieapiedmiiaa
open Go Go.Ev Go.RowKit
set_option maxRecDepth 100000
namespace ILaw
theorem p0 : pc [0] [] [] L0 K0 = some (.normal, L0, K0) := by kernel_rfl
theorem p1 : pc [1, 0] [] [2] L0 K0 = some (.normal, L0, K1) := by kernel_rfl
theorem p2 : pc [1, 1, 0] [] [2, 4] L0 K1 = some (.normal, L0, K2) := by kernel_rfl
theorem p3 : pc [1, 1, 1, 0] [G + 0] [2, 4, 5, 6] L0 K2 = some (.normal, L1, K3) := by kernel_rfl
theorem p4 : pc [1, 1, 1, 1, 0] [G + 0, G + 1] [2, 4, 5, 6, 7, 8] L1 K3 = some (.normal, L2, K4) := by kernel_rfl
theorem p5 : pc [1, 1, 1, 1, 1, 0] [G + 0, G + 1] [2, 4, 5, 7] L2 K4 = some (.normal, L2, K5) := by kernel_rfl
theorem p6 : pc [1, 1, 1, 1, 1, 1, 0] [G + 0, G + 1, G + 2, G + 3, G + 4] [2, 4, 5, 7, 9] L2 K5 = some (.normal, L3, K6) := by kernel_rfl
theorem p7 : pc [1, 1, 1, 1, 1, 1, 1, 0, 0] [G + 0, G + 1, G + 2, G + 3, G + 4, G + 5, G + 6, G + 7] [2, 4, 5, 7, 9, 66, 67, 68] L3 K6 = some (.normal, L4, K7) := by kernel_rfl
theorem p8 : pc [1, 1, 1, 1, 1, 1, 1, 0, 1, 0, 0, 0] [G + 0, G + 1, G + 2, G + 3, G + 4, G + 5, G + 6, G + 7] [2, 4, 5, 7, 9, 66, 67, 68, 69] L4 K7 = some (.normal, L4, K8) := by kernel_rfl
theorem p9 : pc [1, 1, 1, 1, 1, 1, 1, 0, 1, 0, 0, 1, 0] [G + 0, G + 1, G + 2, G + 3, G + 4, G + 5, G + 6, G + 7] [2, 4, 5, 7, 9, 66, 67, 68] L4 K8 = some (.normal, L4, K7) := by kernel_rfl
theorem p10 : pc [1, 1, 1, 1, 1, 1, 1, 0, 1, 0, 0, 1, 1, 0, 0, 0] [G + 0, G + 1, G + 2, G + 3, G + 4, G + 5, G + 6, G + 7, G + 8] [2, 4, 5, 7, 9, 11, 66, 67, 68] L4 K7 = some (.normal, L5, K9) := by kernel_rfl
theorem p11 : pc [1, 1, 1, 1, 1, 1, 1, 0, 1, 0, 0, 1, 1, 0, 0, 1, 0] [G + 0, G + 1, G + 2, G + 3, G + 4, G + 5, G + 6, G + 7] [2, 4, 5, 7, 9, 66, 67, 68, 82] L5 K9 = some (.normal, L4, K10) := by kernel_rfl
theorem p12 : pc [1, 1, 1, 1, 1, 1, 1, 0, 1, 0, 0, 1, 1, 0, 0, 1, 1] [G + 0, G + 1, G + 2, G + 3, G + 4, G + 5, G + 6, G + 7] [2, 4, 5, 7, 9, 66, 67, 68] L4 K10 = some (.normal, L4, K7) := by kernel_rfl
theorem p16 : pc [1, 1, 1, 1, 1, 1, 1, 0, 1, 0, 0, 1, 1, 1] [G + 0, G + 1, G + 2, G + 3, G + 4, G + 5, G + 6, G + 7] [2, 4, 5, 7, 9, 66, 67, 68] L4 K7 = some (.normal, L4, K11) := by kernel_rfl
theorem p20 : pc [1, 1, 1, 1, 1, 1, 1, 0, 1, 0, 0, 0] [G + 0, G + 1, G + 2, G + 3, G + 4, G + 5, G + 6, G + 7] [2, 4, 5, 7, 9, 66, 67, 68, 69] L4 K11 = some (.normal, L4, K12) := by kernel_rfl
theorem p21 : pc [1, 1, 1, 1, 1, 1, 1, 0, 1, 0, 0, 1, 0] [G + 0, G + 1, G + 2, G + 3, G + 4, G + 5, G + 6, G + 7] [2, 4, 5, 7, 9, 66, 67, 68] L4 K12 = some (.normal, L4, K11) := by kernel_rfl
theorem p22 : pc [1, 1, 1, 1, 1, 1, 1, 0, 1, 0, 0, 1, 1, 0, 0, 0] [G + 0, G + 1, G + 2, G + 3, G + 4, G + 5, G + 6, G + 7, G + 8] [2, 4, 5, 7, 9, 11, 66, 67, 68] L4 K11 = some (.normal, L6, K13) := by kernel_rfl
theorem p23 : pc [1, 1, 1, 1, 1, 1, 1, 0, 1, 0, 0, 1, 1, 0, 0, 1, 0] [G + 0, G + 1, G + 2, G + 3, G + 4, G + 5, G + 6, G + 7, G + 12, G + 14] [2, 4, 5, 7, 9, 66, 67, 68, 82] L6 K13 = some (.normal, L7, K14) := by kernel_rfl
theorem p24 : pc [1, 1, 1, 1, 1, 1, 1, 0, 1, 0, 0, 1, 1, 0, 0, 1, 1] [G + 0, G + 1, G + 2, G + 3, G + 4, G + 5, G + 6, G + 7, G + 8, G + 9] [2, 4, 5, 7, 9, 66, 67, 68] L7 K14 = some (.normal, L7, K11) := by kernel_rfl
theorem p28 : pc [1, 1, 1, 1, 1, 1, 1, 0, 1, 0, 0, 1, 1, 1] [G + 0, G + 1, G + 2, G + 3, G + 4, G + 5, G + 6, G + 7, G + 8, G + 9] [2, 4, 5, 7, 9, 66, 67, 68] L7 K11 = some (.normal, L7, K15) := by kernel_rfl
theorem p32 : pc [1, 1, 1, 1, 1, 1, 1, 0, 1, 0, 0, 0] [G + 0, G + 1, G + 2, G + 3, G + 4, G + 5, G + 6, G + 7, G + 8, G + 9] [2, 4, 5, 7, 9, 66, 67, 68, 69] L7 K15 = some (.normal, L7, K16) := by kernel_rfl
theorem p33 : pc [1, 1, 1, 1, 1, 1, 1, 0, 1, 0, 0, 1, 0] [G + 0, G + 1, G + 2, G + 3, G + 4, G + 5, G + 6, G + 7, G + 8, G + 9] [2, 4, 5, 7, 9, 66, 67, 68] L7 K16 = some (.normal, L7, K15) := by kernel_rfl
theorem p34 : pc [1, 1, 1, 1, 1, 1, 1, 0, 1, 0, 0, 1, 1, 0, 0, 0] [G + 0, G + 1, G + 2, G + 3, G + 4, G + 5, G + 6, G + 7, G + 8, G + 9, G + 10] [2, 4, 5, 7, 9, 11, 66, 67, 68] L7 K15 = some (.normal, L8, K17) := by kernel_rfl
theorem p35 : pc [1, 1, 1, 1, 1, 1, 1, 0, 1, 0, 0, 1, 1, 0, 0, 1, 0] [G + 0, G + 1, G + 2, G + 3, G + 4, G + 5, G + 6, G + 7, G + 8, G + 9] [2, 4, 5, 7, 9, 66, 67, 68, 82] L8 K17 = some (.normal, L9, K18) := by kernel_rfl
theorem p36 : pc [1, 1, 1, 1, 1, 1, 1, 0, 1, 0, 0, 1, 1, 0, 0, 1, 1] [G + 0, G + 1, G + 2, G + 3, G + 4, G + 5, G + 6, G + 7, G + 8, G + 9] [2, 4, 5, 7, 9, 66, 67, 68] L9 K18 = some (.normal, L9, K15) := by kernel_rfl
theorem p40 : pc [1, 1, 1, 1, 1, 1, 1, 0, 1, 0, 0, 1, 1, 1] [G + 0, G + 1, G + 2, G + 3, G + 4, G + 5, G + 6, G + 7, G + 8, G + 9] [2, 4, 5, 7, 9, 66, 67, 68] L9 K15 = some (.normal, L9, K19) := by kernel_rfl
theorem p44 : pc [1, 1, 1, 1, 1, 1, 1, 0, 1, 0, 0, 0] [G + 0, G + 1, G + 2, G + 3, G + 4, G + 5, G + 6, G + 7, G + 8, G + 9] [2, 4, 5, 7, 9, 66, 67, 68, 69] L9 K19 = some (.normal, L9, K20) := by kernel_rfl
theorem p45 : pc [1, 1, 1, 1, 1, 1, 1, 0, 1, 0, 0, 1, 0] [G + 0, G + 1, G + 2, G + 3, G + 4, G + 5, G + 6, G + 7, G + 8, G + 9] [2, 4, 5, 7, 9, 66, 67, 68] L9 K20 = some (.normal, L9, K19) := by kernel_rfl
theorem p46 : pc [1, 1, 1, 1, 1, 1, 1, 0, 1, 0, 0, 1, 1, 0, 0, 0] [G + 0, G + 1, G + 2, G + 3, G + 4, G + 5, G + 6, G + 7, G + 8, G + 9, G + 10] [2, 4, 5, 7, 9, 11, 66, 67, 68] L9 K19 = some (.normal, L10, K21) := by kernel_rfl
end ILaw
end Go.Proofs.Ytjlieapiedmiiaa
