/- Chapter 11: InternNumbers, a closed sentence, comes out true. Pieces. -/
import Derived.Test.YtjlieapiedmiiaaIa
namespace Go.Proofs.Ytjlieapiedmiiaa
open Go Go.Ev Go.RowKit
set_option maxRecDepth 100000
namespace ILaw
theorem p131 : pc [1, 1, 1, 1, 1, 1, 1, 0, 1, 0, 0, 1, 1, 0, 0, 1, 0] [G + 0, G + 1, G + 2, G + 3, G + 4, G + 5, G + 6, G + 7, G + 8, G + 9, G + 10, G + 11] [2, 4, 5, 7, 9, 66, 67, 68, 82] L22 K49 = some (.normal, L23, K50) := by kernel_rfl
theorem p132 : pc [1, 1, 1, 1, 1, 1, 1, 0, 1, 0, 0, 1, 1, 0, 0, 1, 1] [G + 0, G + 1, G + 2, G + 3, G + 4, G + 5, G + 6, G + 7, G + 8, G + 9, G + 10, G + 11] [2, 4, 5, 7, 9, 66, 67, 68] L23 K50 = some (.normal, L23, K47) := by kernel_rfl
theorem p136 : pc [1, 1, 1, 1, 1, 1, 1, 0, 1, 0, 0, 1, 1, 1] [G + 0, G + 1, G + 2, G + 3, G + 4, G + 5, G + 6, G + 7, G + 8, G + 9, G + 10, G + 11] [2, 4, 5, 7, 9, 66, 67, 68] L23 K47 = some (.normal, L23, K51) := by kernel_rfl
theorem p140 : pc [1, 1, 1, 1, 1, 1, 1, 0, 1, 0, 0, 0] [G + 0, G + 1, G + 2, G + 3, G + 4, G + 5, G + 6, G + 7, G + 8, G + 9, G + 10, G + 11] [2, 4, 5, 7, 9, 66, 67, 68, 69] L23 K51 = some (.normal, L23, K52) := by kernel_rfl
theorem p141 : pc [1, 1, 1, 1, 1, 1, 1, 0, 1, 0, 0, 1, 0] [G + 0, G + 1, G + 2, G + 3, G + 4, G + 5, G + 6, G + 7, G + 8, G + 9, G + 10, G + 11] [2, 4, 5, 7, 9, 66, 67, 68] L23 K52 = some (.normal, L23, K51) := by kernel_rfl
theorem p142 : pc [1, 1, 1, 1, 1, 1, 1, 0, 1, 0, 0, 1, 1, 0, 0, 0] [G + 0, G + 1, G + 2, G + 3, G + 4, G + 5, G + 6, G + 7, G + 8, G + 9, G + 10, G + 11, G + 12] [2, 4, 5, 7, 9, 11, 66, 67, 68] L23 K51 = some (.normal, L24, K53) := by kernel_rfl
theorem p143 : pc [1, 1, 1, 1, 1, 1, 1, 0, 1, 0, 0, 1, 1, 0, 0, 1, 0] [G + 0, G + 1, G + 2, G + 3, G + 4, G + 5, G + 6, G + 7, G + 8, G + 10, G + 11] [2, 4, 5, 7, 9, 66, 67, 68, 82] L24 K53 = some (.normal, L25, K54) := by kernel_rfl
theorem p144 : pc [1, 1, 1, 1, 1, 1, 1, 0, 1, 0, 0, 1, 1, 0, 0, 1, 1] [G + 0, G + 1, G + 2, G + 3, G + 4, G + 5, G + 6, G + 7, G + 8, G + 9, G + 10] [2, 4, 5, 7, 9, 66, 67, 68] L25 K54 = some (.normal, L25, K51) := by kernel_rfl
theorem p148 : pc [1, 1, 1, 1, 1, 1, 1, 0, 1, 0, 0, 1, 1, 1] [G + 0, G + 1, G + 2, G + 3, G + 4, G + 5, G + 6, G + 7, G + 8, G + 9, G + 10] [2, 4, 5, 7, 9, 66, 67, 68] L25 K51 = some (.normal, L25, K55) := by kernel_rfl
theorem p152 : pc [1, 1, 1, 1, 1, 1, 1, 0, 1, 0, 0, 0] [G + 0, G + 1, G + 2, G + 3, G + 4, G + 5, G + 6, G + 7, G + 8, G + 9, G + 10] [2, 4, 5, 7, 9, 66, 67, 68, 69] L25 K55 = some (.normal, L25, K56) := by kernel_rfl
theorem p153 : pc [1, 1, 1, 1, 1, 1, 1, 0, 1, 0, 0, 1, 0] [G + 0, G + 1, G + 2, G + 3, G + 4, G + 5, G + 6, G + 7, G + 8, G + 9, G + 10] [2, 4, 5, 7, 9, 66, 67, 68] L25 K56 = some (.normal, L25, K55) := by kernel_rfl
theorem p154 : pc [1, 1, 1, 1, 1, 1, 1, 0, 1, 0, 0, 1, 1, 0, 0, 0] [G + 0, G + 1, G + 2, G + 3, G + 4, G + 5, G + 6, G + 7, G + 8, G + 9, G + 10, G + 11] [2, 4, 5, 7, 9, 11, 66, 67, 68] L25 K55 = some (.normal, L26, K57) := by kernel_rfl
theorem p155 : pc [1, 1, 1, 1, 1, 1, 1, 0, 1, 0, 0, 1, 1, 0, 0, 1, 0] [G + 0, G + 1, G + 2, G + 3, G + 4, G + 5, G + 6, G + 7, G + 8, G + 9, G + 10] [2, 4, 5, 7, 9, 66, 67, 68, 82] L26 K57 = some (.normal, L25, K58) := by kernel_rfl
theorem p156 : pc [1, 1, 1, 1, 1, 1, 1, 0, 1, 0, 0, 1, 1, 0, 0, 1, 1] [G + 0, G + 1, G + 2, G + 3, G + 4, G + 5, G + 6, G + 7, G + 8, G + 9, G + 10] [2, 4, 5, 7, 9, 66, 67, 68] L25 K58 = some (.normal, L25, K55) := by kernel_rfl
theorem p160 : pc [1, 1, 1, 1, 1, 1, 1, 0, 1, 0, 0, 1, 1, 1] [G + 0, G + 1, G + 2, G + 3, G + 4, G + 5, G + 6, G + 7, G + 8, G + 9, G + 10] [2, 4, 5, 7, 9, 66, 67, 68] L25 K55 = some (.normal, L25, K59) := by kernel_rfl
theorem p164 : pc [1, 1, 1, 1, 1, 1, 1, 0, 1, 0, 0, 0] [G + 0, G + 1, G + 2, G + 3, G + 4, G + 5, G + 6, G + 7, G + 8, G + 9, G + 10] [2, 4, 5, 7, 9, 66, 67, 68, 69] L25 K59 = some (.normal, L25, K60) := by kernel_rfl
theorem p165 : pc [1, 1, 1, 1, 1, 1, 1, 0, 1, 0, 0, 1, 0] [G + 0, G + 1, G + 2, G + 3, G + 4, G + 5, G + 6, G + 7, G + 8, G + 9, G + 10] [2, 4, 5, 7, 9, 66, 67, 68] L25 K60 = some (.normal, L25, K59) := by kernel_rfl
theorem p166 : pc [1, 1, 1, 1, 1, 1, 1, 0, 1, 0, 0, 1, 1, 0, 0, 0] [G + 0, G + 1, G + 2, G + 3, G + 4, G + 5, G + 6, G + 7, G + 8, G + 9, G + 10, G + 11] [2, 4, 5, 7, 9, 11, 66, 67, 68] L25 K59 = some (.normal, L27, K61) := by kernel_rfl
theorem p167 : pc [1, 1, 1, 1, 1, 1, 1, 0, 1, 0, 0, 1, 1, 0, 0, 1, 0] [G + 0, G + 1, G + 2, G + 3, G + 4, G + 5, G + 6, G + 7, G + 8, G + 9, G + 10] [2, 4, 5, 7, 9, 66, 67, 68, 82] L27 K61 = some (.normal, L25, K62) := by kernel_rfl
theorem p168 : pc [1, 1, 1, 1, 1, 1, 1, 0, 1, 0, 0, 1, 1, 0, 0, 1, 1] [G + 0, G + 1, G + 2, G + 3, G + 4, G + 5, G + 6, G + 7, G + 8, G + 9, G + 10] [2, 4, 5, 7, 9, 66, 67, 68] L25 K62 = some (.normal, L25, K59) := by kernel_rfl
theorem p172 : pc [1, 1, 1, 1, 1, 1, 1, 0, 1, 0, 0, 1, 1, 1] [G + 0, G + 1, G + 2, G + 3, G + 4, G + 5, G + 6, G + 7, G + 8, G + 9, G + 10] [2, 4, 5, 7, 9, 66, 67, 68] L25 K59 = some (.normal, L25, K63) := by kernel_rfl
theorem p176 : pc [1, 1, 1, 1, 1, 1, 1, 0, 1, 0, 0, 0] [G + 0, G + 1, G + 2, G + 3, G + 4, G + 5, G + 6, G + 7, G + 8, G + 9, G + 10] [2, 4, 5, 7, 9, 66, 67, 68, 69] L25 K63 = some (.normal, L25, K64) := by kernel_rfl
theorem p177 : pc [1, 1, 1, 1, 1, 1, 1, 0, 1, 0, 0, 1, 0] [G + 0, G + 1, G + 2, G + 3, G + 4, G + 5, G + 6, G + 7, G + 8, G + 9, G + 10] [2, 4, 5, 7, 9, 66, 67, 68] L25 K64 = some (.normal, L25, K63) := by kernel_rfl
theorem p178 : pc [1, 1, 1, 1, 1, 1, 1, 0, 1, 0, 0, 1, 1, 0, 0, 0] [G + 0, G + 1, G + 2, G + 3, G + 4, G + 5, G + 6, G + 7, G + 8, G + 9, G + 10, G + 11] [2, 4, 5, 7, 9, 11, 66, 67, 68] L25 K63 = some (.normal, L28, K65) := by kernel_rfl
theorem p179 : pc [1, 1, 1, 1, 1, 1, 1, 0, 1, 0, 0, 1, 1, 0, 0, 1, 0] [G + 0, G + 1, G + 2, G + 3, G + 4, G + 5, G + 6, G + 7, G + 8, G + 9, G + 10] [2, 4, 5, 7, 9, 66, 67, 68, 82] L28 K65 = some (.normal, L25, K66) := by kernel_rfl
theorem p180 : pc [1, 1, 1, 1, 1, 1, 1, 0, 1, 0, 0, 1, 1, 0, 0, 1, 1] [G + 0, G + 1, G + 2, G + 3, G + 4, G + 5, G + 6, G + 7, G + 8, G + 9, G + 10] [2, 4, 5, 7, 9, 66, 67, 68] L25 K66 = some (.normal, L25, K63) := by kernel_rfl
theorem p184 : pc [1, 1, 1, 1, 1, 1, 1, 0, 1, 0, 0, 1, 1, 1] [G + 0, G + 1, G + 2, G + 3, G + 4, G + 5, G + 6, G + 7, G + 8, G + 9, G + 10] [2, 4, 5, 7, 9, 66, 67, 68] L25 K63 = some (.normal, L25, K67) := by kernel_rfl
theorem p188 : pc [1, 1, 1, 1, 1, 1, 1, 0, 1, 0, 0, 0] [G + 0, G + 1, G + 2, G + 3, G + 4, G + 5, G + 6, G + 7, G + 8, G + 9, G + 10] [2, 4, 5, 7, 9, 66, 67, 68, 69] L25 K67 = some (.normal, L25, K68) := by kernel_rfl
theorem p189 : pc [1, 1, 1, 1, 1, 1, 1, 0, 1, 0, 0, 1, 0] [G + 0] [2, 4, 5] L25 K68 = some (.exit 0, L1, K69) := by kernel_rfl
theorem p195 : pc [1, 1, 1, 1, 1, 1, 1, 1] [] [0] L1 K69 = some (.ret, L0, K70) := by kernel_rfl
end ILaw
end Go.Proofs.Ytjlieapiedmiiaa
