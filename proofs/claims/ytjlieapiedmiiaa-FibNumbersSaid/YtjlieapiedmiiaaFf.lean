/- Chapter 25: FibNumbers, a closed sentence, comes out true. Pieces. -/
import Derived.Test.YtjlieapiedmiiaaFa
namespace Go.Proofs.Ytjlieapiedmiiaa
open Go Go.Ev Go.RowKit
set_option maxRecDepth 100000
namespace FLaw
theorem p131 : pc [1, 1, 1, 1, 1, 1, 1, 0, 1, 0, 0, 1, 1, 0, 0, 1, 0] [G + 0, G + 1, G + 2, G + 3, G + 4, G + 5, G + 6, G + 7, G + 8, G + 18, G + 21] [2, 4, 6, 7, 9, 57, 58, 59, 73] L19 K49 = some (.normal, L20, K50) := by kernel_rfl
theorem p132 : pc [1, 1, 1, 1, 1, 1, 1, 0, 1, 0, 0, 1, 1, 0, 0, 1, 1] [G + 0, G + 1, G + 2, G + 3, G + 4, G + 5, G + 6, G + 7, G + 8, G + 9, G + 10] [2, 4, 6, 7, 9, 57, 58, 59] L20 K50 = some (.normal, L20, K47) := by kernel_rfl
theorem p136 : pc [1, 1, 1, 1, 1, 1, 1, 0, 1, 0, 0, 1, 1, 1] [G + 0, G + 1, G + 2, G + 3, G + 4, G + 5, G + 6, G + 7, G + 8, G + 9, G + 10] [2, 4, 6, 7, 9, 57, 58, 59] L20 K47 = some (.normal, L20, K51) := by kernel_rfl
theorem p140 : pc [1, 1, 1, 1, 1, 1, 1, 0, 1, 0, 0, 0] [G + 0, G + 1, G + 2, G + 3, G + 4, G + 5, G + 6, G + 7, G + 8, G + 9, G + 10] [2, 4, 6, 7, 9, 57, 58, 59, 60] L20 K51 = some (.normal, L20, K52) := by kernel_rfl
theorem p141 : pc [1, 1, 1, 1, 1, 1, 1, 0, 1, 0, 0, 1, 0] [G + 0, G + 1, G + 2, G + 3, G + 4, G + 5, G + 6, G + 7, G + 8, G + 9, G + 10] [2, 4, 6, 7, 9, 57, 58, 59] L20 K52 = some (.normal, L20, K51) := by kernel_rfl
theorem p142 : pc [1, 1, 1, 1, 1, 1, 1, 0, 1, 0, 0, 1, 1, 0, 0, 0] [G + 0, G + 1, G + 2, G + 3, G + 4, G + 5, G + 6, G + 7, G + 8, G + 9, G + 10, G + 11] [2, 4, 6, 7, 9, 11, 57, 58, 59] L20 K51 = some (.normal, L21, K53) := by kernel_rfl
theorem p143 : pc [1, 1, 1, 1, 1, 1, 1, 0, 1, 0, 0, 1, 1, 0, 0, 1, 0] [G + 0, G + 1, G + 2, G + 3, G + 4, G + 5, G + 6, G + 7, G + 8, G + 9, G + 10] [2, 4, 6, 7, 9, 57, 58, 59, 73] L21 K53 = some (.normal, L20, K54) := by kernel_rfl
theorem p144 : pc [1, 1, 1, 1, 1, 1, 1, 0, 1, 0, 0, 1, 1, 0, 0, 1, 1] [G + 0, G + 1, G + 2, G + 3, G + 4, G + 5, G + 6, G + 7, G + 8, G + 9, G + 10] [2, 4, 6, 7, 9, 57, 58, 59] L20 K54 = some (.normal, L20, K51) := by kernel_rfl
theorem p148 : pc [1, 1, 1, 1, 1, 1, 1, 0, 1, 0, 0, 1, 1, 1] [G + 0, G + 1, G + 2, G + 3, G + 4, G + 5, G + 6, G + 7, G + 8, G + 9, G + 10] [2, 4, 6, 7, 9, 57, 58, 59] L20 K51 = some (.normal, L20, K55) := by kernel_rfl
theorem p152 : pc [1, 1, 1, 1, 1, 1, 1, 0, 1, 0, 0, 0] [G + 0, G + 1, G + 2, G + 3, G + 4, G + 5, G + 6, G + 7, G + 8, G + 9, G + 10] [2, 4, 6, 7, 9, 57, 58, 59, 60] L20 K55 = some (.normal, L20, K56) := by kernel_rfl
theorem p153 : pc [1, 1, 1, 1, 1, 1, 1, 0, 1, 0, 0, 1, 0] [G + 0, G + 1, G + 2, G + 3, G + 4, G + 5, G + 6, G + 7, G + 8, G + 9, G + 10] [2, 4, 6, 7, 9, 57, 58, 59] L20 K56 = some (.normal, L20, K55) := by kernel_rfl
theorem p154 : pc [1, 1, 1, 1, 1, 1, 1, 0, 1, 0, 0, 1, 1, 0, 0, 0] [G + 0, G + 1, G + 2, G + 3, G + 4, G + 5, G + 6, G + 7, G + 8, G + 9, G + 10, G + 11] [2, 4, 6, 7, 9, 11, 57, 58, 59] L20 K55 = some (.normal, L22, K57) := by kernel_rfl
theorem p155 : pc [1, 1, 1, 1, 1, 1, 1, 0, 1, 0, 0, 1, 1, 0, 0, 1, 0] [G + 0, G + 1, G + 2, G + 3, G + 4, G + 5, G + 6, G + 7, G + 8, G + 9, G + 10] [2, 4, 6, 7, 9, 57, 58, 59, 73] L22 K57 = some (.normal, L20, K58) := by kernel_rfl
theorem p156 : pc [1, 1, 1, 1, 1, 1, 1, 0, 1, 0, 0, 1, 1, 0, 0, 1, 1] [G + 0, G + 1, G + 2, G + 3, G + 4, G + 5, G + 6, G + 7, G + 8, G + 9, G + 10] [2, 4, 6, 7, 9, 57, 58, 59] L20 K58 = some (.normal, L20, K55) := by kernel_rfl
theorem p160 : pc [1, 1, 1, 1, 1, 1, 1, 0, 1, 0, 0, 1, 1, 1] [G + 0, G + 1, G + 2, G + 3, G + 4, G + 5, G + 6, G + 7, G + 8, G + 9, G + 10] [2, 4, 6, 7, 9, 57, 58, 59] L20 K55 = some (.normal, L20, K59) := by kernel_rfl
theorem p164 : pc [1, 1, 1, 1, 1, 1, 1, 0, 1, 0, 0, 0] [G + 0, G + 1, G + 2, G + 3, G + 4, G + 5, G + 6, G + 7, G + 8, G + 9, G + 10] [2, 4, 6, 7, 9, 57, 58, 59, 60] L20 K59 = some (.normal, L20, K60) := by kernel_rfl
theorem p165 : pc [1, 1, 1, 1, 1, 1, 1, 0, 1, 0, 0, 1, 0] [G + 0, G + 1, G + 2, G + 3, G + 4, G + 5, G + 6, G + 7, G + 8, G + 9, G + 10] [2, 4, 6, 7, 9, 57, 58, 59] L20 K60 = some (.normal, L20, K59) := by kernel_rfl
theorem p166 : pc [1, 1, 1, 1, 1, 1, 1, 0, 1, 0, 0, 1, 1, 0, 0, 0] [G + 0, G + 1, G + 2, G + 3, G + 4, G + 5, G + 6, G + 7, G + 8, G + 9, G + 10, G + 11] [2, 4, 6, 7, 9, 11, 57, 58, 59] L20 K59 = some (.normal, L23, K61) := by kernel_rfl
theorem p167 : pc [1, 1, 1, 1, 1, 1, 1, 0, 1, 0, 0, 1, 1, 0, 0, 1, 0] [G + 0, G + 1, G + 2, G + 3, G + 4, G + 5, G + 6, G + 7, G + 8, G + 9, G + 10] [2, 4, 6, 7, 9, 57, 58, 59, 73] L23 K61 = some (.normal, L24, K62) := by kernel_rfl
theorem p168 : pc [1, 1, 1, 1, 1, 1, 1, 0, 1, 0, 0, 1, 1, 0, 0, 1, 1] [G + 0, G + 1, G + 2, G + 3, G + 4, G + 5, G + 6, G + 7, G + 8, G + 9, G + 10] [2, 4, 6, 7, 9, 57, 58, 59] L24 K62 = some (.normal, L24, K59) := by kernel_rfl
theorem p172 : pc [1, 1, 1, 1, 1, 1, 1, 0, 1, 0, 0, 1, 1, 1] [G + 0, G + 1, G + 2, G + 3, G + 4, G + 5, G + 6, G + 7, G + 8, G + 9, G + 10] [2, 4, 6, 7, 9, 57, 58, 59] L24 K59 = some (.normal, L24, K63) := by kernel_rfl
theorem p176 : pc [1, 1, 1, 1, 1, 1, 1, 0, 1, 0, 0, 0] [G + 0, G + 1, G + 2, G + 3, G + 4, G + 5, G + 6, G + 7, G + 8, G + 9, G + 10] [2, 4, 6, 7, 9, 57, 58, 59, 60] L24 K63 = some (.normal, L24, K64) := by kernel_rfl
theorem p177 : pc [1, 1, 1, 1, 1, 1, 1, 0, 1, 0, 0, 1, 0] [G + 0, G + 1, G + 2, G + 3, G + 4, G + 5, G + 6, G + 7, G + 8, G + 9, G + 10] [2, 4, 6, 7, 9, 57, 58, 59] L24 K64 = some (.normal, L24, K63) := by kernel_rfl
theorem p178 : pc [1, 1, 1, 1, 1, 1, 1, 0, 1, 0, 0, 1, 1, 0, 0, 0] [G + 0, G + 1, G + 2, G + 3, G + 4, G + 5, G + 6, G + 7, G + 8, G + 9, G + 10, G + 11] [2, 4, 6, 7, 9, 11, 57, 58, 59] L24 K63 = some (.normal, L25, K65) := by kernel_rfl
theorem p179 : pcA18 [0] [G + 0, G + 1, G + 2, G + 3, G + 4, G + 5, G + 6, G + 7, G + 8, G + 9, G + 10, G + 11, G + 12, G + 13, G + 14, G + 15, G + 16, G + 17, G + 18, G + 19, G + 20, G + 21, G + 22, G + 23, G + 24, G + 25, G + 26, G + 27, G + 28, G + 29, G + 30, G + 31, G + 32, G + 33, G + 34, G + 35, G + 36, G + 37, G + 38, G + 39] [0, 1] L26 K66 = some (.normal, L26, K66) := by kernel_rfl
end FLaw
end Go.Proofs.Ytjlieapiedmiiaa
