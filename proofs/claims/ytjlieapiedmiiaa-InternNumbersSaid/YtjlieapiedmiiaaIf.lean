/- Chapter 11: InternNumbers, a closed sentence, comes out true. Pieces. -/
import Derived.Test.YtjlieapiedmiiaaIa
namespace Go.Proofs.Ytjlieapiedmiiaa
open Go Go.Ev Go.RowKit
set_option maxRecDepth 100000
namespace ILaw
theorem p72 : pc [1, 1, 1, 1, 1, 1, 1, 0, 1, 0, 0, 1, 1, 0, 0, 1, 1] [G + 0, G + 1, G + 2, G + 3, G + 4, G + 5, G + 6, G + 7, G + 8, G + 9, G + 10, G + 11] [2, 4, 5, 7, 9, 66, 67, 68] L14 K30 = some (.normal, L14, K27) := by kernel_rfl
theorem p76 : pc [1, 1, 1, 1, 1, 1, 1, 0, 1, 0, 0, 1, 1, 1] [G + 0, G + 1, G + 2, G + 3, G + 4, G + 5, G + 6, G + 7, G + 8, G + 9, G + 10, G + 11] [2, 4, 5, 7, 9, 66, 67, 68] L14 K27 = some (.normal, L14, K31) := by kernel_rfl
theorem p80 : pc [1, 1, 1, 1, 1, 1, 1, 0, 1, 0, 0, 0] [G + 0, G + 1, G + 2, G + 3, G + 4, G + 5, G + 6, G + 7, G + 8, G + 9, G + 10, G + 11] [2, 4, 5, 7, 9, 66, 67, 68, 69] L14 K31 = some (.normal, L14, K32) := by kernel_rfl
theorem p81 : pc [1, 1, 1, 1, 1, 1, 1, 0, 1, 0, 0, 1, 0] [G + 0, G + 1, G + 2, G + 3, G + 4, G + 5, G + 6, G + 7, G + 8, G + 9, G + 10, G + 11] [2, 4, 5, 7, 9, 66, 67, 68] L14 K32 = some (.normal, L14, K31) := by kernel_rfl
theorem p82 : pc [1, 1, 1, 1, 1, 1, 1, 0, 1, 0, 0, 1, 1, 0, 0, 0] [G + 0, G + 1, G + 2, G + 3, G + 4, G + 5, G + 6, G + 7, G + 8, G + 9, G + 10, G + 11, G + 12] [2, 4, 5, 7, 9, 11, 66, 67, 68] L14 K31 = some (.normal, L15, K33) := by kernel_rfl
theorem p83 : pc [1, 1, 1, 1, 1, 1, 1, 0, 1, 0, 0, 1, 1, 0, 0, 1, 0] [G + 0, G + 1, G + 2, G + 3, G + 4, G + 5, G + 6, G + 7, G + 8, G + 9, G + 10, G + 11] [2, 4, 5, 7, 9, 66, 67, 68, 82] L15 K33 = some (.normal, L16, K34) := by kernel_rfl
theorem p84 : pc [1, 1, 1, 1, 1, 1, 1, 0, 1, 0, 0, 1, 1, 0, 0, 1, 1] [G + 0, G + 1, G + 2, G + 3, G + 4, G + 5, G + 6, G + 7, G + 8, G + 9, G + 10, G + 11] [2, 4, 5, 7, 9, 66, 67, 68] L16 K34 = some (.normal, L16, K31) := by kernel_rfl
theorem p88 : pc [1, 1, 1, 1, 1, 1, 1, 0, 1, 0, 0, 1, 1, 1] [G + 0, G + 1, G + 2, G + 3, G + 4, G + 5, G + 6, G + 7, G + 8, G + 9, G + 10, G + 11] [2, 4, 5, 7, 9, 66, 67, 68] L16 K31 = some (.normal, L16, K35) := by kernel_rfl
theorem p92 : pc [1, 1, 1, 1, 1, 1, 1, 0, 1, 0, 0, 0] [G + 0, G + 1, G + 2, G + 3, G + 4, G + 5, G + 6, G + 7, G + 8, G + 9, G + 10, G + 11] [2, 4, 5, 7, 9, 66, 67, 68, 69] L16 K35 = some (.normal, L16, K36) := by kernel_rfl
theorem p93 : pc [1, 1, 1, 1, 1, 1, 1, 0, 1, 0, 0, 1, 0] [G + 0, G + 1, G + 2, G + 3, G + 4, G + 5, G + 6, G + 7, G + 8, G + 9, G + 10, G + 11] [2, 4, 5, 7, 9, 66, 67, 68] L16 K36 = some (.normal, L16, K35) := by kernel_rfl
theorem p94 : pc [1, 1, 1, 1, 1, 1, 1, 0, 1, 0, 0, 1, 1, 0, 0, 0] [G + 0, G + 1, G + 2, G + 3, G + 4, G + 5, G + 6, G + 7, G + 8, G + 9, G + 10, G + 11, G + 12] [2, 4, 5, 7, 9, 11, 66, 67, 68] L16 K35 = some (.normal, L17, K37) := by kernel_rfl
theorem p95 : pc [1, 1, 1, 1, 1, 1, 1, 0, 1, 0, 0, 1, 1, 0, 0, 1, 0] [G + 0, G + 1, G + 2, G + 3, G + 4, G + 5, G + 6, G + 7, G + 8, G + 9, G + 10, G + 11] [2, 4, 5, 7, 9, 66, 67, 68, 82] L17 K37 = some (.normal, L18, K38) := by kernel_rfl
theorem p96 : pc [1, 1, 1, 1, 1, 1, 1, 0, 1, 0, 0, 1, 1, 0, 0, 1, 1] [G + 0, G + 1, G + 2, G + 3, G + 4, G + 5, G + 6, G + 7, G + 8, G + 9, G + 10, G + 11] [2, 4, 5, 7, 9, 66, 67, 68] L18 K38 = some (.normal, L18, K35) := by kernel_rfl
theorem p100 : pc [1, 1, 1, 1, 1, 1, 1, 0, 1, 0, 0, 1, 1, 1] [G + 0, G + 1, G + 2, G + 3, G + 4, G + 5, G + 6, G + 7, G + 8, G + 9, G + 10, G + 11] [2, 4, 5, 7, 9, 66, 67, 68] L18 K35 = some (.normal, L18, K39) := by kernel_rfl
theorem p104 : pc [1, 1, 1, 1, 1, 1, 1, 0, 1, 0, 0, 0] [G + 0, G + 1, G + 2, G + 3, G + 4, G + 5, G + 6, G + 7, G + 8, G + 9, G + 10, G + 11] [2, 4, 5, 7, 9, 66, 67, 68, 69] L18 K39 = some (.normal, L18, K40) := by kernel_rfl
theorem p105 : pc [1, 1, 1, 1, 1, 1, 1, 0, 1, 0, 0, 1, 0] [G + 0, G + 1, G + 2, G + 3, G + 4, G + 5, G + 6, G + 7, G + 8, G + 9, G + 10, G + 11] [2, 4, 5, 7, 9, 66, 67, 68] L18 K40 = some (.normal, L18, K39) := by kernel_rfl
theorem p106 : pc [1, 1, 1, 1, 1, 1, 1, 0, 1, 0, 0, 1, 1, 0, 0, 0] [G + 0, G + 1, G + 2, G + 3, G + 4, G + 5, G + 6, G + 7, G + 8, G + 9, G + 10, G + 11, G + 12] [2, 4, 5, 7, 9, 11, 66, 67, 68] L18 K39 = some (.normal, L19, K41) := by kernel_rfl
theorem p107 : pc [1, 1, 1, 1, 1, 1, 1, 0, 1, 0, 0, 1, 1, 0, 0, 1, 0] [G + 0, G + 1, G + 2, G + 3, G + 4, G + 5, G + 6, G + 7, G + 8, G + 9, G + 10, G + 11] [2, 4, 5, 7, 9, 66, 67, 68, 82] L19 K41 = some (.normal, L18, K42) := by kernel_rfl
theorem p108 : pc [1, 1, 1, 1, 1, 1, 1, 0, 1, 0, 0, 1, 1, 0, 0, 1, 1] [G + 0, G + 1, G + 2, G + 3, G + 4, G + 5, G + 6, G + 7, G + 8, G + 9, G + 10, G + 11] [2, 4, 5, 7, 9, 66, 67, 68] L18 K42 = some (.normal, L18, K39) := by kernel_rfl
theorem p112 : pc [1, 1, 1, 1, 1, 1, 1, 0, 1, 0, 0, 1, 1, 1] [G + 0, G + 1, G + 2, G + 3, G + 4, G + 5, G + 6, G + 7, G + 8, G + 9, G + 10, G + 11] [2, 4, 5, 7, 9, 66, 67, 68] L18 K39 = some (.normal, L18, K43) := by kernel_rfl
theorem p116 : pc [1, 1, 1, 1, 1, 1, 1, 0, 1, 0, 0, 0] [G + 0, G + 1, G + 2, G + 3, G + 4, G + 5, G + 6, G + 7, G + 8, G + 9, G + 10, G + 11] [2, 4, 5, 7, 9, 66, 67, 68, 69] L18 K43 = some (.normal, L18, K44) := by kernel_rfl
theorem p117 : pc [1, 1, 1, 1, 1, 1, 1, 0, 1, 0, 0, 1, 0] [G + 0, G + 1, G + 2, G + 3, G + 4, G + 5, G + 6, G + 7, G + 8, G + 9, G + 10, G + 11] [2, 4, 5, 7, 9, 66, 67, 68] L18 K44 = some (.normal, L18, K43) := by kernel_rfl
theorem p118 : pc [1, 1, 1, 1, 1, 1, 1, 0, 1, 0, 0, 1, 1, 0, 0, 0] [G + 0, G + 1, G + 2, G + 3, G + 4, G + 5, G + 6, G + 7, G + 8, G + 9, G + 10, G + 11, G + 12] [2, 4, 5, 7, 9, 11, 66, 67, 68] L18 K43 = some (.normal, L20, K45) := by kernel_rfl
theorem p119 : pc [1, 1, 1, 1, 1, 1, 1, 0, 1, 0, 0, 1, 1, 0, 0, 1, 0] [G + 0, G + 1, G + 2, G + 3, G + 4, G + 5, G + 6, G + 7, G + 8, G + 9, G + 10, G + 11] [2, 4, 5, 7, 9, 66, 67, 68, 82] L20 K45 = some (.normal, L21, K46) := by kernel_rfl
theorem p120 : pc [1, 1, 1, 1, 1, 1, 1, 0, 1, 0, 0, 1, 1, 0, 0, 1, 1] [G + 0, G + 1, G + 2, G + 3, G + 4, G + 5, G + 6, G + 7, G + 8, G + 9, G + 10, G + 11] [2, 4, 5, 7, 9, 66, 67, 68] L21 K46 = some (.normal, L21, K43) := by kernel_rfl
theorem p124 : pc [1, 1, 1, 1, 1, 1, 1, 0, 1, 0, 0, 1, 1, 1] [G + 0, G + 1, G + 2, G + 3, G + 4, G + 5, G + 6, G + 7, G + 8, G + 9, G + 10, G + 11] [2, 4, 5, 7, 9, 66, 67, 68] L21 K43 = some (.normal, L21, K47) := by kernel_rfl
theorem p128 : pc [1, 1, 1, 1, 1, 1, 1, 0, 1, 0, 0, 0] [G + 0, G + 1, G + 2, G + 3, G + 4, G + 5, G + 6, G + 7, G + 8, G + 9, G + 10, G + 11] [2, 4, 5, 7, 9, 66, 67, 68, 69] L21 K47 = some (.normal, L21, K48) := by kernel_rfl
theorem p129 : pc [1, 1, 1, 1, 1, 1, 1, 0, 1, 0, 0, 1, 0] [G + 0, G + 1, G + 2, G + 3, G + 4, G + 5, G + 6, G + 7, G + 8, G + 9, G + 10, G + 11] [2, 4, 5, 7, 9, 66, 67, 68] L21 K48 = some (.normal, L21, K47) := by kernel_rfl
theorem p130 : pc [1, 1, 1, 1, 1, 1, 1, 0, 1, 0, 0, 1, 1, 0, 0, 0] [G + 0, G + 1, G + 2, G + 3, G + 4, G + 5, G + 6, G + 7, G + 8, G + 9, G + 10, G + 11, G + 12] [2, 4, 5, 7, 9, 11, 66, 67, 68] L21 K47 = some (.normal, L22, K49) := by kernel_rfl
end ILaw
end Go.Proofs.Ytjlieapiedmiiaa
