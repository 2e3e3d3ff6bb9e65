/- Chapter 26: DownloadNumbers, a closed sentence, comes out true. Pieces. -/
import Derived.Test.YtjlieapiedmiiaaDa
namespace Go.Proofs.Ytjlieapiedmiiaa
open Go Go.Ev Go.RowKit
set_option maxRecDepth 100000
namespace DLaw
theorem p28 : pcA30 [1, 1, 0] [] [5, 6, 7, 8] L16 K21 = some (.normal, L0, K22) := by kernel_rfl
theorem p29 : pcA30 [1, 1, 1, 0] [] [5, 7] L0 K22 = some (.normal, L0, K23) := by kernel_rfl
theorem p30 : pcA30 [1, 1, 1, 1, 0, 0] [] [5, 7, 9] L0 K23 = some (.normal, L0, K24) := by kernel_rfl
theorem p31 : pcA30 [1, 1, 1, 1, 0, 1, 0, 0] [] [] L0 K24 = some (.exit 0, L0, K0) := by kernel_rfl
theorem p35 : pcA30 [1, 1, 1, 1, 1] [] [4] L0 K0 = some (.ret, L0, K25) := by kernel_rfl
theorem p42 : pcA30 [0] [G + 0, G + 1, G + 2, G + 3] [0, 1] L16 K26 = some (.normal, L16, K26) := by kernel_rfl
theorem p43 : pcA30 [1, 0] [G + 0, G + 1, G + 2, G + 3, G + 68] [0, 1, 5, 6] L16 K26 = some (.normal, L17, K27) := by kernel_rfl
theorem p44 : pcA30 [1, 1, 0] [G + 4, G + 12] [5, 6, 7, 8] L17 K27 = some (.normal, L18, K28) := by kernel_rfl
theorem p45 : pcA30 [1, 1, 1, 0] [G + 0, G + 1] [5, 7] L18 K28 = some (.normal, L18, K29) := by kernel_rfl
theorem p46 : pcA30 [1, 1, 1, 1, 0, 0] [G + 0, G + 1] [5, 7, 9] L18 K29 = some (.normal, L18, K30) := by kernel_rfl
theorem p47 : pcA30 [1, 1, 1, 1, 0, 1, 0, 0] [G + 0, G + 1] [5, 7, 9] L18 K30 = some (.normal, L18, K31) := by kernel_rfl
theorem p48 : pcA30 [1, 1, 1, 1, 0, 1, 0, 0] [G + 0, G + 1] [5, 7, 9] L18 K31 = some (.normal, L18, K32) := by kernel_rfl
theorem p49 : pcA30 [1, 1, 1, 1, 0, 1, 0, 0] [G + 0, G + 1] [5, 7, 9] L18 K32 = some (.normal, L18, K33) := by kernel_rfl
theorem p50 : pcA30 [1, 1, 1, 1, 0, 1, 0, 0] [G + 0, G + 1] [5, 7, 9] L18 K33 = some (.normal, L18, K34) := by kernel_rfl
theorem p51 : pcA30 [1, 1, 1, 1, 0, 1, 0, 0] [] [] L18 K34 = some (.exit 0, L0, K0) := by kernel_rfl
theorem p55 : pcA30 [1, 1, 1, 1, 1] [] [4] L0 K0 = some (.ret, L0, K25) := by kernel_rfl
theorem p62 : pcA30 [0] [G + 0, G + 1, G + 2, G + 3] [0, 1] L16 K35 = some (.normal, L16, K35) := by kernel_rfl
theorem p63 : pcA30 [1, 0] [G + 0, G + 1, G + 2, G + 3, G + 60, G + 67, G + 74, G + 79] [0, 1, 5, 6] L16 K35 = some (.normal, L19, K36) := by kernel_rfl
end DLaw
end Go.Proofs.Ytjlieapiedmiiaa
