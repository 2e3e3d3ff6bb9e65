/- Chapter 26: DownloadNumbers, a closed sentence, comes out true. Pieces. -/
import Derived.Test.YtjlieapiedmiiaaDa
namespace Go.Proofs.Ytjlieapiedmiiaa
open Go Go.Ev Go.RowKit
set_option maxRecDepth 100000
namespace DLaw
theorem p64 : pcA30 [1, 1, 0] [G + 0, G + 1, G + 2, G + 4, G + 5, G + 6, G + 7, G + 15] [5, 6, 7, 8] L19 K36 = some (.normal, L20, K37) := by kernel_rfl
theorem p65 : pcA30 [1, 1, 1, 0] [G + 0, G + 1, G + 2, G + 3, G + 4, G + 5, G + 6, G + 7] [5, 7] L20 K37 = some (.normal, L20, K38) := by kernel_rfl
theorem p66 : pcA30 [1, 1, 1, 1, 0, 0] [G + 0, G + 1, G + 2, G + 3, G + 4, G + 5, G + 6, G + 7] [5, 7, 9] L20 K38 = some (.normal, L20, K39) := by kernel_rfl
theorem p67 : pcA30 [1, 1, 1, 1, 0, 1, 0, 0] [G + 0, G + 1, G + 2, G + 3, G + 4, G + 5, G + 6, G + 7] [5, 7, 9] L20 K39 = some (.normal, L20, K40) := by kernel_rfl
theorem p68 : pcA30 [1, 1, 1, 1, 0, 1, 0, 0] [G + 0, G + 1, G + 2, G + 3, G + 4, G + 5, G + 6, G + 7] [5, 7, 9] L20 K40 = some (.normal, L20, K41) := by kernel_rfl
theorem p69 : pcA30 [1, 1, 1, 1, 0, 1, 0, 0] [G + 0, G + 1, G + 2, G + 3, G + 4, G + 5, G + 6, G + 7] [5, 7, 9] L20 K41 = some (.normal, L20, K42) := by kernel_rfl
theorem p70 : pcA30 [1, 1, 1, 1, 0, 1, 0, 0] [G + 0, G + 1, G + 2, G + 3, G + 4, G + 5, G + 6, G + 7] [5, 7, 9] L20 K42 = some (.normal, L20, K43) := by kernel_rfl
theorem p71 : pcA30 [1, 1, 1, 1, 0, 1, 0, 0] [] [] L20 K43 = some (.exit 0, L0, K0) := by kernel_rfl
theorem p75 : pcA30 [1, 1, 1, 1, 1] [] [4] L0 K0 = some (.ret, L0, K25) := by kernel_rfl
theorem p82 : pcA30 [0] [G + 0, G + 1, G + 2, G + 3, G + 4] [0, 1] L21 K44 = some (.normal, L21, K44) := by kernel_rfl
theorem p83 : pcA30 [1, 0] [G + 0, G + 1, G + 2, G + 3, G + 4] [0, 1, 5, 6] L21 K44 = some (.normal, L21, K45) := by kernel_rfl
theorem p84 : pcA30 [1, 1, 0] [] [5, 6, 7, 8] L21 K45 = some (.normal, L0, K46) := by kernel_rfl
theorem p85 : pcA30 [1, 1, 1, 0] [] [5, 7] L0 K46 = some (.normal, L0, K23) := by kernel_rfl
theorem p86 : pcA30 [1, 1, 1, 1, 0, 0] [] [5, 7, 9] L0 K23 = some (.normal, L0, K24) := by kernel_rfl
theorem p87 : pcA30 [1, 1, 1, 1, 0, 1, 0, 0] [] [] L0 K24 = some (.exit 0, L0, K0) := by kernel_rfl
theorem p91 : pcA30 [1, 1, 1, 1, 1] [] [4] L0 K0 = some (.ret, L0, K25) := by kernel_rfl
theorem p98 : pcA30 [0] [G + 0, G + 1, G + 2, G + 3, G + 4] [0, 1] L22 K47 = some (.normal, L22, K47) := by kernel_rfl
theorem p99 : pcA30 [1, 0] [G + 0, G + 1, G + 2, G + 3, G + 4] [0, 1, 5, 6] L22 K47 = some (.normal, L22, K48) := by kernel_rfl
theorem p100 : pcA30 [1, 1, 0] [] [5, 6, 7, 8] L22 K48 = some (.normal, L0, K46) := by kernel_rfl
theorem p101 : pcA30 [1, 1, 1, 0] [] [5, 7] L0 K46 = some (.normal, L0, K23) := by kernel_rfl
theorem p102 : pcA30 [1, 1, 1, 1, 0, 0] [] [5, 7, 9] L0 K23 = some (.normal, L0, K24) := by kernel_rfl
theorem p103 : pcA30 [1, 1, 1, 1, 0, 1, 0, 0] [] [] L0 K24 = some (.exit 0, L0, K0) := by kernel_rfl
theorem p107 : pcA30 [1, 1, 1, 1, 1] [] [4] L0 K0 = some (.ret, L0, K25) := by kernel_rfl
theorem p114 : pcA30 [0] [G + 0, G + 1, G + 2, G + 3, G + 4, G + 5, G + 6, G + 7] [0, 1] L23 K49 = some (.normal, L23, K49) := by kernel_rfl
theorem p115 : pcA30 [1, 0] [G + 0, G + 1, G + 2, G + 3, G + 4, G + 5, G + 6, G + 7, G + 103, G + 112, G + 125] [0, 1, 5, 6] L23 K49 = some (.normal, L24, K50) := by kernel_rfl
end DLaw
end Go.Proofs.Ytjlieapiedmiiaa
