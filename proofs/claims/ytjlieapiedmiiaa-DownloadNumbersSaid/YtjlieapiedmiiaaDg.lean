/- Chapter 26: DownloadNumbers, a closed sentence, comes out true. Pieces. -/
import Derived.Test.YtjlieapiedmiiaaDa
namespace Go.Proofs.Ytjlieapiedmiiaa
open Go Go.Ev Go.RowKit
set_option maxRecDepth 100000
namespace DLaw
theorem p116 : pcA30 [1, 1, 0] [G + 4, G + 6, G + 8, G + 9, G + 10, G + 18] [5, 6, 7, 8] L24 K50 = some (.normal, L25, K51) := by kernel_rfl
theorem p117 : pcA30 [1, 1, 1, 0] [G + 0, G + 1, G + 2, G + 3, G + 4, G + 5] [5, 7] L25 K51 = some (.normal, L25, K52) := by kernel_rfl
theorem p118 : pcA30 [1, 1, 1, 1, 0, 0] [G + 0, G + 1, G + 2, G + 3, G + 4, G + 5] [5, 7, 9] L25 K52 = some (.normal, L25, K53) := by kernel_rfl
theorem p119 : pcA30 [1, 1, 1, 1, 0, 1, 0, 0] [G + 0, G + 1, G + 2, G + 3, G + 4, G + 5] [5, 7, 9] L25 K53 = some (.normal, L25, K54) := by kernel_rfl
theorem p120 : pcA30 [1, 1, 1, 1, 0, 1, 0, 0] [G + 0, G + 1, G + 2, G + 3, G + 4, G + 5] [5, 7, 9] L25 K54 = some (.normal, L25, K55) := by kernel_rfl
theorem p121 : pcA30 [1, 1, 1, 1, 0, 1, 0, 0] [G + 0, G + 1, G + 2, G + 3, G + 4, G + 5] [5, 7, 9] L25 K55 = some (.normal, L25, K56) := by kernel_rfl
theorem p122 : pcA30 [1, 1, 1, 1, 0, 1, 0, 0] [G + 0, G + 1, G + 2, G + 3, G + 4, G + 5] [5, 7, 9] L25 K56 = some (.normal, L25, K57) := by kernel_rfl
theorem p123 : pcA30 [1, 1, 1, 1, 0, 1, 0, 0] [] [] L25 K57 = some (.exit 0, L0, K0) := by kernel_rfl
theorem p127 : pcA30 [1, 1, 1, 1, 1] [] [4] L0 K0 = some (.ret, L0, K25) := by kernel_rfl
theorem p134 : pcK30 [kn133, kn113, kn97, kn81, kn61, kn41] [1, 1, 1, 1, 1, 1, 1, 1, 1, 1, 1, 1, 1, 1, 1, 1, 1, 1, 0] [] [0] L15 K19 = some (.normal, L0, K58) := by kernel_rfl
theorem p135 : pc [1, 1, 1, 1, 1, 1, 1, 1, 1, 1, 1, 1, 1, 1, 1, 1, 1, 1, 1] [] [0] L0 K58 = some (.ret, L0, K58) := by kernel_rfl
end DLaw
end Go.Proofs.Ytjlieapiedmiiaa
