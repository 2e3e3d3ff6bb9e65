/- Chapter 26: DownloadNumbers, a closed sentence, comes out true. Pieces. -/
import Derived.Test.YtjlieapiedmiiaaDa
namespace Go.Proofs.Ytjlieapiedmiiaa
open Go Go.Ev Go.RowKit
set_option maxRecDepth 100000
namespace DLaw
theorem p10 : pc [1, 1, 1, 1, 1, 1, 1, 1, 1, 1, 0] [G + 0, G + 1, G + 2, G + 3, G + 4, G + 5, G + 6, G + 7, G + 8, G + 9, G + 10, G + 11, G + 12, G + 13, G + 14, G + 15, G + 16, G + 17, G + 18, G + 19, G + 20, G + 21, G + 22, G + 23, G + 24, G + 25, G + 26, G + 27, G + 28, G + 29, G + 30, G + 31, G + 218, G + 227, G + 240] [2, 3, 4, 5, 6, 7, 9, 10] L5 K8 = some (.normal, L6, K9) := by kernel_rfl
end DLaw
end Go.Proofs.Ytjlieapiedmiiaa
