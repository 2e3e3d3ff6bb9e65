/- Chapter 22: AdjoutNumbers, a closed sentence, comes out true. Pieces. -/
import Derived.Test.YtjlieapiedmiiaaGreatAa
namespace Go.Proofs.YtjlieapiedmiiaaGreat
open Go Go.Ev Go.RowKit
set_option maxRecDepth 100000
namespace ALaw
theorem p1008 : pcA15 [1, 1, 1, 1, 1, 1, 1, 1, 0] [] [0] LA5 KA6 = some (.normal, LA0, KA7) := by kernel_rfl
theorem p1009 : pcA15 [1, 1, 1, 1, 1, 1, 1, 1, 1] [] [0] LA0 KA7 = some (.ret, LA0, KA7) := by kernel_rfl
theorem p311 : pcK15 [kn1] [1, 1, 1, 1, 1, 1, 1, 1, 1, 1] [] [0] L43 K102 = some (.ret, L0, K103) := by kernel_rfl
end ALaw
end Go.Proofs.YtjlieapiedmiiaaGreat
