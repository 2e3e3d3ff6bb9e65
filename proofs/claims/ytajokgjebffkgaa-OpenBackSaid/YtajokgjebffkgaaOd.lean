/- OpenBack: up to 72 bytes. -/
import Derived.Test.YtajokgjebffkgaaOc
namespace Go.Proofs.Ytajokgjebffkgaa
open Go Go.Ev Go.RowKit
set_option maxRecDepth 100000
namespace OpenBack
theorem r41 (w1 w2 i c s k a1 h1 a h d q : Int) (z : Nat → Int) : SRow w1 w2 i c s k (mkI .u8 z 41) 41 (pR3 a1 h1 a h d q) (cR3 w1 w2 i c s k a1 h1 a h d q z 41) := by unfold SRow; kernel_rfl
theorem r42 (w1 w2 i c s k a1 h1 a h d q : Int) (z : Nat → Int) : SRow w1 w2 i c s k (mkI .u8 z 42) 42 (pR3 a1 h1 a h d q) (cR3 w1 w2 i c s k a1 h1 a h d q z 42) := by unfold SRow; kernel_rfl
theorem r43 (w1 w2 i c s k a1 h1 a h d q : Int) (z : Nat → Int) : SRow w1 w2 i c s k (mkI .u8 z 43) 43 (pR3 a1 h1 a h d q) (cR3 w1 w2 i c s k a1 h1 a h d q z 43) := by unfold SRow; kernel_rfl
theorem r44 (w1 w2 i c s k a1 h1 a h d q : Int) (z : Nat → Int) : SRow w1 w2 i c s k (mkI .u8 z 44) 44 (pR3 a1 h1 a h d q) (cR3 w1 w2 i c s k a1 h1 a h d q z 44) := by unfold SRow; kernel_rfl
theorem r45 (w1 w2 i c s k a1 h1 a h d q : Int) (z : Nat → Int) : SRow w1 w2 i c s k (mkI .u8 z 45) 45 (pR3 a1 h1 a h d q) (cR3 w1 w2 i c s k a1 h1 a h d q z 45) := by unfold SRow; kernel_rfl
theorem r46 (w1 w2 i c s k a1 h1 a h d q : Int) (z : Nat → Int) : SRow w1 w2 i c s k (mkI .u8 z 46) 46 (pR3 a1 h1 a h d q) (cR3 w1 w2 i c s k a1 h1 a h d q z 46) := by unfold SRow; kernel_rfl
theorem r47 (w1 w2 i c s k a1 h1 a h d q : Int) (z : Nat → Int) : SRow w1 w2 i c s k (mkI .u8 z 47) 47 (pR3 a1 h1 a h d q) (cR3 w1 w2 i c s k a1 h1 a h d q z 47) := by unfold SRow; kernel_rfl
theorem r48 (w1 w2 i c s k a1 h1 a h d q : Int) (z : Nat → Int) : SRow w1 w2 i c s k (mkI .u8 z 48) 48 (pR3 a1 h1 a h d q) (cR3 w1 w2 i c s k a1 h1 a h d q z 48) := by unfold SRow; kernel_rfl
theorem r49 (w1 w2 i c s k a1 h1 a h d q : Int) (z : Nat → Int) : SRow w1 w2 i c s k (mkI .u8 z 49) 49 (pR3 a1 h1 a h d q) (cR3 w1 w2 i c s k a1 h1 a h d q z 49) := by unfold SRow; kernel_rfl
theorem r50 (w1 w2 i c s k a1 h1 a h d q : Int) (z : Nat → Int) : SRow w1 w2 i c s k (mkI .u8 z 50) 50 (pR3 a1 h1 a h d q) (cR3 w1 w2 i c s k a1 h1 a h d q z 50) := by unfold SRow; kernel_rfl
theorem r51 (w1 w2 i c s k a1 h1 a h d q : Int) (z : Nat → Int) : SRow w1 w2 i c s k (mkI .u8 z 51) 51 (pR3 a1 h1 a h d q) (cR3 w1 w2 i c s k a1 h1 a h d q z 51) := by unfold SRow; kernel_rfl
theorem r52 (w1 w2 i c s k a1 h1 a h d q : Int) (z : Nat → Int) : SRow w1 w2 i c s k (mkI .u8 z 52) 52 (pR3 a1 h1 a h d q) (cR3 w1 w2 i c s k a1 h1 a h d q z 52) := by unfold SRow; kernel_rfl
theorem r53 (w1 w2 i c s k a1 h1 a h d q : Int) (z : Nat → Int) : SRow w1 w2 i c s k (mkI .u8 z 53) 53 (pR3 a1 h1 a h d q) (cR3 w1 w2 i c s k a1 h1 a h d q z 53) := by unfold SRow; kernel_rfl
theorem r54 (w1 w2 i c s k a1 h1 a h d q : Int) (z : Nat → Int) : SRow w1 w2 i c s k (mkI .u8 z 54) 54 (pR3 a1 h1 a h d q) (cR3 w1 w2 i c s k a1 h1 a h d q z 54) := by unfold SRow; kernel_rfl
theorem r55 (w1 w2 i c s k a1 h1 a h d q : Int) (z : Nat → Int) : SRow w1 w2 i c s k (mkI .u8 z 55) 55 (pR3 a1 h1 a h d q) (cR3 w1 w2 i c s k a1 h1 a h d q z 55) := by unfold SRow; kernel_rfl
theorem r56 (w1 w2 i c s k a1 h1 a h d q : Int) (z : Nat → Int) : SRow w1 w2 i c s k (mkI .u8 z 56) 56 (pR3 a1 h1 a h d q) (cR3 w1 w2 i c s k a1 h1 a h d q z 56) := by unfold SRow; kernel_rfl
theorem r57 (w1 w2 i c s k a1 h1 a h d q : Int) (z : Nat → Int) : SRow w1 w2 i c s k (mkI .u8 z 57) 57 (pR3 a1 h1 a h d q) (cR3 w1 w2 i c s k a1 h1 a h d q z 57) := by unfold SRow; kernel_rfl
theorem r58 (w1 w2 i c s k a1 h1 a h d q : Int) (z : Nat → Int) : SRow w1 w2 i c s k (mkI .u8 z 58) 58 (pR3 a1 h1 a h d q) (cR3 w1 w2 i c s k a1 h1 a h d q z 58) := by unfold SRow; kernel_rfl
theorem r59 (w1 w2 i c s k a1 h1 a h d q : Int) (z : Nat → Int) : SRow w1 w2 i c s k (mkI .u8 z 59) 59 (pR3 a1 h1 a h d q) (cR3 w1 w2 i c s k a1 h1 a h d q z 59) := by unfold SRow; kernel_rfl
theorem r60 (w1 w2 i c s k a1 h1 a h d q : Int) (z : Nat → Int) : SRow w1 w2 i c s k (mkI .u8 z 60) 60 (pR3 a1 h1 a h d q) (cR3 w1 w2 i c s k a1 h1 a h d q z 60) := by unfold SRow; kernel_rfl
theorem r61 (w1 w2 i c s k a1 h1 a h d q : Int) (z : Nat → Int) : SRow w1 w2 i c s k (mkI .u8 z 61) 61 (pR3 a1 h1 a h d q) (cR3 w1 w2 i c s k a1 h1 a h d q z 61) := by unfold SRow; kernel_rfl
theorem r62 (w1 w2 i c s k a1 h1 a h d q : Int) (z : Nat → Int) : SRow w1 w2 i c s k (mkI .u8 z 62) 62 (pR3 a1 h1 a h d q) (cR3 w1 w2 i c s k a1 h1 a h d q z 62) := by unfold SRow; kernel_rfl
theorem r63 (w1 w2 i c s k a1 h1 a h d q : Int) (z : Nat → Int) : SRow w1 w2 i c s k (mkI .u8 z 63) 63 (pR3 a1 h1 a h d q) (cR3 w1 w2 i c s k a1 h1 a h d q z 63) := by unfold SRow; kernel_rfl
theorem r64 (w1 w2 i c s k a1 h1 a h d q : Int) (z : Nat → Int) : SRow w1 w2 i c s k (mkI .u8 z 64) 64 (pR3 a1 h1 a h d q) (cR3 w1 w2 i c s k a1 h1 a h d q z 64) := by unfold SRow; kernel_rfl
theorem r65 (w1 w2 i c s k a1 h1 a h d q : Int) (z : Nat → Int) : SRow w1 w2 i c s k (mkI .u8 z 65) 65 (pR3 a1 h1 a h d q) (cR3 w1 w2 i c s k a1 h1 a h d q z 65) := by unfold SRow; kernel_rfl
theorem r66 (w1 w2 i c s k a1 h1 a h d q : Int) (z : Nat → Int) : SRow w1 w2 i c s k (mkI .u8 z 66) 66 (pR3 a1 h1 a h d q) (cR3 w1 w2 i c s k a1 h1 a h d q z 66) := by unfold SRow; kernel_rfl
theorem r67 (w1 w2 i c s k a1 h1 a h d q : Int) (z : Nat → Int) : SRow w1 w2 i c s k (mkI .u8 z 67) 67 (pR3 a1 h1 a h d q) (cR3 w1 w2 i c s k a1 h1 a h d q z 67) := by unfold SRow; kernel_rfl
theorem r68 (w1 w2 i c s k a1 h1 a h d q : Int) (z : Nat → Int) : SRow w1 w2 i c s k (mkI .u8 z 68) 68 (pR3 a1 h1 a h d q) (cR3 w1 w2 i c s k a1 h1 a h d q z 68) := by unfold SRow; kernel_rfl
theorem r69 (w1 w2 i c s k a1 h1 a h d q : Int) (z : Nat → Int) : SRow w1 w2 i c s k (mkI .u8 z 69) 69 (pR3 a1 h1 a h d q) (cR3 w1 w2 i c s k a1 h1 a h d q z 69) := by unfold SRow; kernel_rfl
theorem r70 (w1 w2 i c s k a1 h1 a h d q : Int) (z : Nat → Int) : SRow w1 w2 i c s k (mkI .u8 z 70) 70 (pR3 a1 h1 a h d q) (cR3 w1 w2 i c s k a1 h1 a h d q z 70) := by unfold SRow; kernel_rfl
theorem r71 (w1 w2 i c s k a1 h1 a h d q : Int) (z : Nat → Int) : SRow w1 w2 i c s k (mkI .u8 z 71) 71 (pR3 a1 h1 a h d q) (cR3 w1 w2 i c s k a1 h1 a h d q z 71) := by unfold SRow; kernel_rfl
theorem r72 (w1 w2 i c s k a1 h1 a h d q : Int) (z : Nat → Int) : SRow w1 w2 i c s k (mkI .u8 z 72) 72 (pR3 a1 h1 a h d q) (cR3 w1 w2 i c s k a1 h1 a h d q z 72) := by unfold SRow; kernel_rfl
end OpenBack
end Go.Proofs.Ytajokgjebffkgaa
