/- OpenBack: up to forty bytes. -/
import Derived.Test.YtajokgjebffkgaaOb
namespace Go.Proofs.Ytajokgjebffkgaa
open Go Go.Ev Go.RowKit
set_option maxRecDepth 100000
namespace OpenBack
theorem r1 (w1 w2 i c s k a1 h1 a h d q : Int) (z : Nat → Int) : SRow w1 w2 i c s k (mkI .u8 z 1) 1 (pR3 a1 h1 a h d q) (cR3 w1 w2 i c s k a1 h1 a h d q z 1) := by unfold SRow; kernel_rfl
theorem r2 (w1 w2 i c s k a1 h1 a h d q : Int) (z : Nat → Int) : SRow w1 w2 i c s k (mkI .u8 z 2) 2 (pR3 a1 h1 a h d q) (cR3 w1 w2 i c s k a1 h1 a h d q z 2) := by unfold SRow; kernel_rfl
theorem r3 (w1 w2 i c s k a1 h1 a h d q : Int) (z : Nat → Int) : SRow w1 w2 i c s k (mkI .u8 z 3) 3 (pR3 a1 h1 a h d q) (cR3 w1 w2 i c s k a1 h1 a h d q z 3) := by unfold SRow; kernel_rfl
theorem r4 (w1 w2 i c s k a1 h1 a h d q : Int) (z : Nat → Int) : SRow w1 w2 i c s k (mkI .u8 z 4) 4 (pR3 a1 h1 a h d q) (cR3 w1 w2 i c s k a1 h1 a h d q z 4) := by unfold SRow; kernel_rfl
theorem r5 (w1 w2 i c s k a1 h1 a h d q : Int) (z : Nat → Int) : SRow w1 w2 i c s k (mkI .u8 z 5) 5 (pR3 a1 h1 a h d q) (cR3 w1 w2 i c s k a1 h1 a h d q z 5) := by unfold SRow; kernel_rfl
theorem r6 (w1 w2 i c s k a1 h1 a h d q : Int) (z : Nat → Int) : SRow w1 w2 i c s k (mkI .u8 z 6) 6 (pR3 a1 h1 a h d q) (cR3 w1 w2 i c s k a1 h1 a h d q z 6) := by unfold SRow; kernel_rfl
theorem r7 (w1 w2 i c s k a1 h1 a h d q : Int) (z : Nat → Int) : SRow w1 w2 i c s k (mkI .u8 z 7) 7 (pR3 a1 h1 a h d q) (cR3 w1 w2 i c s k a1 h1 a h d q z 7) := by unfold SRow; kernel_rfl
theorem r8 (w1 w2 i c s k a1 h1 a h d q : Int) (z : Nat → Int) : SRow w1 w2 i c s k (mkI .u8 z 8) 8 (pR3 a1 h1 a h d q) (cR3 w1 w2 i c s k a1 h1 a h d q z 8) := by unfold SRow; kernel_rfl
theorem r9 (w1 w2 i c s k a1 h1 a h d q : Int) (z : Nat → Int) : SRow w1 w2 i c s k (mkI .u8 z 9) 9 (pR3 a1 h1 a h d q) (cR3 w1 w2 i c s k a1 h1 a h d q z 9) := by unfold SRow; kernel_rfl
theorem r10 (w1 w2 i c s k a1 h1 a h d q : Int) (z : Nat → Int) : SRow w1 w2 i c s k (mkI .u8 z 10) 10 (pR3 a1 h1 a h d q) (cR3 w1 w2 i c s k a1 h1 a h d q z 10) := by unfold SRow; kernel_rfl
theorem r11 (w1 w2 i c s k a1 h1 a h d q : Int) (z : Nat → Int) : SRow w1 w2 i c s k (mkI .u8 z 11) 11 (pR3 a1 h1 a h d q) (cR3 w1 w2 i c s k a1 h1 a h d q z 11) := by unfold SRow; kernel_rfl
theorem r12 (w1 w2 i c s k a1 h1 a h d q : Int) (z : Nat → Int) : SRow w1 w2 i c s k (mkI .u8 z 12) 12 (pR3 a1 h1 a h d q) (cR3 w1 w2 i c s k a1 h1 a h d q z 12) := by unfold SRow; kernel_rfl
theorem r13 (w1 w2 i c s k a1 h1 a h d q : Int) (z : Nat → Int) : SRow w1 w2 i c s k (mkI .u8 z 13) 13 (pR3 a1 h1 a h d q) (cR3 w1 w2 i c s k a1 h1 a h d q z 13) := by unfold SRow; kernel_rfl
theorem r14 (w1 w2 i c s k a1 h1 a h d q : Int) (z : Nat → Int) : SRow w1 w2 i c s k (mkI .u8 z 14) 14 (pR3 a1 h1 a h d q) (cR3 w1 w2 i c s k a1 h1 a h d q z 14) := by unfold SRow; kernel_rfl
theorem r15 (w1 w2 i c s k a1 h1 a h d q : Int) (z : Nat → Int) : SRow w1 w2 i c s k (mkI .u8 z 15) 15 (pR3 a1 h1 a h d q) (cR3 w1 w2 i c s k a1 h1 a h d q z 15) := by unfold SRow; kernel_rfl
theorem r16 (w1 w2 i c s k a1 h1 a h d q : Int) (z : Nat → Int) : SRow w1 w2 i c s k (mkI .u8 z 16) 16 (pR3 a1 h1 a h d q) (cR3 w1 w2 i c s k a1 h1 a h d q z 16) := by unfold SRow; kernel_rfl
theorem r17 (w1 w2 i c s k a1 h1 a h d q : Int) (z : Nat → Int) : SRow w1 w2 i c s k (mkI .u8 z 17) 17 (pR3 a1 h1 a h d q) (cR3 w1 w2 i c s k a1 h1 a h d q z 17) := by unfold SRow; kernel_rfl
theorem r18 (w1 w2 i c s k a1 h1 a h d q : Int) (z : Nat → Int) : SRow w1 w2 i c s k (mkI .u8 z 18) 18 (pR3 a1 h1 a h d q) (cR3 w1 w2 i c s k a1 h1 a h d q z 18) := by unfold SRow; kernel_rfl
theorem r19 (w1 w2 i c s k a1 h1 a h d q : Int) (z : Nat → Int) : SRow w1 w2 i c s k (mkI .u8 z 19) 19 (pR3 a1 h1 a h d q) (cR3 w1 w2 i c s k a1 h1 a h d q z 19) := by unfold SRow; kernel_rfl
theorem r20 (w1 w2 i c s k a1 h1 a h d q : Int) (z : Nat → Int) : SRow w1 w2 i c s k (mkI .u8 z 20) 20 (pR3 a1 h1 a h d q) (cR3 w1 w2 i c s k a1 h1 a h d q z 20) := by unfold SRow; kernel_rfl
theorem r21 (w1 w2 i c s k a1 h1 a h d q : Int) (z : Nat → Int) : SRow w1 w2 i c s k (mkI .u8 z 21) 21 (pR3 a1 h1 a h d q) (cR3 w1 w2 i c s k a1 h1 a h d q z 21) := by unfold SRow; kernel_rfl
theorem r22 (w1 w2 i c s k a1 h1 a h d q : Int) (z : Nat → Int) : SRow w1 w2 i c s k (mkI .u8 z 22) 22 (pR3 a1 h1 a h d q) (cR3 w1 w2 i c s k a1 h1 a h d q z 22) := by unfold SRow; kernel_rfl
theorem r23 (w1 w2 i c s k a1 h1 a h d q : Int) (z : Nat → Int) : SRow w1 w2 i c s k (mkI .u8 z 23) 23 (pR3 a1 h1 a h d q) (cR3 w1 w2 i c s k a1 h1 a h d q z 23) := by unfold SRow; kernel_rfl
theorem r24 (w1 w2 i c s k a1 h1 a h d q : Int) (z : Nat → Int) : SRow w1 w2 i c s k (mkI .u8 z 24) 24 (pR3 a1 h1 a h d q) (cR3 w1 w2 i c s k a1 h1 a h d q z 24) := by unfold SRow; kernel_rfl
theorem r25 (w1 w2 i c s k a1 h1 a h d q : Int) (z : Nat → Int) : SRow w1 w2 i c s k (mkI .u8 z 25) 25 (pR3 a1 h1 a h d q) (cR3 w1 w2 i c s k a1 h1 a h d q z 25) := by unfold SRow; kernel_rfl
theorem r26 (w1 w2 i c s k a1 h1 a h d q : Int) (z : Nat → Int) : SRow w1 w2 i c s k (mkI .u8 z 26) 26 (pR3 a1 h1 a h d q) (cR3 w1 w2 i c s k a1 h1 a h d q z 26) := by unfold SRow; kernel_rfl
theorem r27 (w1 w2 i c s k a1 h1 a h d q : Int) (z : Nat → Int) : SRow w1 w2 i c s k (mkI .u8 z 27) 27 (pR3 a1 h1 a h d q) (cR3 w1 w2 i c s k a1 h1 a h d q z 27) := by unfold SRow; kernel_rfl
theorem r28 (w1 w2 i c s k a1 h1 a h d q : Int) (z : Nat → Int) : SRow w1 w2 i c s k (mkI .u8 z 28) 28 (pR3 a1 h1 a h d q) (cR3 w1 w2 i c s k a1 h1 a h d q z 28) := by unfold SRow; kernel_rfl
theorem r29 (w1 w2 i c s k a1 h1 a h d q : Int) (z : Nat → Int) : SRow w1 w2 i c s k (mkI .u8 z 29) 29 (pR3 a1 h1 a h d q) (cR3 w1 w2 i c s k a1 h1 a h d q z 29) := by unfold SRow; kernel_rfl
theorem r30 (w1 w2 i c s k a1 h1 a h d q : Int) (z : Nat → Int) : SRow w1 w2 i c s k (mkI .u8 z 30) 30 (pR3 a1 h1 a h d q) (cR3 w1 w2 i c s k a1 h1 a h d q z 30) := by unfold SRow; kernel_rfl
theorem r31 (w1 w2 i c s k a1 h1 a h d q : Int) (z : Nat → Int) : SRow w1 w2 i c s k (mkI .u8 z 31) 31 (pR3 a1 h1 a h d q) (cR3 w1 w2 i c s k a1 h1 a h d q z 31) := by unfold SRow; kernel_rfl
theorem r32 (w1 w2 i c s k a1 h1 a h d q : Int) (z : Nat → Int) : SRow w1 w2 i c s k (mkI .u8 z 32) 32 (pR3 a1 h1 a h d q) (cR3 w1 w2 i c s k a1 h1 a h d q z 32) := by unfold SRow; kernel_rfl
theorem r33 (w1 w2 i c s k a1 h1 a h d q : Int) (z : Nat → Int) : SRow w1 w2 i c s k (mkI .u8 z 33) 33 (pR3 a1 h1 a h d q) (cR3 w1 w2 i c s k a1 h1 a h d q z 33) := by unfold SRow; kernel_rfl
theorem r34 (w1 w2 i c s k a1 h1 a h d q : Int) (z : Nat → Int) : SRow w1 w2 i c s k (mkI .u8 z 34) 34 (pR3 a1 h1 a h d q) (cR3 w1 w2 i c s k a1 h1 a h d q z 34) := by unfold SRow; kernel_rfl
theorem r35 (w1 w2 i c s k a1 h1 a h d q : Int) (z : Nat → Int) : SRow w1 w2 i c s k (mkI .u8 z 35) 35 (pR3 a1 h1 a h d q) (cR3 w1 w2 i c s k a1 h1 a h d q z 35) := by unfold SRow; kernel_rfl
theorem r36 (w1 w2 i c s k a1 h1 a h d q : Int) (z : Nat → Int) : SRow w1 w2 i c s k (mkI .u8 z 36) 36 (pR3 a1 h1 a h d q) (cR3 w1 w2 i c s k a1 h1 a h d q z 36) := by unfold SRow; kernel_rfl
theorem r37 (w1 w2 i c s k a1 h1 a h d q : Int) (z : Nat → Int) : SRow w1 w2 i c s k (mkI .u8 z 37) 37 (pR3 a1 h1 a h d q) (cR3 w1 w2 i c s k a1 h1 a h d q z 37) := by unfold SRow; kernel_rfl
theorem r38 (w1 w2 i c s k a1 h1 a h d q : Int) (z : Nat → Int) : SRow w1 w2 i c s k (mkI .u8 z 38) 38 (pR3 a1 h1 a h d q) (cR3 w1 w2 i c s k a1 h1 a h d q z 38) := by unfold SRow; kernel_rfl
theorem r39 (w1 w2 i c s k a1 h1 a h d q : Int) (z : Nat → Int) : SRow w1 w2 i c s k (mkI .u8 z 39) 39 (pR3 a1 h1 a h d q) (cR3 w1 w2 i c s k a1 h1 a h d q z 39) := by unfold SRow; kernel_rfl
theorem r40 (w1 w2 i c s k a1 h1 a h d q : Int) (z : Nat → Int) : SRow w1 w2 i c s k (mkI .u8 z 40) 40 (pR3 a1 h1 a h d q) (cR3 w1 w2 i c s k a1 h1 a h d q z 40) := by unfold SRow; kernel_rfl
end OpenBack
end Go.Proofs.Ytajokgjebffkgaa
