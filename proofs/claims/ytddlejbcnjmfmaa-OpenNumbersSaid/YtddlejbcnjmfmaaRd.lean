/- P10.1: any bytes are read as the document says: the ways of 'read', where more than ten bytes are handed in. -/
import Derived.Test.YtddlejbcnjmfmaaBa
import Derived.Test.YtddlejbcnjmfmaaEvR
namespace Go.Proofs.Ytddlejbcnjmfmaa
open Go Go.Ev Go.RowKit
set_option maxRecDepth 100000
namespace OpenRead
def sN (n x : Int) : Int := (((wrapF .u32 (n * ((2 ^ 8 : Nat) : Int))).toNat ||| (wrapF .u32 x).toNat : Nat) : Int)
def ff (n x : Int) : Bool := fitsU .u32 (wrapF .u32 (n * ((2 ^ 8 : Nat) : Int))) && fitsU .u32 (wrapF .u32 x)
def v1 (z : Nat → Int) (i : Nat) : Int := wrapF .i64 (sN 0 (z i))
def verC (z : Nat → Int) (b : Bool) : Prop := (!decide (v1 z 0 = 4)) = b
def optC (z : Nat → Int) (L : Nat) (b : Bool) : Prop := (!decide (v1 z 9 = wrapF .i64 ((L : Int) - 10))) = b
def moreC (z : Nat → Int) (b : Bool) : Prop := decide (v1 z 9 > 0) = b
def bodyC (z : Nat → Int) (c : List Prop) : List Prop :=
  (ff 0 (z 9) = true) :: (ff (sN (sN (sN 0 (z 5)) (z 6)) (z 7)) (z 8) = true) :: (ff (sN (sN 0 (z 5)) (z 6)) (z 7) = true) :: (ff (sN 0 (z 5)) (z 6) = true) :: (ff 0 (z 5) = true) ::
  (ff (sN 0 (z 3)) (z 4) = true) :: (ff 0 (z 3) = true) :: (ff (sN 0 (z 1)) (z 2) = true) :: (ff 0 (z 1) = true) :: (verC z false) :: (ff 0 (z 0) = true) :: c
def cV (z : Nat → Int) : List Prop := [verC z true, ff 0 (z 0) = true, verC z true, ff 0 (z 0) = true]
def cO (z : Nat → Int) (L : Nat) : List Prop := optC z L true :: bodyC z (optC z L true :: bodyC z [])
def cP (z : Nat → Int) (L : Nat) : List Prop := moreC z true :: optC z L false :: bodyC z (moreC z true :: optC z L false :: bodyC z [])
def SRow (cells : List Value) (n : Nat) (π : List Ans) (cs : List Prop) : Prop := evRunR Try.prog noEnv 200 52 ([] ++ .slice (some ⟨Try.prog.globals.size, 0, none⟩) n 0 :: []) Try.prog.globals.size [cells] (some π) = some (.bool true, cs)
def pV : List Ans := [.reck 16, .bit true, .reck 0, .bit true, .reck 22, .bit true, .reck 0, .bit true, .reck 35]
def pO : List Ans := [.reck 16, .bit true, .reck 0, .bit false, .reck 10, .bit true, .reck 2, .bit true, .reck 11, .bit true, .reck 2, .bit true, .reck 11, .bit true, .reck 2, .bit true, .reck 2, .bit true, .reck 2, .bit true, .reck 12, .bit true, .reck 0, .bit true, .reck 20, .bit true, .reck 0, .bit false, .reck 14, .bit true, .reck 2, .bit true, .reck 15, .bit true, .reck 2, .bit true, .reck 15, .bit true, .reck 2, .bit true, .reck 2, .bit true, .reck 2, .bit true, .reck 16, .bit true, .reck 0, .bit true, .reck 35]
def pP : List Ans := [.reck 16, .bit true, .reck 0, .bit false, .reck 10, .bit true, .reck 2, .bit true, .reck 11, .bit true, .reck 2, .bit true, .reck 11, .bit true, .reck 2, .bit true, .reck 2, .bit true, .reck 2, .bit true, .reck 12, .bit true, .reck 0, .bit false, .bit true, .reck 20, .bit true, .reck 0, .bit false, .reck 14, .bit true, .reck 2, .bit true, .reck 15, .bit true, .reck 2, .bit true, .reck 15, .bit true, .reck 2, .bit true, .reck 2, .bit true, .reck 2, .bit true, .reck 16, .bit true, .reck 0, .bit false, .bit true, .reck 35]
def pS : List Ans := [.bit true, .reck 4, .bit true, .reck 35]
theorem short (cells : List Value) (n : Nat) : SRow cells n pS [decide (((n : Nat) : Int) < 10) = true, decide (((n : Nat) : Int) < 10) = true] := by unfold SRow; kernel_rfl
theorem none_run : evRun Try.prog noEnv 200 52 [.slice none 0 0] Try.prog.globals.size none = some (.bool true, []) := by kernel_rfl
theorem v11 (z : Nat → Int) : SRow (mkI .u8 z 11) 11 pV (cV z) := by unfold SRow; kernel_rfl
theorem o11 (z : Nat → Int) : SRow (mkI .u8 z 11) 11 pO (cO z 11) := by unfold SRow; kernel_rfl
theorem p11 (z : Nat → Int) : SRow (mkI .u8 z 11) 11 pP (cP z 11) := by unfold SRow; kernel_rfl
theorem v12 (z : Nat → Int) : SRow (mkI .u8 z 12) 12 pV (cV z) := by unfold SRow; kernel_rfl
theorem o12 (z : Nat → Int) : SRow (mkI .u8 z 12) 12 pO (cO z 12) := by unfold SRow; kernel_rfl
theorem p12 (z : Nat → Int) : SRow (mkI .u8 z 12) 12 pP (cP z 12) := by unfold SRow; kernel_rfl
theorem v13 (z : Nat → Int) : SRow (mkI .u8 z 13) 13 pV (cV z) := by unfold SRow; kernel_rfl
theorem o13 (z : Nat → Int) : SRow (mkI .u8 z 13) 13 pO (cO z 13) := by unfold SRow; kernel_rfl
theorem p13 (z : Nat → Int) : SRow (mkI .u8 z 13) 13 pP (cP z 13) := by unfold SRow; kernel_rfl
theorem v14 (z : Nat → Int) : SRow (mkI .u8 z 14) 14 pV (cV z) := by unfold SRow; kernel_rfl
theorem o14 (z : Nat → Int) : SRow (mkI .u8 z 14) 14 pO (cO z 14) := by unfold SRow; kernel_rfl
theorem p14 (z : Nat → Int) : SRow (mkI .u8 z 14) 14 pP (cP z 14) := by unfold SRow; kernel_rfl
theorem v15 (z : Nat → Int) : SRow (mkI .u8 z 15) 15 pV (cV z) := by unfold SRow; kernel_rfl
theorem o15 (z : Nat → Int) : SRow (mkI .u8 z 15) 15 pO (cO z 15) := by unfold SRow; kernel_rfl
theorem p15 (z : Nat → Int) : SRow (mkI .u8 z 15) 15 pP (cP z 15) := by unfold SRow; kernel_rfl
theorem v16 (z : Nat → Int) : SRow (mkI .u8 z 16) 16 pV (cV z) := by unfold SRow; kernel_rfl
theorem o16 (z : Nat → Int) : SRow (mkI .u8 z 16) 16 pO (cO z 16) := by unfold SRow; kernel_rfl
theorem p16 (z : Nat → Int) : SRow (mkI .u8 z 16) 16 pP (cP z 16) := by unfold SRow; kernel_rfl
theorem v17 (z : Nat → Int) : SRow (mkI .u8 z 17) 17 pV (cV z) := by unfold SRow; kernel_rfl
theorem o17 (z : Nat → Int) : SRow (mkI .u8 z 17) 17 pO (cO z 17) := by unfold SRow; kernel_rfl
theorem p17 (z : Nat → Int) : SRow (mkI .u8 z 17) 17 pP (cP z 17) := by unfold SRow; kernel_rfl
theorem v18 (z : Nat → Int) : SRow (mkI .u8 z 18) 18 pV (cV z) := by unfold SRow; kernel_rfl
theorem o18 (z : Nat → Int) : SRow (mkI .u8 z 18) 18 pO (cO z 18) := by unfold SRow; kernel_rfl
theorem p18 (z : Nat → Int) : SRow (mkI .u8 z 18) 18 pP (cP z 18) := by unfold SRow; kernel_rfl
theorem v19 (z : Nat → Int) : SRow (mkI .u8 z 19) 19 pV (cV z) := by unfold SRow; kernel_rfl
theorem o19 (z : Nat → Int) : SRow (mkI .u8 z 19) 19 pO (cO z 19) := by unfold SRow; kernel_rfl
theorem p19 (z : Nat → Int) : SRow (mkI .u8 z 19) 19 pP (cP z 19) := by unfold SRow; kernel_rfl
theorem v20 (z : Nat → Int) : SRow (mkI .u8 z 20) 20 pV (cV z) := by unfold SRow; kernel_rfl
theorem o20 (z : Nat → Int) : SRow (mkI .u8 z 20) 20 pO (cO z 20) := by unfold SRow; kernel_rfl
theorem p20 (z : Nat → Int) : SRow (mkI .u8 z 20) 20 pP (cP z 20) := by unfold SRow; kernel_rfl
theorem v21 (z : Nat → Int) : SRow (mkI .u8 z 21) 21 pV (cV z) := by unfold SRow; kernel_rfl
theorem o21 (z : Nat → Int) : SRow (mkI .u8 z 21) 21 pO (cO z 21) := by unfold SRow; kernel_rfl
theorem p21 (z : Nat → Int) : SRow (mkI .u8 z 21) 21 pP (cP z 21) := by unfold SRow; kernel_rfl
theorem v22 (z : Nat → Int) : SRow (mkI .u8 z 22) 22 pV (cV z) := by unfold SRow; kernel_rfl
theorem o22 (z : Nat → Int) : SRow (mkI .u8 z 22) 22 pO (cO z 22) := by unfold SRow; kernel_rfl
theorem p22 (z : Nat → Int) : SRow (mkI .u8 z 22) 22 pP (cP z 22) := by unfold SRow; kernel_rfl
theorem v23 (z : Nat → Int) : SRow (mkI .u8 z 23) 23 pV (cV z) := by unfold SRow; kernel_rfl
theorem o23 (z : Nat → Int) : SRow (mkI .u8 z 23) 23 pO (cO z 23) := by unfold SRow; kernel_rfl
theorem p23 (z : Nat → Int) : SRow (mkI .u8 z 23) 23 pP (cP z 23) := by unfold SRow; kernel_rfl
theorem v24 (z : Nat → Int) : SRow (mkI .u8 z 24) 24 pV (cV z) := by unfold SRow; kernel_rfl
theorem o24 (z : Nat → Int) : SRow (mkI .u8 z 24) 24 pO (cO z 24) := by unfold SRow; kernel_rfl
theorem p24 (z : Nat → Int) : SRow (mkI .u8 z 24) 24 pP (cP z 24) := by unfold SRow; kernel_rfl
theorem v25 (z : Nat → Int) : SRow (mkI .u8 z 25) 25 pV (cV z) := by unfold SRow; kernel_rfl
theorem o25 (z : Nat → Int) : SRow (mkI .u8 z 25) 25 pO (cO z 25) := by unfold SRow; kernel_rfl
theorem p25 (z : Nat → Int) : SRow (mkI .u8 z 25) 25 pP (cP z 25) := by unfold SRow; kernel_rfl
theorem v26 (z : Nat → Int) : SRow (mkI .u8 z 26) 26 pV (cV z) := by unfold SRow; kernel_rfl
theorem o26 (z : Nat → Int) : SRow (mkI .u8 z 26) 26 pO (cO z 26) := by unfold SRow; kernel_rfl
theorem p26 (z : Nat → Int) : SRow (mkI .u8 z 26) 26 pP (cP z 26) := by unfold SRow; kernel_rfl
theorem v27 (z : Nat → Int) : SRow (mkI .u8 z 27) 27 pV (cV z) := by unfold SRow; kernel_rfl
theorem o27 (z : Nat → Int) : SRow (mkI .u8 z 27) 27 pO (cO z 27) := by unfold SRow; kernel_rfl
theorem p27 (z : Nat → Int) : SRow (mkI .u8 z 27) 27 pP (cP z 27) := by unfold SRow; kernel_rfl
theorem v28 (z : Nat → Int) : SRow (mkI .u8 z 28) 28 pV (cV z) := by unfold SRow; kernel_rfl
theorem o28 (z : Nat → Int) : SRow (mkI .u8 z 28) 28 pO (cO z 28) := by unfold SRow; kernel_rfl
theorem p28 (z : Nat → Int) : SRow (mkI .u8 z 28) 28 pP (cP z 28) := by unfold SRow; kernel_rfl
theorem v29 (z : Nat → Int) : SRow (mkI .u8 z 29) 29 pV (cV z) := by unfold SRow; kernel_rfl
theorem o29 (z : Nat → Int) : SRow (mkI .u8 z 29) 29 pO (cO z 29) := by unfold SRow; kernel_rfl
theorem p29 (z : Nat → Int) : SRow (mkI .u8 z 29) 29 pP (cP z 29) := by unfold SRow; kernel_rfl
theorem v30 (z : Nat → Int) : SRow (mkI .u8 z 30) 30 pV (cV z) := by unfold SRow; kernel_rfl
theorem o30 (z : Nat → Int) : SRow (mkI .u8 z 30) 30 pO (cO z 30) := by unfold SRow; kernel_rfl
theorem p30 (z : Nat → Int) : SRow (mkI .u8 z 30) 30 pP (cP z 30) := by unfold SRow; kernel_rfl
theorem v31 (z : Nat → Int) : SRow (mkI .u8 z 31) 31 pV (cV z) := by unfold SRow; kernel_rfl
theorem o31 (z : Nat → Int) : SRow (mkI .u8 z 31) 31 pO (cO z 31) := by unfold SRow; kernel_rfl
theorem p31 (z : Nat → Int) : SRow (mkI .u8 z 31) 31 pP (cP z 31) := by unfold SRow; kernel_rfl
end OpenRead
end Go.Proofs.Ytddlejbcnjmfmaa
