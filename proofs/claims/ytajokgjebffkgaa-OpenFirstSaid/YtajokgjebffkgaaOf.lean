/- P10.1, R8: of several things that may not be, the first one is told: OpenFirst's ways. -/
import Derived.Test.YtajokgjebffkgaaBa
import Derived.Test.YtajokgjebffkgaaEvR
namespace Go.Proofs.Ytajokgjebffkgaa
open Go Go.Ev Go.RowKit
set_option maxRecDepth 100000
namespace OpenFirst
theorem known_run : runTrue Try.prog noEnv 200 34 #[] Try.prog.globals.size = true := by kernel_rfl
theorem known_sum : PureSum Try.prog 34 trueG := .of_calls Try.func34 (by kernel_rfl) rfl fun args p v h _ _ => by
  obtain ⟨rfl, rfl⟩ := trueG_args h
  exact ⟨rfl, fun W => calls_true noEnv_sound good Try.func34 rfl known_run rfl W⟩
def E1 : Env := pureEnv [(13, withinG), (34, trueG)]
theorem E1_sound : E1.Sound Try.prog := pureEnv_sound ⟨within_sum, known_sum, trivial⟩
def path (k : Nat) : List Ans := [.reck 0, .as (.int .i64 k), .reck 1000]
def wC (w : Int) (k : Nat) : Prop := Value.int .i64 (withinV w 0 6) = Value.int .i64 k
def NRow (w : Int) (k : Nat) : Prop := evRunR Try.prog E1 200 7 [.int .i64 w, .slice none 0 0] Try.prog.globals.size [] (some (path k)) = some (.bool true, [wC w k])
def SRow (w : Int) (z : Nat → Int) (L k : Nat) : Prop := evRunR Try.prog E1 200 7 ([.int .i64 w] ++ .slice (some ⟨Try.prog.globals.size, 0, none⟩) L 0 :: []) Try.prog.globals.size [mkI .u8 z L] (some (path k)) = some (.bool true, [wC w k])
def capB (z : Nat → Int) (rest : List Value) : Bool := decide ((0 : Int) ≤ 20 ∧ (20 : Int) ≤ ((((⟨mkI .u8 z 21 ++ rest⟩ : Array Value).size - 0) / 1 : Nat) : Int))
def LRow (w : Int) (z : Nat → Int) (rest : List Value) (n k : Nat) : Prop := evRunR Try.prog E1 200 7 ([.int .i64 w] ++ .slice (some ⟨Try.prog.globals.size, 0, none⟩) n 0 :: []) Try.prog.globals.size [mkI .u8 z 21 ++ rest] (some [.reck 0, .as (.int .i64 k), .bit true, .bit true, .reck 1000]) = some (.bool true, [capB z rest = true, decide (((n : Nat) : Int) > 20) = true, wC w k])
theorem n0 (w : Int) : NRow w 0 := by unfold NRow; kernel_rfl
theorem l0 (w : Int) (z : Nat → Int) (rest : List Value) (n : Nat) : LRow w z rest n 0 := by unfold LRow; kernel_rfl
theorem n1 (w : Int) : NRow w 1 := by unfold NRow; kernel_rfl
theorem l1 (w : Int) (z : Nat → Int) (rest : List Value) (n : Nat) : LRow w z rest n 1 := by unfold LRow; kernel_rfl
theorem n2 (w : Int) : NRow w 2 := by unfold NRow; kernel_rfl
theorem l2 (w : Int) (z : Nat → Int) (rest : List Value) (n : Nat) : LRow w z rest n 2 := by unfold LRow; kernel_rfl
theorem n3 (w : Int) : NRow w 3 := by unfold NRow; kernel_rfl
theorem l3 (w : Int) (z : Nat → Int) (rest : List Value) (n : Nat) : LRow w z rest n 3 := by unfold LRow; kernel_rfl
theorem n4 (w : Int) : NRow w 4 := by unfold NRow; kernel_rfl
theorem l4 (w : Int) (z : Nat → Int) (rest : List Value) (n : Nat) : LRow w z rest n 4 := by unfold LRow; kernel_rfl
theorem n5 (w : Int) : NRow w 5 := by unfold NRow; kernel_rfl
theorem l5 (w : Int) (z : Nat → Int) (rest : List Value) (n : Nat) : LRow w z rest n 5 := by unfold LRow; kernel_rfl
theorem n6 (w : Int) : NRow w 6 := by unfold NRow; kernel_rfl
theorem l6 (w : Int) (z : Nat → Int) (rest : List Value) (n : Nat) : LRow w z rest n 6 := by unfold LRow; kernel_rfl
theorem s0_0 (w : Int) (z : Nat → Int) : SRow w z 0 0 := by unfold SRow; kernel_rfl
theorem s0_1 (w : Int) (z : Nat → Int) : SRow w z 1 0 := by unfold SRow; kernel_rfl
theorem s0_2 (w : Int) (z : Nat → Int) : SRow w z 2 0 := by unfold SRow; kernel_rfl
theorem s0_3 (w : Int) (z : Nat → Int) : SRow w z 3 0 := by unfold SRow; kernel_rfl
theorem s0_4 (w : Int) (z : Nat → Int) : SRow w z 4 0 := by unfold SRow; kernel_rfl
theorem s0_5 (w : Int) (z : Nat → Int) : SRow w z 5 0 := by unfold SRow; kernel_rfl
theorem s0_6 (w : Int) (z : Nat → Int) : SRow w z 6 0 := by unfold SRow; kernel_rfl
theorem s0_7 (w : Int) (z : Nat → Int) : SRow w z 7 0 := by unfold SRow; kernel_rfl
theorem s0_8 (w : Int) (z : Nat → Int) : SRow w z 8 0 := by unfold SRow; kernel_rfl
theorem s0_9 (w : Int) (z : Nat → Int) : SRow w z 9 0 := by unfold SRow; kernel_rfl
theorem s0_10 (w : Int) (z : Nat → Int) : SRow w z 10 0 := by unfold SRow; kernel_rfl
theorem s0_11 (w : Int) (z : Nat → Int) : SRow w z 11 0 := by unfold SRow; kernel_rfl
theorem s0_12 (w : Int) (z : Nat → Int) : SRow w z 12 0 := by unfold SRow; kernel_rfl
theorem s0_13 (w : Int) (z : Nat → Int) : SRow w z 13 0 := by unfold SRow; kernel_rfl
theorem s0_14 (w : Int) (z : Nat → Int) : SRow w z 14 0 := by unfold SRow; kernel_rfl
theorem s0_15 (w : Int) (z : Nat → Int) : SRow w z 15 0 := by unfold SRow; kernel_rfl
theorem s0_16 (w : Int) (z : Nat → Int) : SRow w z 16 0 := by unfold SRow; kernel_rfl
theorem s0_17 (w : Int) (z : Nat → Int) : SRow w z 17 0 := by unfold SRow; kernel_rfl
theorem s0_18 (w : Int) (z : Nat → Int) : SRow w z 18 0 := by unfold SRow; kernel_rfl
theorem s0_19 (w : Int) (z : Nat → Int) : SRow w z 19 0 := by unfold SRow; kernel_rfl
theorem s0_20 (w : Int) (z : Nat → Int) : SRow w z 20 0 := by unfold SRow; kernel_rfl
theorem s1_0 (w : Int) (z : Nat → Int) : SRow w z 0 1 := by unfold SRow; kernel_rfl
theorem s1_1 (w : Int) (z : Nat → Int) : SRow w z 1 1 := by unfold SRow; kernel_rfl
theorem s1_2 (w : Int) (z : Nat → Int) : SRow w z 2 1 := by unfold SRow; kernel_rfl
theorem s1_3 (w : Int) (z : Nat → Int) : SRow w z 3 1 := by unfold SRow; kernel_rfl
theorem s1_4 (w : Int) (z : Nat → Int) : SRow w z 4 1 := by unfold SRow; kernel_rfl
theorem s1_5 (w : Int) (z : Nat → Int) : SRow w z 5 1 := by unfold SRow; kernel_rfl
theorem s1_6 (w : Int) (z : Nat → Int) : SRow w z 6 1 := by unfold SRow; kernel_rfl
theorem s1_7 (w : Int) (z : Nat → Int) : SRow w z 7 1 := by unfold SRow; kernel_rfl
theorem s1_8 (w : Int) (z : Nat → Int) : SRow w z 8 1 := by unfold SRow; kernel_rfl
theorem s1_9 (w : Int) (z : Nat → Int) : SRow w z 9 1 := by unfold SRow; kernel_rfl
theorem s1_10 (w : Int) (z : Nat → Int) : SRow w z 10 1 := by unfold SRow; kernel_rfl
theorem s1_11 (w : Int) (z : Nat → Int) : SRow w z 11 1 := by unfold SRow; kernel_rfl
theorem s1_12 (w : Int) (z : Nat → Int) : SRow w z 12 1 := by unfold SRow; kernel_rfl
theorem s1_13 (w : Int) (z : Nat → Int) : SRow w z 13 1 := by unfold SRow; kernel_rfl
theorem s1_14 (w : Int) (z : Nat → Int) : SRow w z 14 1 := by unfold SRow; kernel_rfl
theorem s1_15 (w : Int) (z : Nat → Int) : SRow w z 15 1 := by unfold SRow; kernel_rfl
theorem s1_16 (w : Int) (z : Nat → Int) : SRow w z 16 1 := by unfold SRow; kernel_rfl
theorem s1_17 (w : Int) (z : Nat → Int) : SRow w z 17 1 := by unfold SRow; kernel_rfl
theorem s1_18 (w : Int) (z : Nat → Int) : SRow w z 18 1 := by unfold SRow; kernel_rfl
theorem s1_19 (w : Int) (z : Nat → Int) : SRow w z 19 1 := by unfold SRow; kernel_rfl
theorem s1_20 (w : Int) (z : Nat → Int) : SRow w z 20 1 := by unfold SRow; kernel_rfl
theorem s2_0 (w : Int) (z : Nat → Int) : SRow w z 0 2 := by unfold SRow; kernel_rfl
theorem s2_1 (w : Int) (z : Nat → Int) : SRow w z 1 2 := by unfold SRow; kernel_rfl
theorem s2_2 (w : Int) (z : Nat → Int) : SRow w z 2 2 := by unfold SRow; kernel_rfl
theorem s2_3 (w : Int) (z : Nat → Int) : SRow w z 3 2 := by unfold SRow; kernel_rfl
theorem s2_4 (w : Int) (z : Nat → Int) : SRow w z 4 2 := by unfold SRow; kernel_rfl
theorem s2_5 (w : Int) (z : Nat → Int) : SRow w z 5 2 := by unfold SRow; kernel_rfl
theorem s2_6 (w : Int) (z : Nat → Int) : SRow w z 6 2 := by unfold SRow; kernel_rfl
theorem s2_7 (w : Int) (z : Nat → Int) : SRow w z 7 2 := by unfold SRow; kernel_rfl
theorem s2_8 (w : Int) (z : Nat → Int) : SRow w z 8 2 := by unfold SRow; kernel_rfl
theorem s2_9 (w : Int) (z : Nat → Int) : SRow w z 9 2 := by unfold SRow; kernel_rfl
theorem s2_10 (w : Int) (z : Nat → Int) : SRow w z 10 2 := by unfold SRow; kernel_rfl
theorem s2_11 (w : Int) (z : Nat → Int) : SRow w z 11 2 := by unfold SRow; kernel_rfl
theorem s2_12 (w : Int) (z : Nat → Int) : SRow w z 12 2 := by unfold SRow; kernel_rfl
theorem s2_13 (w : Int) (z : Nat → Int) : SRow w z 13 2 := by unfold SRow; kernel_rfl
theorem s2_14 (w : Int) (z : Nat → Int) : SRow w z 14 2 := by unfold SRow; kernel_rfl
theorem s2_15 (w : Int) (z : Nat → Int) : SRow w z 15 2 := by unfold SRow; kernel_rfl
theorem s2_16 (w : Int) (z : Nat → Int) : SRow w z 16 2 := by unfold SRow; kernel_rfl
theorem s2_17 (w : Int) (z : Nat → Int) : SRow w z 17 2 := by unfold SRow; kernel_rfl
theorem s2_18 (w : Int) (z : Nat → Int) : SRow w z 18 2 := by unfold SRow; kernel_rfl
theorem s2_19 (w : Int) (z : Nat → Int) : SRow w z 19 2 := by unfold SRow; kernel_rfl
theorem s2_20 (w : Int) (z : Nat → Int) : SRow w z 20 2 := by unfold SRow; kernel_rfl
theorem s3_0 (w : Int) (z : Nat → Int) : SRow w z 0 3 := by unfold SRow; kernel_rfl
theorem s3_1 (w : Int) (z : Nat → Int) : SRow w z 1 3 := by unfold SRow; kernel_rfl
theorem s3_2 (w : Int) (z : Nat → Int) : SRow w z 2 3 := by unfold SRow; kernel_rfl
theorem s3_3 (w : Int) (z : Nat → Int) : SRow w z 3 3 := by unfold SRow; kernel_rfl
theorem s3_4 (w : Int) (z : Nat → Int) : SRow w z 4 3 := by unfold SRow; kernel_rfl
theorem s3_5 (w : Int) (z : Nat → Int) : SRow w z 5 3 := by unfold SRow; kernel_rfl
theorem s3_6 (w : Int) (z : Nat → Int) : SRow w z 6 3 := by unfold SRow; kernel_rfl
theorem s3_7 (w : Int) (z : Nat → Int) : SRow w z 7 3 := by unfold SRow; kernel_rfl
theorem s3_8 (w : Int) (z : Nat → Int) : SRow w z 8 3 := by unfold SRow; kernel_rfl
theorem s3_9 (w : Int) (z : Nat → Int) : SRow w z 9 3 := by unfold SRow; kernel_rfl
theorem s3_10 (w : Int) (z : Nat → Int) : SRow w z 10 3 := by unfold SRow; kernel_rfl
theorem s3_11 (w : Int) (z : Nat → Int) : SRow w z 11 3 := by unfold SRow; kernel_rfl
theorem s3_12 (w : Int) (z : Nat → Int) : SRow w z 12 3 := by unfold SRow; kernel_rfl
theorem s3_13 (w : Int) (z : Nat → Int) : SRow w z 13 3 := by unfold SRow; kernel_rfl
theorem s3_14 (w : Int) (z : Nat → Int) : SRow w z 14 3 := by unfold SRow; kernel_rfl
theorem s3_15 (w : Int) (z : Nat → Int) : SRow w z 15 3 := by unfold SRow; kernel_rfl
theorem s3_16 (w : Int) (z : Nat → Int) : SRow w z 16 3 := by unfold SRow; kernel_rfl
theorem s3_17 (w : Int) (z : Nat → Int) : SRow w z 17 3 := by unfold SRow; kernel_rfl
theorem s3_18 (w : Int) (z : Nat → Int) : SRow w z 18 3 := by unfold SRow; kernel_rfl
theorem s3_19 (w : Int) (z : Nat → Int) : SRow w z 19 3 := by unfold SRow; kernel_rfl
theorem s3_20 (w : Int) (z : Nat → Int) : SRow w z 20 3 := by unfold SRow; kernel_rfl
end OpenFirst
end Go.Proofs.Ytajokgjebffkgaa
