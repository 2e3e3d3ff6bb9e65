/- P8.1: what stands beyond a prefix's bits does not matter; where a prefix is cut off, nothing is read: NlriBits' ways. -/
import Derived.Test.YtajokgjebffkgaaPx
namespace Go.Proofs.Ytajokgjebffkgaa
open Go Go.Ev Go.RowKit
set_option maxRecDepth 100000
namespace NlriBits
theorem known_run : runTrue Try.prog noEnv 200 21 #[] Try.prog.globals.size = true := by kernel_rfl
theorem known_sum : PureSum Try.prog 21 trueG := .of_calls Try.func21 (by kernel_rfl) rfl fun args p v h _ _ => by
  obtain ⟨rfl, rfl⟩ := trueG_args h
  exact ⟨rfl, fun W => calls_true noEnv_sound good Try.func21 rfl known_run rfl W⟩
def Enb : Env := pureEnv [(13, withinG), (17, anyG), (58, rightG), (63, ofG), (21, trueG)]
theorem Enb_sound : Enb.Sound Try.prog := pureEnv_sound ⟨within_sum, any_sum, right_sum, of_sum, known_sum, trivial⟩
abbrev nArgs (a n m c : Int) : List Value := [.int .u32 a, .int .i64 n, .int .u8 m, .int .i64 c]
def nbK (K : Nat) : Nat := (K + 7) / 8
def zero32 : Int := wrapF .u32 (0 * ((2 ^ min (Int.toNat 8) (bitsF .u32) : Nat) : Int))
def rd (x : Int) : Int := ((zero32.toNat ||| (wrapF .u32 x).toNat : Nat) : Int)
def fr (x : Int) : Bool := fitsU .u32 zero32 && fitsU .u32 (wrapF .u32 x)
def sh (k : Nat) (y : Int) : Int := wrapF .u32 (wrapF .u32 (wrapF .i64 y) * ((2 ^ (24 - 8 * k) : Nat) : Int))
def fa (z : Int) (k : Nat) (y : Int) : Bool := fitsU .u32 z && fitsU .u32 (sh k y)
def acc (z : Int) (k : Nat) (y : Int) : Int := ((z.toNat ||| (sh k y).toNat : Nat) : Int)
def aa (A : Nat → Int) : Nat → Int
  | 0 => 0
  | k + 1 => A k
def decC (e A : Nat → Int) : Nat → List Prop
  | 0 => []
  | k + 1 => (Value.int .u32 (acc (aa A k) k (rd (e k))) = Value.int .u32 (A k)) :: (fa (aa A k) k (rd (e k)) = true) :: (fr (e k) = true) :: decC e A k
def lackC (B : Nat → Int) (s : Nat) : Nat → List Prop
  | 0 => []
  | j + 1 => (Value.int .u32 (acc (aa B (s + j)) (s + j) 0) = Value.int .u32 (B (s + j))) :: (fa (aa B (s + j)) (s + j) 0 = true) :: lackC B s j
def bytesC (pa : Int) (b : Nat → Int) : Nat → List Prop
  | 0 => []
  | k + 1 => (Value.int .u8 (wrapF .u8 ((wrapF .u32 (wrapF .i64 (pa.fdiv ((2 ^ (24 - 8 * k) : Nat) : Int)))).fdiv ((2 ^ 0 : Nat) : Int))) = Value.int .u8 (b k)) :: bytesC pa b k
def moreS (K : Nat) : Int := Int.fdiv 255 ((2 ^ (K % 8) : Nat) : Int)
def moreC (m d : Int) (b : Nat → Int) (K : Nat) : List Prop :=
  bif Nat.beq (K % 8) 0 then [] else [Value.int .u8 (((b (nbK K - 1)).toNat ||| ((m.toNat &&& (moreS K).toNat : Nat) : Int).toNat : Nat) : Int) = Value.int .u8 d,
    (fitsU .u8 (b (nbK K - 1)) && fitsU .u8 ((m.toNat &&& (moreS K).toNat : Nat) : Int)) = true, (fitsU .u8 m && fitsU .u8 (moreS K)) = true]
def ee (d : Int) (b : Nat → Int) (K k : Nat) : Int := bif Nat.beq k (nbK K - 1) && !Nat.beq (K % 8) 0 then d else b k
def secondC (b B : Nat → Int) (K C : Nat) : List Prop :=
  bif Nat.ble C 1 then [] else (inU (B (nbK K - 1)) = true) :: (lackC B (C - 1) (nbK K - (C - 1)) ++ decC b B (C - 1))
def headC (a n pa : Int) (K : Nat) : List Prop := [Value.bool (rightB pa K) = Value.bool true, inU pa = true, anyV a n = pfx pa K, inU a = true]
def conds (a n m c pa d : Int) (b A B : Nat → Int) (K C : Nat) : List Prop :=
  secondC b B K C ++ (Value.int .i64 (withinV c 1 (nbK K : Nat)) = Value.int .i64 C) :: ((!(pa == pa && (((K : Nat) : Int) == ((K : Nat) : Int) && true))) = false) ::
  (pfx (((A (nbK K - 1)).toNat &&& maskN (clN (K : Int)) : Nat) : Int) (clN (K : Int)) = pfx pa K) :: (inU (A (nbK K - 1)) = true) ::
  (decC (ee d b K) A (nbK K) ++ (moreC m d b K ++ (Value.bool (rightB pa K) = Value.bool true) :: (inU pa = true) :: (bytesC pa b (nbK K) ++ headC a n pa K)))
def Row (a n m c pa d : Int) (b A B : Nat → Int) (K C : Nat) (π : List Ans) : Prop := evRun Try.prog Enb 200 4 (nArgs a n m c) Try.prog.globals.size (some π) = some (.bool true, conds a n m c pa d b A B K C)
theorem zrow (a n m c pa : Int) : evRun Try.prog Enb 200 4 (nArgs a n m c) Try.prog.globals.size (some [.bit true, .as (pfx pa 0), .reck 3, .bit true, .as (.bool true), .reck 23, .bit true, .as (.bool true), .reck 33, .as (pfx pa 0), .reck 15, .bit false, .reck 0]) = some (.bool true, ((!(pa == pa && (((0 : Nat) : Int) == ((0 : Nat) : Int) && true))) = false) ::
  (pfx ((Int.toNat 0 &&& maskN (clN ((0 : Nat) : Int)) : Nat) : Int) (clN ((0 : Nat) : Int)) = pfx pa (0 : Nat)) :: (Value.bool (rightB pa (0 : Nat)) = Value.bool true) :: (inU pa = true) :: headC a n pa 0) := by kernel_rfl
theorem row1_1 (a n m c pa d : Int) (b A B : Nat → Int) : Row a n m c pa d b A B 1 1 [.bit true, .as (pfx pa 1), .reck 3, .bit true, .as (.bool true), .reck 12, .nm 1 (.int .u8 (b 0)), .reck 20, .bit true, .as (.bool true), .reck 13, .bit true, .bit true, .nm 0 (.int .u8 d), .reck 34, .bit true, .reck 1, .bit true, .nm 0 (.int .u32 (A 0)), .reck 0, .bit true, .as (pfx pa 1), .reck 15, .bit false, .reck 1, .as (.int .i64 1), .reck 44] := by unfold Row; kernel_rfl
theorem row2_1 (a n m c pa d : Int) (b A B : Nat → Int) : Row a n m c pa d b A B 2 1 [.bit true, .as (pfx pa 2), .reck 3, .bit true, .as (.bool true), .reck 12, .nm 1 (.int .u8 (b 0)), .reck 20, .bit true, .as (.bool true), .reck 13, .bit true, .bit true, .nm 0 (.int .u8 d), .reck 34, .bit true, .reck 1, .bit true, .nm 0 (.int .u32 (A 0)), .reck 0, .bit true, .as (pfx pa 2), .reck 15, .bit false, .reck 1, .as (.int .i64 1), .reck 44] := by unfold Row; kernel_rfl
theorem row3_1 (a n m c pa d : Int) (b A B : Nat → Int) : Row a n m c pa d b A B 3 1 [.bit true, .as (pfx pa 3), .reck 3, .bit true, .as (.bool true), .reck 12, .nm 1 (.int .u8 (b 0)), .reck 20, .bit true, .as (.bool true), .reck 13, .bit true, .bit true, .nm 0 (.int .u8 d), .reck 34, .bit true, .reck 1, .bit true, .nm 0 (.int .u32 (A 0)), .reck 0, .bit true, .as (pfx pa 3), .reck 15, .bit false, .reck 1, .as (.int .i64 1), .reck 44] := by unfold Row; kernel_rfl
theorem row4_1 (a n m c pa d : Int) (b A B : Nat → Int) : Row a n m c pa d b A B 4 1 [.bit true, .as (pfx pa 4), .reck 3, .bit true, .as (.bool true), .reck 12, .nm 1 (.int .u8 (b 0)), .reck 20, .bit true, .as (.bool true), .reck 13, .bit true, .bit true, .nm 0 (.int .u8 d), .reck 34, .bit true, .reck 1, .bit true, .nm 0 (.int .u32 (A 0)), .reck 0, .bit true, .as (pfx pa 4), .reck 15, .bit false, .reck 1, .as (.int .i64 1), .reck 44] := by unfold Row; kernel_rfl
theorem row5_1 (a n m c pa d : Int) (b A B : Nat → Int) : Row a n m c pa d b A B 5 1 [.bit true, .as (pfx pa 5), .reck 3, .bit true, .as (.bool true), .reck 12, .nm 1 (.int .u8 (b 0)), .reck 20, .bit true, .as (.bool true), .reck 13, .bit true, .bit true, .nm 0 (.int .u8 d), .reck 34, .bit true, .reck 1, .bit true, .nm 0 (.int .u32 (A 0)), .reck 0, .bit true, .as (pfx pa 5), .reck 15, .bit false, .reck 1, .as (.int .i64 1), .reck 44] := by unfold Row; kernel_rfl
theorem row6_1 (a n m c pa d : Int) (b A B : Nat → Int) : Row a n m c pa d b A B 6 1 [.bit true, .as (pfx pa 6), .reck 3, .bit true, .as (.bool true), .reck 12, .nm 1 (.int .u8 (b 0)), .reck 20, .bit true, .as (.bool true), .reck 13, .bit true, .bit true, .nm 0 (.int .u8 d), .reck 34, .bit true, .reck 1, .bit true, .nm 0 (.int .u32 (A 0)), .reck 0, .bit true, .as (pfx pa 6), .reck 15, .bit false, .reck 1, .as (.int .i64 1), .reck 44] := by unfold Row; kernel_rfl
theorem row7_1 (a n m c pa d : Int) (b A B : Nat → Int) : Row a n m c pa d b A B 7 1 [.bit true, .as (pfx pa 7), .reck 3, .bit true, .as (.bool true), .reck 12, .nm 1 (.int .u8 (b 0)), .reck 20, .bit true, .as (.bool true), .reck 13, .bit true, .bit true, .nm 0 (.int .u8 d), .reck 34, .bit true, .reck 1, .bit true, .nm 0 (.int .u32 (A 0)), .reck 0, .bit true, .as (pfx pa 7), .reck 15, .bit false, .reck 1, .as (.int .i64 1), .reck 44] := by unfold Row; kernel_rfl
theorem row8_1 (a n m c pa d : Int) (b A B : Nat → Int) : Row a n m c pa d b A B 8 1 [.bit true, .as (pfx pa 8), .reck 3, .bit true, .as (.bool true), .reck 12, .nm 1 (.int .u8 (b 0)), .reck 20, .bit true, .as (.bool true), .reck 43, .bit true, .reck 1, .bit true, .nm 0 (.int .u32 (A 0)), .reck 0, .bit true, .as (pfx pa 8), .reck 15, .bit false, .reck 1, .as (.int .i64 1), .reck 44] := by unfold Row; kernel_rfl
theorem row9_1 (a n m c pa d : Int) (b A B : Nat → Int) : Row a n m c pa d b A B 9 1 [.bit true, .as (pfx pa 9), .reck 3, .bit true, .as (.bool true), .reck 12, .nm 1 (.int .u8 (b 0)), .reck 9, .nm 1 (.int .u8 (b 1)), .reck 20, .bit true, .as (.bool true), .reck 13, .bit true, .bit true, .nm 0 (.int .u8 d), .reck 34, .bit true, .reck 1, .bit true, .nm 0 (.int .u32 (A 0)), .reck 11, .bit true, .reck 1, .bit true, .nm 0 (.int .u32 (A 1)), .reck 0, .bit true, .as (pfx pa 9), .reck 15, .bit false, .reck 1, .as (.int .i64 1), .reck 55] := by unfold Row; kernel_rfl
theorem row9_2 (a n m c pa d : Int) (b A B : Nat → Int) : Row a n m c pa d b A B 9 2 [.bit true, .as (pfx pa 9), .reck 3, .bit true, .as (.bool true), .reck 12, .nm 1 (.int .u8 (b 0)), .reck 9, .nm 1 (.int .u8 (b 1)), .reck 20, .bit true, .as (.bool true), .reck 13, .bit true, .bit true, .nm 0 (.int .u8 d), .reck 34, .bit true, .reck 1, .bit true, .nm 0 (.int .u32 (A 0)), .reck 11, .bit true, .reck 1, .bit true, .nm 0 (.int .u32 (A 1)), .reck 0, .bit true, .as (pfx pa 9), .reck 15, .bit false, .reck 1, .as (.int .i64 2), .reck 33, .bit true, .reck 1, .bit true, .nm 0 (.int .u32 (B 0)), .reck 9, .bit true, .nm 0 (.int .u32 (B 1)), .reck 0, .bit true, .reck 9] := by unfold Row; kernel_rfl
theorem row10_1 (a n m c pa d : Int) (b A B : Nat → Int) : Row a n m c pa d b A B 10 1 [.bit true, .as (pfx pa 10), .reck 3, .bit true, .as (.bool true), .reck 12, .nm 1 (.int .u8 (b 0)), .reck 9, .nm 1 (.int .u8 (b 1)), .reck 20, .bit true, .as (.bool true), .reck 13, .bit true, .bit true, .nm 0 (.int .u8 d), .reck 34, .bit true, .reck 1, .bit true, .nm 0 (.int .u32 (A 0)), .reck 11, .bit true, .reck 1, .bit true, .nm 0 (.int .u32 (A 1)), .reck 0, .bit true, .as (pfx pa 10), .reck 15, .bit false, .reck 1, .as (.int .i64 1), .reck 55] := by unfold Row; kernel_rfl
theorem row10_2 (a n m c pa d : Int) (b A B : Nat → Int) : Row a n m c pa d b A B 10 2 [.bit true, .as (pfx pa 10), .reck 3, .bit true, .as (.bool true), .reck 12, .nm 1 (.int .u8 (b 0)), .reck 9, .nm 1 (.int .u8 (b 1)), .reck 20, .bit true, .as (.bool true), .reck 13, .bit true, .bit true, .nm 0 (.int .u8 d), .reck 34, .bit true, .reck 1, .bit true, .nm 0 (.int .u32 (A 0)), .reck 11, .bit true, .reck 1, .bit true, .nm 0 (.int .u32 (A 1)), .reck 0, .bit true, .as (pfx pa 10), .reck 15, .bit false, .reck 1, .as (.int .i64 2), .reck 33, .bit true, .reck 1, .bit true, .nm 0 (.int .u32 (B 0)), .reck 9, .bit true, .nm 0 (.int .u32 (B 1)), .reck 0, .bit true, .reck 9] := by unfold Row; kernel_rfl
theorem row11_1 (a n m c pa d : Int) (b A B : Nat → Int) : Row a n m c pa d b A B 11 1 [.bit true, .as (pfx pa 11), .reck 3, .bit true, .as (.bool true), .reck 12, .nm 1 (.int .u8 (b 0)), .reck 9, .nm 1 (.int .u8 (b 1)), .reck 20, .bit true, .as (.bool true), .reck 13, .bit true, .bit true, .nm 0 (.int .u8 d), .reck 34, .bit true, .reck 1, .bit true, .nm 0 (.int .u32 (A 0)), .reck 11, .bit true, .reck 1, .bit true, .nm 0 (.int .u32 (A 1)), .reck 0, .bit true, .as (pfx pa 11), .reck 15, .bit false, .reck 1, .as (.int .i64 1), .reck 55] := by unfold Row; kernel_rfl
theorem row11_2 (a n m c pa d : Int) (b A B : Nat → Int) : Row a n m c pa d b A B 11 2 [.bit true, .as (pfx pa 11), .reck 3, .bit true, .as (.bool true), .reck 12, .nm 1 (.int .u8 (b 0)), .reck 9, .nm 1 (.int .u8 (b 1)), .reck 20, .bit true, .as (.bool true), .reck 13, .bit true, .bit true, .nm 0 (.int .u8 d), .reck 34, .bit true, .reck 1, .bit true, .nm 0 (.int .u32 (A 0)), .reck 11, .bit true, .reck 1, .bit true, .nm 0 (.int .u32 (A 1)), .reck 0, .bit true, .as (pfx pa 11), .reck 15, .bit false, .reck 1, .as (.int .i64 2), .reck 33, .bit true, .reck 1, .bit true, .nm 0 (.int .u32 (B 0)), .reck 9, .bit true, .nm 0 (.int .u32 (B 1)), .reck 0, .bit true, .reck 9] := by unfold Row; kernel_rfl
theorem row12_1 (a n m c pa d : Int) (b A B : Nat → Int) : Row a n m c pa d b A B 12 1 [.bit true, .as (pfx pa 12), .reck 3, .bit true, .as (.bool true), .reck 12, .nm 1 (.int .u8 (b 0)), .reck 9, .nm 1 (.int .u8 (b 1)), .reck 20, .bit true, .as (.bool true), .reck 13, .bit true, .bit true, .nm 0 (.int .u8 d), .reck 34, .bit true, .reck 1, .bit true, .nm 0 (.int .u32 (A 0)), .reck 11, .bit true, .reck 1, .bit true, .nm 0 (.int .u32 (A 1)), .reck 0, .bit true, .as (pfx pa 12), .reck 15, .bit false, .reck 1, .as (.int .i64 1), .reck 55] := by unfold Row; kernel_rfl
theorem row12_2 (a n m c pa d : Int) (b A B : Nat → Int) : Row a n m c pa d b A B 12 2 [.bit true, .as (pfx pa 12), .reck 3, .bit true, .as (.bool true), .reck 12, .nm 1 (.int .u8 (b 0)), .reck 9, .nm 1 (.int .u8 (b 1)), .reck 20, .bit true, .as (.bool true), .reck 13, .bit true, .bit true, .nm 0 (.int .u8 d), .reck 34, .bit true, .reck 1, .bit true, .nm 0 (.int .u32 (A 0)), .reck 11, .bit true, .reck 1, .bit true, .nm 0 (.int .u32 (A 1)), .reck 0, .bit true, .as (pfx pa 12), .reck 15, .bit false, .reck 1, .as (.int .i64 2), .reck 33, .bit true, .reck 1, .bit true, .nm 0 (.int .u32 (B 0)), .reck 9, .bit true, .nm 0 (.int .u32 (B 1)), .reck 0, .bit true, .reck 9] := by unfold Row; kernel_rfl
theorem row13_1 (a n m c pa d : Int) (b A B : Nat → Int) : Row a n m c pa d b A B 13 1 [.bit true, .as (pfx pa 13), .reck 3, .bit true, .as (.bool true), .reck 12, .nm 1 (.int .u8 (b 0)), .reck 9, .nm 1 (.int .u8 (b 1)), .reck 20, .bit true, .as (.bool true), .reck 13, .bit true, .bit true, .nm 0 (.int .u8 d), .reck 34, .bit true, .reck 1, .bit true, .nm 0 (.int .u32 (A 0)), .reck 11, .bit true, .reck 1, .bit true, .nm 0 (.int .u32 (A 1)), .reck 0, .bit true, .as (pfx pa 13), .reck 15, .bit false, .reck 1, .as (.int .i64 1), .reck 55] := by unfold Row; kernel_rfl
theorem row13_2 (a n m c pa d : Int) (b A B : Nat → Int) : Row a n m c pa d b A B 13 2 [.bit true, .as (pfx pa 13), .reck 3, .bit true, .as (.bool true), .reck 12, .nm 1 (.int .u8 (b 0)), .reck 9, .nm 1 (.int .u8 (b 1)), .reck 20, .bit true, .as (.bool true), .reck 13, .bit true, .bit true, .nm 0 (.int .u8 d), .reck 34, .bit true, .reck 1, .bit true, .nm 0 (.int .u32 (A 0)), .reck 11, .bit true, .reck 1, .bit true, .nm 0 (.int .u32 (A 1)), .reck 0, .bit true, .as (pfx pa 13), .reck 15, .bit false, .reck 1, .as (.int .i64 2), .reck 33, .bit true, .reck 1, .bit true, .nm 0 (.int .u32 (B 0)), .reck 9, .bit true, .nm 0 (.int .u32 (B 1)), .reck 0, .bit true, .reck 9] := by unfold Row; kernel_rfl
theorem row14_1 (a n m c pa d : Int) (b A B : Nat → Int) : Row a n m c pa d b A B 14 1 [.bit true, .as (pfx pa 14), .reck 3, .bit true, .as (.bool true), .reck 12, .nm 1 (.int .u8 (b 0)), .reck 9, .nm 1 (.int .u8 (b 1)), .reck 20, .bit true, .as (.bool true), .reck 13, .bit true, .bit true, .nm 0 (.int .u8 d), .reck 34, .bit true, .reck 1, .bit true, .nm 0 (.int .u32 (A 0)), .reck 11, .bit true, .reck 1, .bit true, .nm 0 (.int .u32 (A 1)), .reck 0, .bit true, .as (pfx pa 14), .reck 15, .bit false, .reck 1, .as (.int .i64 1), .reck 55] := by unfold Row; kernel_rfl
theorem row14_2 (a n m c pa d : Int) (b A B : Nat → Int) : Row a n m c pa d b A B 14 2 [.bit true, .as (pfx pa 14), .reck 3, .bit true, .as (.bool true), .reck 12, .nm 1 (.int .u8 (b 0)), .reck 9, .nm 1 (.int .u8 (b 1)), .reck 20, .bit true, .as (.bool true), .reck 13, .bit true, .bit true, .nm 0 (.int .u8 d), .reck 34, .bit true, .reck 1, .bit true, .nm 0 (.int .u32 (A 0)), .reck 11, .bit true, .reck 1, .bit true, .nm 0 (.int .u32 (A 1)), .reck 0, .bit true, .as (pfx pa 14), .reck 15, .bit false, .reck 1, .as (.int .i64 2), .reck 33, .bit true, .reck 1, .bit true, .nm 0 (.int .u32 (B 0)), .reck 9, .bit true, .nm 0 (.int .u32 (B 1)), .reck 0, .bit true, .reck 9] := by unfold Row; kernel_rfl
theorem row15_1 (a n m c pa d : Int) (b A B : Nat → Int) : Row a n m c pa d b A B 15 1 [.bit true, .as (pfx pa 15), .reck 3, .bit true, .as (.bool true), .reck 12, .nm 1 (.int .u8 (b 0)), .reck 9, .nm 1 (.int .u8 (b 1)), .reck 20, .bit true, .as (.bool true), .reck 13, .bit true, .bit true, .nm 0 (.int .u8 d), .reck 34, .bit true, .reck 1, .bit true, .nm 0 (.int .u32 (A 0)), .reck 11, .bit true, .reck 1, .bit true, .nm 0 (.int .u32 (A 1)), .reck 0, .bit true, .as (pfx pa 15), .reck 15, .bit false, .reck 1, .as (.int .i64 1), .reck 55] := by unfold Row; kernel_rfl
theorem row15_2 (a n m c pa d : Int) (b A B : Nat → Int) : Row a n m c pa d b A B 15 2 [.bit true, .as (pfx pa 15), .reck 3, .bit true, .as (.bool true), .reck 12, .nm 1 (.int .u8 (b 0)), .reck 9, .nm 1 (.int .u8 (b 1)), .reck 20, .bit true, .as (.bool true), .reck 13, .bit true, .bit true, .nm 0 (.int .u8 d), .reck 34, .bit true, .reck 1, .bit true, .nm 0 (.int .u32 (A 0)), .reck 11, .bit true, .reck 1, .bit true, .nm 0 (.int .u32 (A 1)), .reck 0, .bit true, .as (pfx pa 15), .reck 15, .bit false, .reck 1, .as (.int .i64 2), .reck 33, .bit true, .reck 1, .bit true, .nm 0 (.int .u32 (B 0)), .reck 9, .bit true, .nm 0 (.int .u32 (B 1)), .reck 0, .bit true, .reck 9] := by unfold Row; kernel_rfl
theorem row16_1 (a n m c pa d : Int) (b A B : Nat → Int) : Row a n m c pa d b A B 16 1 [.bit true, .as (pfx pa 16), .reck 3, .bit true, .as (.bool true), .reck 12, .nm 1 (.int .u8 (b 0)), .reck 9, .nm 1 (.int .u8 (b 1)), .reck 20, .bit true, .as (.bool true), .reck 43, .bit true, .reck 1, .bit true, .nm 0 (.int .u32 (A 0)), .reck 11, .bit true, .reck 1, .bit true, .nm 0 (.int .u32 (A 1)), .reck 0, .bit true, .as (pfx pa 16), .reck 15, .bit false, .reck 1, .as (.int .i64 1), .reck 55] := by unfold Row; kernel_rfl
theorem row16_2 (a n m c pa d : Int) (b A B : Nat → Int) : Row a n m c pa d b A B 16 2 [.bit true, .as (pfx pa 16), .reck 3, .bit true, .as (.bool true), .reck 12, .nm 1 (.int .u8 (b 0)), .reck 9, .nm 1 (.int .u8 (b 1)), .reck 20, .bit true, .as (.bool true), .reck 43, .bit true, .reck 1, .bit true, .nm 0 (.int .u32 (A 0)), .reck 11, .bit true, .reck 1, .bit true, .nm 0 (.int .u32 (A 1)), .reck 0, .bit true, .as (pfx pa 16), .reck 15, .bit false, .reck 1, .as (.int .i64 2), .reck 33, .bit true, .reck 1, .bit true, .nm 0 (.int .u32 (B 0)), .reck 9, .bit true, .nm 0 (.int .u32 (B 1)), .reck 0, .bit true, .reck 9] := by unfold Row; kernel_rfl
theorem row17_1 (a n m c pa d : Int) (b A B : Nat → Int) : Row a n m c pa d b A B 17 1 [.bit true, .as (pfx pa 17), .reck 3, .bit true, .as (.bool true), .reck 12, .nm 1 (.int .u8 (b 0)), .reck 9, .nm 1 (.int .u8 (b 1)), .reck 9, .nm 1 (.int .u8 (b 2)), .reck 20, .bit true, .as (.bool true), .reck 13, .bit true, .bit true, .nm 0 (.int .u8 d), .reck 34, .bit true, .reck 1, .bit true, .nm 0 (.int .u32 (A 0)), .reck 11, .bit true, .reck 1, .bit true, .nm 0 (.int .u32 (A 1)), .reck 11, .bit true, .reck 1, .bit true, .nm 0 (.int .u32 (A 2)), .reck 0, .bit true, .as (pfx pa 17), .reck 15, .bit false, .reck 1, .as (.int .i64 1), .reck 66] := by unfold Row; kernel_rfl
theorem row17_2 (a n m c pa d : Int) (b A B : Nat → Int) : Row a n m c pa d b A B 17 2 [.bit true, .as (pfx pa 17), .reck 3, .bit true, .as (.bool true), .reck 12, .nm 1 (.int .u8 (b 0)), .reck 9, .nm 1 (.int .u8 (b 1)), .reck 9, .nm 1 (.int .u8 (b 2)), .reck 20, .bit true, .as (.bool true), .reck 13, .bit true, .bit true, .nm 0 (.int .u8 d), .reck 34, .bit true, .reck 1, .bit true, .nm 0 (.int .u32 (A 0)), .reck 11, .bit true, .reck 1, .bit true, .nm 0 (.int .u32 (A 1)), .reck 11, .bit true, .reck 1, .bit true, .nm 0 (.int .u32 (A 2)), .reck 0, .bit true, .as (pfx pa 17), .reck 15, .bit false, .reck 1, .as (.int .i64 2), .reck 33, .bit true, .reck 1, .bit true, .nm 0 (.int .u32 (B 0)), .reck 9, .bit true, .nm 0 (.int .u32 (B 1)), .reck 9, .bit true, .nm 0 (.int .u32 (B 2)), .reck 0, .bit true, .reck 9] := by unfold Row; kernel_rfl
theorem row17_3 (a n m c pa d : Int) (b A B : Nat → Int) : Row a n m c pa d b A B 17 3 [.bit true, .as (pfx pa 17), .reck 3, .bit true, .as (.bool true), .reck 12, .nm 1 (.int .u8 (b 0)), .reck 9, .nm 1 (.int .u8 (b 1)), .reck 9, .nm 1 (.int .u8 (b 2)), .reck 20, .bit true, .as (.bool true), .reck 13, .bit true, .bit true, .nm 0 (.int .u8 d), .reck 34, .bit true, .reck 1, .bit true, .nm 0 (.int .u32 (A 0)), .reck 11, .bit true, .reck 1, .bit true, .nm 0 (.int .u32 (A 1)), .reck 11, .bit true, .reck 1, .bit true, .nm 0 (.int .u32 (A 2)), .reck 0, .bit true, .as (pfx pa 17), .reck 15, .bit false, .reck 1, .as (.int .i64 3), .reck 33, .bit true, .reck 1, .bit true, .nm 0 (.int .u32 (B 0)), .reck 11, .bit true, .reck 1, .bit true, .nm 0 (.int .u32 (B 1)), .reck 9, .bit true, .nm 0 (.int .u32 (B 2)), .reck 0, .bit true, .reck 9] := by unfold Row; kernel_rfl
theorem row18_1 (a n m c pa d : Int) (b A B : Nat → Int) : Row a n m c pa d b A B 18 1 [.bit true, .as (pfx pa 18), .reck 3, .bit true, .as (.bool true), .reck 12, .nm 1 (.int .u8 (b 0)), .reck 9, .nm 1 (.int .u8 (b 1)), .reck 9, .nm 1 (.int .u8 (b 2)), .reck 20, .bit true, .as (.bool true), .reck 13, .bit true, .bit true, .nm 0 (.int .u8 d), .reck 34, .bit true, .reck 1, .bit true, .nm 0 (.int .u32 (A 0)), .reck 11, .bit true, .reck 1, .bit true, .nm 0 (.int .u32 (A 1)), .reck 11, .bit true, .reck 1, .bit true, .nm 0 (.int .u32 (A 2)), .reck 0, .bit true, .as (pfx pa 18), .reck 15, .bit false, .reck 1, .as (.int .i64 1), .reck 66] := by unfold Row; kernel_rfl
theorem row18_2 (a n m c pa d : Int) (b A B : Nat → Int) : Row a n m c pa d b A B 18 2 [.bit true, .as (pfx pa 18), .reck 3, .bit true, .as (.bool true), .reck 12, .nm 1 (.int .u8 (b 0)), .reck 9, .nm 1 (.int .u8 (b 1)), .reck 9, .nm 1 (.int .u8 (b 2)), .reck 20, .bit true, .as (.bool true), .reck 13, .bit true, .bit true, .nm 0 (.int .u8 d), .reck 34, .bit true, .reck 1, .bit true, .nm 0 (.int .u32 (A 0)), .reck 11, .bit true, .reck 1, .bit true, .nm 0 (.int .u32 (A 1)), .reck 11, .bit true, .reck 1, .bit true, .nm 0 (.int .u32 (A 2)), .reck 0, .bit true, .as (pfx pa 18), .reck 15, .bit false, .reck 1, .as (.int .i64 2), .reck 33, .bit true, .reck 1, .bit true, .nm 0 (.int .u32 (B 0)), .reck 9, .bit true, .nm 0 (.int .u32 (B 1)), .reck 9, .bit true, .nm 0 (.int .u32 (B 2)), .reck 0, .bit true, .reck 9] := by unfold Row; kernel_rfl
theorem row18_3 (a n m c pa d : Int) (b A B : Nat → Int) : Row a n m c pa d b A B 18 3 [.bit true, .as (pfx pa 18), .reck 3, .bit true, .as (.bool true), .reck 12, .nm 1 (.int .u8 (b 0)), .reck 9, .nm 1 (.int .u8 (b 1)), .reck 9, .nm 1 (.int .u8 (b 2)), .reck 20, .bit true, .as (.bool true), .reck 13, .bit true, .bit true, .nm 0 (.int .u8 d), .reck 34, .bit true, .reck 1, .bit true, .nm 0 (.int .u32 (A 0)), .reck 11, .bit true, .reck 1, .bit true, .nm 0 (.int .u32 (A 1)), .reck 11, .bit true, .reck 1, .bit true, .nm 0 (.int .u32 (A 2)), .reck 0, .bit true, .as (pfx pa 18), .reck 15, .bit false, .reck 1, .as (.int .i64 3), .reck 33, .bit true, .reck 1, .bit true, .nm 0 (.int .u32 (B 0)), .reck 11, .bit true, .reck 1, .bit true, .nm 0 (.int .u32 (B 1)), .reck 9, .bit true, .nm 0 (.int .u32 (B 2)), .reck 0, .bit true, .reck 9] := by unfold Row; kernel_rfl
theorem row19_1 (a n m c pa d : Int) (b A B : Nat → Int) : Row a n m c pa d b A B 19 1 [.bit true, .as (pfx pa 19), .reck 3, .bit true, .as (.bool true), .reck 12, .nm 1 (.int .u8 (b 0)), .reck 9, .nm 1 (.int .u8 (b 1)), .reck 9, .nm 1 (.int .u8 (b 2)), .reck 20, .bit true, .as (.bool true), .reck 13, .bit true, .bit true, .nm 0 (.int .u8 d), .reck 34, .bit true, .reck 1, .bit true, .nm 0 (.int .u32 (A 0)), .reck 11, .bit true, .reck 1, .bit true, .nm 0 (.int .u32 (A 1)), .reck 11, .bit true, .reck 1, .bit true, .nm 0 (.int .u32 (A 2)), .reck 0, .bit true, .as (pfx pa 19), .reck 15, .bit false, .reck 1, .as (.int .i64 1), .reck 66] := by unfold Row; kernel_rfl
theorem row19_2 (a n m c pa d : Int) (b A B : Nat → Int) : Row a n m c pa d b A B 19 2 [.bit true, .as (pfx pa 19), .reck 3, .bit true, .as (.bool true), .reck 12, .nm 1 (.int .u8 (b 0)), .reck 9, .nm 1 (.int .u8 (b 1)), .reck 9, .nm 1 (.int .u8 (b 2)), .reck 20, .bit true, .as (.bool true), .reck 13, .bit true, .bit true, .nm 0 (.int .u8 d), .reck 34, .bit true, .reck 1, .bit true, .nm 0 (.int .u32 (A 0)), .reck 11, .bit true, .reck 1, .bit true, .nm 0 (.int .u32 (A 1)), .reck 11, .bit true, .reck 1, .bit true, .nm 0 (.int .u32 (A 2)), .reck 0, .bit true, .as (pfx pa 19), .reck 15, .bit false, .reck 1, .as (.int .i64 2), .reck 33, .bit true, .reck 1, .bit true, .nm 0 (.int .u32 (B 0)), .reck 9, .bit true, .nm 0 (.int .u32 (B 1)), .reck 9, .bit true, .nm 0 (.int .u32 (B 2)), .reck 0, .bit true, .reck 9] := by unfold Row; kernel_rfl
theorem row19_3 (a n m c pa d : Int) (b A B : Nat → Int) : Row a n m c pa d b A B 19 3 [.bit true, .as (pfx pa 19), .reck 3, .bit true, .as (.bool true), .reck 12, .nm 1 (.int .u8 (b 0)), .reck 9, .nm 1 (.int .u8 (b 1)), .reck 9, .nm 1 (.int .u8 (b 2)), .reck 20, .bit true, .as (.bool true), .reck 13, .bit true, .bit true, .nm 0 (.int .u8 d), .reck 34, .bit true, .reck 1, .bit true, .nm 0 (.int .u32 (A 0)), .reck 11, .bit true, .reck 1, .bit true, .nm 0 (.int .u32 (A 1)), .reck 11, .bit true, .reck 1, .bit true, .nm 0 (.int .u32 (A 2)), .reck 0, .bit true, .as (pfx pa 19), .reck 15, .bit false, .reck 1, .as (.int .i64 3), .reck 33, .bit true, .reck 1, .bit true, .nm 0 (.int .u32 (B 0)), .reck 11, .bit true, .reck 1, .bit true, .nm 0 (.int .u32 (B 1)), .reck 9, .bit true, .nm 0 (.int .u32 (B 2)), .reck 0, .bit true, .reck 9] := by unfold Row; kernel_rfl
theorem row20_1 (a n m c pa d : Int) (b A B : Nat → Int) : Row a n m c pa d b A B 20 1 [.bit true, .as (pfx pa 20), .reck 3, .bit true, .as (.bool true), .reck 12, .nm 1 (.int .u8 (b 0)), .reck 9, .nm 1 (.int .u8 (b 1)), .reck 9, .nm 1 (.int .u8 (b 2)), .reck 20, .bit true, .as (.bool true), .reck 13, .bit true, .bit true, .nm 0 (.int .u8 d), .reck 34, .bit true, .reck 1, .bit true, .nm 0 (.int .u32 (A 0)), .reck 11, .bit true, .reck 1, .bit true, .nm 0 (.int .u32 (A 1)), .reck 11, .bit true, .reck 1, .bit true, .nm 0 (.int .u32 (A 2)), .reck 0, .bit true, .as (pfx pa 20), .reck 15, .bit false, .reck 1, .as (.int .i64 1), .reck 66] := by unfold Row; kernel_rfl
theorem row20_2 (a n m c pa d : Int) (b A B : Nat → Int) : Row a n m c pa d b A B 20 2 [.bit true, .as (pfx pa 20), .reck 3, .bit true, .as (.bool true), .reck 12, .nm 1 (.int .u8 (b 0)), .reck 9, .nm 1 (.int .u8 (b 1)), .reck 9, .nm 1 (.int .u8 (b 2)), .reck 20, .bit true, .as (.bool true), .reck 13, .bit true, .bit true, .nm 0 (.int .u8 d), .reck 34, .bit true, .reck 1, .bit true, .nm 0 (.int .u32 (A 0)), .reck 11, .bit true, .reck 1, .bit true, .nm 0 (.int .u32 (A 1)), .reck 11, .bit true, .reck 1, .bit true, .nm 0 (.int .u32 (A 2)), .reck 0, .bit true, .as (pfx pa 20), .reck 15, .bit false, .reck 1, .as (.int .i64 2), .reck 33, .bit true, .reck 1, .bit true, .nm 0 (.int .u32 (B 0)), .reck 9, .bit true, .nm 0 (.int .u32 (B 1)), .reck 9, .bit true, .nm 0 (.int .u32 (B 2)), .reck 0, .bit true, .reck 9] := by unfold Row; kernel_rfl
theorem row20_3 (a n m c pa d : Int) (b A B : Nat → Int) : Row a n m c pa d b A B 20 3 [.bit true, .as (pfx pa 20), .reck 3, .bit true, .as (.bool true), .reck 12, .nm 1 (.int .u8 (b 0)), .reck 9, .nm 1 (.int .u8 (b 1)), .reck 9, .nm 1 (.int .u8 (b 2)), .reck 20, .bit true, .as (.bool true), .reck 13, .bit true, .bit true, .nm 0 (.int .u8 d), .reck 34, .bit true, .reck 1, .bit true, .nm 0 (.int .u32 (A 0)), .reck 11, .bit true, .reck 1, .bit true, .nm 0 (.int .u32 (A 1)), .reck 11, .bit true, .reck 1, .bit true, .nm 0 (.int .u32 (A 2)), .reck 0, .bit true, .as (pfx pa 20), .reck 15, .bit false, .reck 1, .as (.int .i64 3), .reck 33, .bit true, .reck 1, .bit true, .nm 0 (.int .u32 (B 0)), .reck 11, .bit true, .reck 1, .bit true, .nm 0 (.int .u32 (B 1)), .reck 9, .bit true, .nm 0 (.int .u32 (B 2)), .reck 0, .bit true, .reck 9] := by unfold Row; kernel_rfl
theorem row21_1 (a n m c pa d : Int) (b A B : Nat → Int) : Row a n m c pa d b A B 21 1 [.bit true, .as (pfx pa 21), .reck 3, .bit true, .as (.bool true), .reck 12, .nm 1 (.int .u8 (b 0)), .reck 9, .nm 1 (.int .u8 (b 1)), .reck 9, .nm 1 (.int .u8 (b 2)), .reck 20, .bit true, .as (.bool true), .reck 13, .bit true, .bit true, .nm 0 (.int .u8 d), .reck 34, .bit true, .reck 1, .bit true, .nm 0 (.int .u32 (A 0)), .reck 11, .bit true, .reck 1, .bit true, .nm 0 (.int .u32 (A 1)), .reck 11, .bit true, .reck 1, .bit true, .nm 0 (.int .u32 (A 2)), .reck 0, .bit true, .as (pfx pa 21), .reck 15, .bit false, .reck 1, .as (.int .i64 1), .reck 66] := by unfold Row; kernel_rfl
theorem row21_2 (a n m c pa d : Int) (b A B : Nat → Int) : Row a n m c pa d b A B 21 2 [.bit true, .as (pfx pa 21), .reck 3, .bit true, .as (.bool true), .reck 12, .nm 1 (.int .u8 (b 0)), .reck 9, .nm 1 (.int .u8 (b 1)), .reck 9, .nm 1 (.int .u8 (b 2)), .reck 20, .bit true, .as (.bool true), .reck 13, .bit true, .bit true, .nm 0 (.int .u8 d), .reck 34, .bit true, .reck 1, .bit true, .nm 0 (.int .u32 (A 0)), .reck 11, .bit true, .reck 1, .bit true, .nm 0 (.int .u32 (A 1)), .reck 11, .bit true, .reck 1, .bit true, .nm 0 (.int .u32 (A 2)), .reck 0, .bit true, .as (pfx pa 21), .reck 15, .bit false, .reck 1, .as (.int .i64 2), .reck 33, .bit true, .reck 1, .bit true, .nm 0 (.int .u32 (B 0)), .reck 9, .bit true, .nm 0 (.int .u32 (B 1)), .reck 9, .bit true, .nm 0 (.int .u32 (B 2)), .reck 0, .bit true, .reck 9] := by unfold Row; kernel_rfl
theorem row21_3 (a n m c pa d : Int) (b A B : Nat → Int) : Row a n m c pa d b A B 21 3 [.bit true, .as (pfx pa 21), .reck 3, .bit true, .as (.bool true), .reck 12, .nm 1 (.int .u8 (b 0)), .reck 9, .nm 1 (.int .u8 (b 1)), .reck 9, .nm 1 (.int .u8 (b 2)), .reck 20, .bit true, .as (.bool true), .reck 13, .bit true, .bit true, .nm 0 (.int .u8 d), .reck 34, .bit true, .reck 1, .bit true, .nm 0 (.int .u32 (A 0)), .reck 11, .bit true, .reck 1, .bit true, .nm 0 (.int .u32 (A 1)), .reck 11, .bit true, .reck 1, .bit true, .nm 0 (.int .u32 (A 2)), .reck 0, .bit true, .as (pfx pa 21), .reck 15, .bit false, .reck 1, .as (.int .i64 3), .reck 33, .bit true, .reck 1, .bit true, .nm 0 (.int .u32 (B 0)), .reck 11, .bit true, .reck 1, .bit true, .nm 0 (.int .u32 (B 1)), .reck 9, .bit true, .nm 0 (.int .u32 (B 2)), .reck 0, .bit true, .reck 9] := by unfold Row; kernel_rfl
theorem row22_1 (a n m c pa d : Int) (b A B : Nat → Int) : Row a n m c pa d b A B 22 1 [.bit true, .as (pfx pa 22), .reck 3, .bit true, .as (.bool true), .reck 12, .nm 1 (.int .u8 (b 0)), .reck 9, .nm 1 (.int .u8 (b 1)), .reck 9, .nm 1 (.int .u8 (b 2)), .reck 20, .bit true, .as (.bool true), .reck 13, .bit true, .bit true, .nm 0 (.int .u8 d), .reck 34, .bit true, .reck 1, .bit true, .nm 0 (.int .u32 (A 0)), .reck 11, .bit true, .reck 1, .bit true, .nm 0 (.int .u32 (A 1)), .reck 11, .bit true, .reck 1, .bit true, .nm 0 (.int .u32 (A 2)), .reck 0, .bit true, .as (pfx pa 22), .reck 15, .bit false, .reck 1, .as (.int .i64 1), .reck 66] := by unfold Row; kernel_rfl
theorem row22_2 (a n m c pa d : Int) (b A B : Nat → Int) : Row a n m c pa d b A B 22 2 [.bit true, .as (pfx pa 22), .reck 3, .bit true, .as (.bool true), .reck 12, .nm 1 (.int .u8 (b 0)), .reck 9, .nm 1 (.int .u8 (b 1)), .reck 9, .nm 1 (.int .u8 (b 2)), .reck 20, .bit true, .as (.bool true), .reck 13, .bit true, .bit true, .nm 0 (.int .u8 d), .reck 34, .bit true, .reck 1, .bit true, .nm 0 (.int .u32 (A 0)), .reck 11, .bit true, .reck 1, .bit true, .nm 0 (.int .u32 (A 1)), .reck 11, .bit true, .reck 1, .bit true, .nm 0 (.int .u32 (A 2)), .reck 0, .bit true, .as (pfx pa 22), .reck 15, .bit false, .reck 1, .as (.int .i64 2), .reck 33, .bit true, .reck 1, .bit true, .nm 0 (.int .u32 (B 0)), .reck 9, .bit true, .nm 0 (.int .u32 (B 1)), .reck 9, .bit true, .nm 0 (.int .u32 (B 2)), .reck 0, .bit true, .reck 9] := by unfold Row; kernel_rfl
theorem row22_3 (a n m c pa d : Int) (b A B : Nat → Int) : Row a n m c pa d b A B 22 3 [.bit true, .as (pfx pa 22), .reck 3, .bit true, .as (.bool true), .reck 12, .nm 1 (.int .u8 (b 0)), .reck 9, .nm 1 (.int .u8 (b 1)), .reck 9, .nm 1 (.int .u8 (b 2)), .reck 20, .bit true, .as (.bool true), .reck 13, .bit true, .bit true, .nm 0 (.int .u8 d), .reck 34, .bit true, .reck 1, .bit true, .nm 0 (.int .u32 (A 0)), .reck 11, .bit true, .reck 1, .bit true, .nm 0 (.int .u32 (A 1)), .reck 11, .bit true, .reck 1, .bit true, .nm 0 (.int .u32 (A 2)), .reck 0, .bit true, .as (pfx pa 22), .reck 15, .bit false, .reck 1, .as (.int .i64 3), .reck 33, .bit true, .reck 1, .bit true, .nm 0 (.int .u32 (B 0)), .reck 11, .bit true, .reck 1, .bit true, .nm 0 (.int .u32 (B 1)), .reck 9, .bit true, .nm 0 (.int .u32 (B 2)), .reck 0, .bit true, .reck 9] := by unfold Row; kernel_rfl
theorem row23_1 (a n m c pa d : Int) (b A B : Nat → Int) : Row a n m c pa d b A B 23 1 [.bit true, .as (pfx pa 23), .reck 3, .bit true, .as (.bool true), .reck 12, .nm 1 (.int .u8 (b 0)), .reck 9, .nm 1 (.int .u8 (b 1)), .reck 9, .nm 1 (.int .u8 (b 2)), .reck 20, .bit true, .as (.bool true), .reck 13, .bit true, .bit true, .nm 0 (.int .u8 d), .reck 34, .bit true, .reck 1, .bit true, .nm 0 (.int .u32 (A 0)), .reck 11, .bit true, .reck 1, .bit true, .nm 0 (.int .u32 (A 1)), .reck 11, .bit true, .reck 1, .bit true, .nm 0 (.int .u32 (A 2)), .reck 0, .bit true, .as (pfx pa 23), .reck 15, .bit false, .reck 1, .as (.int .i64 1), .reck 66] := by unfold Row; kernel_rfl
theorem row23_2 (a n m c pa d : Int) (b A B : Nat → Int) : Row a n m c pa d b A B 23 2 [.bit true, .as (pfx pa 23), .reck 3, .bit true, .as (.bool true), .reck 12, .nm 1 (.int .u8 (b 0)), .reck 9, .nm 1 (.int .u8 (b 1)), .reck 9, .nm 1 (.int .u8 (b 2)), .reck 20, .bit true, .as (.bool true), .reck 13, .bit true, .bit true, .nm 0 (.int .u8 d), .reck 34, .bit true, .reck 1, .bit true, .nm 0 (.int .u32 (A 0)), .reck 11, .bit true, .reck 1, .bit true, .nm 0 (.int .u32 (A 1)), .reck 11, .bit true, .reck 1, .bit true, .nm 0 (.int .u32 (A 2)), .reck 0, .bit true, .as (pfx pa 23), .reck 15, .bit false, .reck 1, .as (.int .i64 2), .reck 33, .bit true, .reck 1, .bit true, .nm 0 (.int .u32 (B 0)), .reck 9, .bit true, .nm 0 (.int .u32 (B 1)), .reck 9, .bit true, .nm 0 (.int .u32 (B 2)), .reck 0, .bit true, .reck 9] := by unfold Row; kernel_rfl
theorem row23_3 (a n m c pa d : Int) (b A B : Nat → Int) : Row a n m c pa d b A B 23 3 [.bit true, .as (pfx pa 23), .reck 3, .bit true, .as (.bool true), .reck 12, .nm 1 (.int .u8 (b 0)), .reck 9, .nm 1 (.int .u8 (b 1)), .reck 9, .nm 1 (.int .u8 (b 2)), .reck 20, .bit true, .as (.bool true), .reck 13, .bit true, .bit true, .nm 0 (.int .u8 d), .reck 34, .bit true, .reck 1, .bit true, .nm 0 (.int .u32 (A 0)), .reck 11, .bit true, .reck 1, .bit true, .nm 0 (.int .u32 (A 1)), .reck 11, .bit true, .reck 1, .bit true, .nm 0 (.int .u32 (A 2)), .reck 0, .bit true, .as (pfx pa 23), .reck 15, .bit false, .reck 1, .as (.int .i64 3), .reck 33, .bit true, .reck 1, .bit true, .nm 0 (.int .u32 (B 0)), .reck 11, .bit true, .reck 1, .bit true, .nm 0 (.int .u32 (B 1)), .reck 9, .bit true, .nm 0 (.int .u32 (B 2)), .reck 0, .bit true, .reck 9] := by unfold Row; kernel_rfl
theorem row24_1 (a n m c pa d : Int) (b A B : Nat → Int) : Row a n m c pa d b A B 24 1 [.bit true, .as (pfx pa 24), .reck 3, .bit true, .as (.bool true), .reck 12, .nm 1 (.int .u8 (b 0)), .reck 9, .nm 1 (.int .u8 (b 1)), .reck 9, .nm 1 (.int .u8 (b 2)), .reck 20, .bit true, .as (.bool true), .reck 43, .bit true, .reck 1, .bit true, .nm 0 (.int .u32 (A 0)), .reck 11, .bit true, .reck 1, .bit true, .nm 0 (.int .u32 (A 1)), .reck 11, .bit true, .reck 1, .bit true, .nm 0 (.int .u32 (A 2)), .reck 0, .bit true, .as (pfx pa 24), .reck 15, .bit false, .reck 1, .as (.int .i64 1), .reck 66] := by unfold Row; kernel_rfl
theorem row24_2 (a n m c pa d : Int) (b A B : Nat → Int) : Row a n m c pa d b A B 24 2 [.bit true, .as (pfx pa 24), .reck 3, .bit true, .as (.bool true), .reck 12, .nm 1 (.int .u8 (b 0)), .reck 9, .nm 1 (.int .u8 (b 1)), .reck 9, .nm 1 (.int .u8 (b 2)), .reck 20, .bit true, .as (.bool true), .reck 43, .bit true, .reck 1, .bit true, .nm 0 (.int .u32 (A 0)), .reck 11, .bit true, .reck 1, .bit true, .nm 0 (.int .u32 (A 1)), .reck 11, .bit true, .reck 1, .bit true, .nm 0 (.int .u32 (A 2)), .reck 0, .bit true, .as (pfx pa 24), .reck 15, .bit false, .reck 1, .as (.int .i64 2), .reck 33, .bit true, .reck 1, .bit true, .nm 0 (.int .u32 (B 0)), .reck 9, .bit true, .nm 0 (.int .u32 (B 1)), .reck 9, .bit true, .nm 0 (.int .u32 (B 2)), .reck 0, .bit true, .reck 9] := by unfold Row; kernel_rfl
theorem row24_3 (a n m c pa d : Int) (b A B : Nat → Int) : Row a n m c pa d b A B 24 3 [.bit true, .as (pfx pa 24), .reck 3, .bit true, .as (.bool true), .reck 12, .nm 1 (.int .u8 (b 0)), .reck 9, .nm 1 (.int .u8 (b 1)), .reck 9, .nm 1 (.int .u8 (b 2)), .reck 20, .bit true, .as (.bool true), .reck 43, .bit true, .reck 1, .bit true, .nm 0 (.int .u32 (A 0)), .reck 11, .bit true, .reck 1, .bit true, .nm 0 (.int .u32 (A 1)), .reck 11, .bit true, .reck 1, .bit true, .nm 0 (.int .u32 (A 2)), .reck 0, .bit true, .as (pfx pa 24), .reck 15, .bit false, .reck 1, .as (.int .i64 3), .reck 33, .bit true, .reck 1, .bit true, .nm 0 (.int .u32 (B 0)), .reck 11, .bit true, .reck 1, .bit true, .nm 0 (.int .u32 (B 1)), .reck 9, .bit true, .nm 0 (.int .u32 (B 2)), .reck 0, .bit true, .reck 9] := by unfold Row; kernel_rfl
theorem row25_1 (a n m c pa d : Int) (b A B : Nat → Int) : Row a n m c pa d b A B 25 1 [.bit true, .as (pfx pa 25), .reck 3, .bit true, .as (.bool true), .reck 12, .nm 1 (.int .u8 (b 0)), .reck 9, .nm 1 (.int .u8 (b 1)), .reck 9, .nm 1 (.int .u8 (b 2)), .reck 9, .nm 1 (.int .u8 (b 3)), .reck 20, .bit true, .as (.bool true), .reck 13, .bit true, .bit true, .nm 0 (.int .u8 d), .reck 34, .bit true, .reck 1, .bit true, .nm 0 (.int .u32 (A 0)), .reck 11, .bit true, .reck 1, .bit true, .nm 0 (.int .u32 (A 1)), .reck 11, .bit true, .reck 1, .bit true, .nm 0 (.int .u32 (A 2)), .reck 11, .bit true, .reck 1, .bit true, .nm 0 (.int .u32 (A 3)), .reck 0, .bit true, .as (pfx pa 25), .reck 15, .bit false, .reck 1, .as (.int .i64 1), .reck 77] := by unfold Row; kernel_rfl
theorem row25_2 (a n m c pa d : Int) (b A B : Nat → Int) : Row a n m c pa d b A B 25 2 [.bit true, .as (pfx pa 25), .reck 3, .bit true, .as (.bool true), .reck 12, .nm 1 (.int .u8 (b 0)), .reck 9, .nm 1 (.int .u8 (b 1)), .reck 9, .nm 1 (.int .u8 (b 2)), .reck 9, .nm 1 (.int .u8 (b 3)), .reck 20, .bit true, .as (.bool true), .reck 13, .bit true, .bit true, .nm 0 (.int .u8 d), .reck 34, .bit true, .reck 1, .bit true, .nm 0 (.int .u32 (A 0)), .reck 11, .bit true, .reck 1, .bit true, .nm 0 (.int .u32 (A 1)), .reck 11, .bit true, .reck 1, .bit true, .nm 0 (.int .u32 (A 2)), .reck 11, .bit true, .reck 1, .bit true, .nm 0 (.int .u32 (A 3)), .reck 0, .bit true, .as (pfx pa 25), .reck 15, .bit false, .reck 1, .as (.int .i64 2), .reck 33, .bit true, .reck 1, .bit true, .nm 0 (.int .u32 (B 0)), .reck 9, .bit true, .nm 0 (.int .u32 (B 1)), .reck 9, .bit true, .nm 0 (.int .u32 (B 2)), .reck 9, .bit true, .nm 0 (.int .u32 (B 3)), .reck 0, .bit true, .reck 9] := by unfold Row; kernel_rfl
theorem row25_3 (a n m c pa d : Int) (b A B : Nat → Int) : Row a n m c pa d b A B 25 3 [.bit true, .as (pfx pa 25), .reck 3, .bit true, .as (.bool true), .reck 12, .nm 1 (.int .u8 (b 0)), .reck 9, .nm 1 (.int .u8 (b 1)), .reck 9, .nm 1 (.int .u8 (b 2)), .reck 9, .nm 1 (.int .u8 (b 3)), .reck 20, .bit true, .as (.bool true), .reck 13, .bit true, .bit true, .nm 0 (.int .u8 d), .reck 34, .bit true, .reck 1, .bit true, .nm 0 (.int .u32 (A 0)), .reck 11, .bit true, .reck 1, .bit true, .nm 0 (.int .u32 (A 1)), .reck 11, .bit true, .reck 1, .bit true, .nm 0 (.int .u32 (A 2)), .reck 11, .bit true, .reck 1, .bit true, .nm 0 (.int .u32 (A 3)), .reck 0, .bit true, .as (pfx pa 25), .reck 15, .bit false, .reck 1, .as (.int .i64 3), .reck 33, .bit true, .reck 1, .bit true, .nm 0 (.int .u32 (B 0)), .reck 11, .bit true, .reck 1, .bit true, .nm 0 (.int .u32 (B 1)), .reck 9, .bit true, .nm 0 (.int .u32 (B 2)), .reck 9, .bit true, .nm 0 (.int .u32 (B 3)), .reck 0, .bit true, .reck 9] := by unfold Row; kernel_rfl
theorem row25_4 (a n m c pa d : Int) (b A B : Nat → Int) : Row a n m c pa d b A B 25 4 [.bit true, .as (pfx pa 25), .reck 3, .bit true, .as (.bool true), .reck 12, .nm 1 (.int .u8 (b 0)), .reck 9, .nm 1 (.int .u8 (b 1)), .reck 9, .nm 1 (.int .u8 (b 2)), .reck 9, .nm 1 (.int .u8 (b 3)), .reck 20, .bit true, .as (.bool true), .reck 13, .bit true, .bit true, .nm 0 (.int .u8 d), .reck 34, .bit true, .reck 1, .bit true, .nm 0 (.int .u32 (A 0)), .reck 11, .bit true, .reck 1, .bit true, .nm 0 (.int .u32 (A 1)), .reck 11, .bit true, .reck 1, .bit true, .nm 0 (.int .u32 (A 2)), .reck 11, .bit true, .reck 1, .bit true, .nm 0 (.int .u32 (A 3)), .reck 0, .bit true, .as (pfx pa 25), .reck 15, .bit false, .reck 1, .as (.int .i64 4), .reck 33, .bit true, .reck 1, .bit true, .nm 0 (.int .u32 (B 0)), .reck 11, .bit true, .reck 1, .bit true, .nm 0 (.int .u32 (B 1)), .reck 11, .bit true, .reck 1, .bit true, .nm 0 (.int .u32 (B 2)), .reck 9, .bit true, .nm 0 (.int .u32 (B 3)), .reck 0, .bit true, .reck 9] := by unfold Row; kernel_rfl
theorem row26_1 (a n m c pa d : Int) (b A B : Nat → Int) : Row a n m c pa d b A B 26 1 [.bit true, .as (pfx pa 26), .reck 3, .bit true, .as (.bool true), .reck 12, .nm 1 (.int .u8 (b 0)), .reck 9, .nm 1 (.int .u8 (b 1)), .reck 9, .nm 1 (.int .u8 (b 2)), .reck 9, .nm 1 (.int .u8 (b 3)), .reck 20, .bit true, .as (.bool true), .reck 13, .bit true, .bit true, .nm 0 (.int .u8 d), .reck 34, .bit true, .reck 1, .bit true, .nm 0 (.int .u32 (A 0)), .reck 11, .bit true, .reck 1, .bit true, .nm 0 (.int .u32 (A 1)), .reck 11, .bit true, .reck 1, .bit true, .nm 0 (.int .u32 (A 2)), .reck 11, .bit true, .reck 1, .bit true, .nm 0 (.int .u32 (A 3)), .reck 0, .bit true, .as (pfx pa 26), .reck 15, .bit false, .reck 1, .as (.int .i64 1), .reck 77] := by unfold Row; kernel_rfl
theorem row26_2 (a n m c pa d : Int) (b A B : Nat → Int) : Row a n m c pa d b A B 26 2 [.bit true, .as (pfx pa 26), .reck 3, .bit true, .as (.bool true), .reck 12, .nm 1 (.int .u8 (b 0)), .reck 9, .nm 1 (.int .u8 (b 1)), .reck 9, .nm 1 (.int .u8 (b 2)), .reck 9, .nm 1 (.int .u8 (b 3)), .reck 20, .bit true, .as (.bool true), .reck 13, .bit true, .bit true, .nm 0 (.int .u8 d), .reck 34, .bit true, .reck 1, .bit true, .nm 0 (.int .u32 (A 0)), .reck 11, .bit true, .reck 1, .bit true, .nm 0 (.int .u32 (A 1)), .reck 11, .bit true, .reck 1, .bit true, .nm 0 (.int .u32 (A 2)), .reck 11, .bit true, .reck 1, .bit true, .nm 0 (.int .u32 (A 3)), .reck 0, .bit true, .as (pfx pa 26), .reck 15, .bit false, .reck 1, .as (.int .i64 2), .reck 33, .bit true, .reck 1, .bit true, .nm 0 (.int .u32 (B 0)), .reck 9, .bit true, .nm 0 (.int .u32 (B 1)), .reck 9, .bit true, .nm 0 (.int .u32 (B 2)), .reck 9, .bit true, .nm 0 (.int .u32 (B 3)), .reck 0, .bit true, .reck 9] := by unfold Row; kernel_rfl
theorem row26_3 (a n m c pa d : Int) (b A B : Nat → Int) : Row a n m c pa d b A B 26 3 [.bit true, .as (pfx pa 26), .reck 3, .bit true, .as (.bool true), .reck 12, .nm 1 (.int .u8 (b 0)), .reck 9, .nm 1 (.int .u8 (b 1)), .reck 9, .nm 1 (.int .u8 (b 2)), .reck 9, .nm 1 (.int .u8 (b 3)), .reck 20, .bit true, .as (.bool true), .reck 13, .bit true, .bit true, .nm 0 (.int .u8 d), .reck 34, .bit true, .reck 1, .bit true, .nm 0 (.int .u32 (A 0)), .reck 11, .bit true, .reck 1, .bit true, .nm 0 (.int .u32 (A 1)), .reck 11, .bit true, .reck 1, .bit true, .nm 0 (.int .u32 (A 2)), .reck 11, .bit true, .reck 1, .bit true, .nm 0 (.int .u32 (A 3)), .reck 0, .bit true, .as (pfx pa 26), .reck 15, .bit false, .reck 1, .as (.int .i64 3), .reck 33, .bit true, .reck 1, .bit true, .nm 0 (.int .u32 (B 0)), .reck 11, .bit true, .reck 1, .bit true, .nm 0 (.int .u32 (B 1)), .reck 9, .bit true, .nm 0 (.int .u32 (B 2)), .reck 9, .bit true, .nm 0 (.int .u32 (B 3)), .reck 0, .bit true, .reck 9] := by unfold Row; kernel_rfl
theorem row26_4 (a n m c pa d : Int) (b A B : Nat → Int) : Row a n m c pa d b A B 26 4 [.bit true, .as (pfx pa 26), .reck 3, .bit true, .as (.bool true), .reck 12, .nm 1 (.int .u8 (b 0)), .reck 9, .nm 1 (.int .u8 (b 1)), .reck 9, .nm 1 (.int .u8 (b 2)), .reck 9, .nm 1 (.int .u8 (b 3)), .reck 20, .bit true, .as (.bool true), .reck 13, .bit true, .bit true, .nm 0 (.int .u8 d), .reck 34, .bit true, .reck 1, .bit true, .nm 0 (.int .u32 (A 0)), .reck 11, .bit true, .reck 1, .bit true, .nm 0 (.int .u32 (A 1)), .reck 11, .bit true, .reck 1, .bit true, .nm 0 (.int .u32 (A 2)), .reck 11, .bit true, .reck 1, .bit true, .nm 0 (.int .u32 (A 3)), .reck 0, .bit true, .as (pfx pa 26), .reck 15, .bit false, .reck 1, .as (.int .i64 4), .reck 33, .bit true, .reck 1, .bit true, .nm 0 (.int .u32 (B 0)), .reck 11, .bit true, .reck 1, .bit true, .nm 0 (.int .u32 (B 1)), .reck 11, .bit true, .reck 1, .bit true, .nm 0 (.int .u32 (B 2)), .reck 9, .bit true, .nm 0 (.int .u32 (B 3)), .reck 0, .bit true, .reck 9] := by unfold Row; kernel_rfl
theorem row27_1 (a n m c pa d : Int) (b A B : Nat → Int) : Row a n m c pa d b A B 27 1 [.bit true, .as (pfx pa 27), .reck 3, .bit true, .as (.bool true), .reck 12, .nm 1 (.int .u8 (b 0)), .reck 9, .nm 1 (.int .u8 (b 1)), .reck 9, .nm 1 (.int .u8 (b 2)), .reck 9, .nm 1 (.int .u8 (b 3)), .reck 20, .bit true, .as (.bool true), .reck 13, .bit true, .bit true, .nm 0 (.int .u8 d), .reck 34, .bit true, .reck 1, .bit true, .nm 0 (.int .u32 (A 0)), .reck 11, .bit true, .reck 1, .bit true, .nm 0 (.int .u32 (A 1)), .reck 11, .bit true, .reck 1, .bit true, .nm 0 (.int .u32 (A 2)), .reck 11, .bit true, .reck 1, .bit true, .nm 0 (.int .u32 (A 3)), .reck 0, .bit true, .as (pfx pa 27), .reck 15, .bit false, .reck 1, .as (.int .i64 1), .reck 77] := by unfold Row; kernel_rfl
theorem row27_2 (a n m c pa d : Int) (b A B : Nat → Int) : Row a n m c pa d b A B 27 2 [.bit true, .as (pfx pa 27), .reck 3, .bit true, .as (.bool true), .reck 12, .nm 1 (.int .u8 (b 0)), .reck 9, .nm 1 (.int .u8 (b 1)), .reck 9, .nm 1 (.int .u8 (b 2)), .reck 9, .nm 1 (.int .u8 (b 3)), .reck 20, .bit true, .as (.bool true), .reck 13, .bit true, .bit true, .nm 0 (.int .u8 d), .reck 34, .bit true, .reck 1, .bit true, .nm 0 (.int .u32 (A 0)), .reck 11, .bit true, .reck 1, .bit true, .nm 0 (.int .u32 (A 1)), .reck 11, .bit true, .reck 1, .bit true, .nm 0 (.int .u32 (A 2)), .reck 11, .bit true, .reck 1, .bit true, .nm 0 (.int .u32 (A 3)), .reck 0, .bit true, .as (pfx pa 27), .reck 15, .bit false, .reck 1, .as (.int .i64 2), .reck 33, .bit true, .reck 1, .bit true, .nm 0 (.int .u32 (B 0)), .reck 9, .bit true, .nm 0 (.int .u32 (B 1)), .reck 9, .bit true, .nm 0 (.int .u32 (B 2)), .reck 9, .bit true, .nm 0 (.int .u32 (B 3)), .reck 0, .bit true, .reck 9] := by unfold Row; kernel_rfl
theorem row27_3 (a n m c pa d : Int) (b A B : Nat → Int) : Row a n m c pa d b A B 27 3 [.bit true, .as (pfx pa 27), .reck 3, .bit true, .as (.bool true), .reck 12, .nm 1 (.int .u8 (b 0)), .reck 9, .nm 1 (.int .u8 (b 1)), .reck 9, .nm 1 (.int .u8 (b 2)), .reck 9, .nm 1 (.int .u8 (b 3)), .reck 20, .bit true, .as (.bool true), .reck 13, .bit true, .bit true, .nm 0 (.int .u8 d), .reck 34, .bit true, .reck 1, .bit true, .nm 0 (.int .u32 (A 0)), .reck 11, .bit true, .reck 1, .bit true, .nm 0 (.int .u32 (A 1)), .reck 11, .bit true, .reck 1, .bit true, .nm 0 (.int .u32 (A 2)), .reck 11, .bit true, .reck 1, .bit true, .nm 0 (.int .u32 (A 3)), .reck 0, .bit true, .as (pfx pa 27), .reck 15, .bit false, .reck 1, .as (.int .i64 3), .reck 33, .bit true, .reck 1, .bit true, .nm 0 (.int .u32 (B 0)), .reck 11, .bit true, .reck 1, .bit true, .nm 0 (.int .u32 (B 1)), .reck 9, .bit true, .nm 0 (.int .u32 (B 2)), .reck 9, .bit true, .nm 0 (.int .u32 (B 3)), .reck 0, .bit true, .reck 9] := by unfold Row; kernel_rfl
theorem row27_4 (a n m c pa d : Int) (b A B : Nat → Int) : Row a n m c pa d b A B 27 4 [.bit true, .as (pfx pa 27), .reck 3, .bit true, .as (.bool true), .reck 12, .nm 1 (.int .u8 (b 0)), .reck 9, .nm 1 (.int .u8 (b 1)), .reck 9, .nm 1 (.int .u8 (b 2)), .reck 9, .nm 1 (.int .u8 (b 3)), .reck 20, .bit true, .as (.bool true), .reck 13, .bit true, .bit true, .nm 0 (.int .u8 d), .reck 34, .bit true, .reck 1, .bit true, .nm 0 (.int .u32 (A 0)), .reck 11, .bit true, .reck 1, .bit true, .nm 0 (.int .u32 (A 1)), .reck 11, .bit true, .reck 1, .bit true, .nm 0 (.int .u32 (A 2)), .reck 11, .bit true, .reck 1, .bit true, .nm 0 (.int .u32 (A 3)), .reck 0, .bit true, .as (pfx pa 27), .reck 15, .bit false, .reck 1, .as (.int .i64 4), .reck 33, .bit true, .reck 1, .bit true, .nm 0 (.int .u32 (B 0)), .reck 11, .bit true, .reck 1, .bit true, .nm 0 (.int .u32 (B 1)), .reck 11, .bit true, .reck 1, .bit true, .nm 0 (.int .u32 (B 2)), .reck 9, .bit true, .nm 0 (.int .u32 (B 3)), .reck 0, .bit true, .reck 9] := by unfold Row; kernel_rfl
theorem row28_1 (a n m c pa d : Int) (b A B : Nat → Int) : Row a n m c pa d b A B 28 1 [.bit true, .as (pfx pa 28), .reck 3, .bit true, .as (.bool true), .reck 12, .nm 1 (.int .u8 (b 0)), .reck 9, .nm 1 (.int .u8 (b 1)), .reck 9, .nm 1 (.int .u8 (b 2)), .reck 9, .nm 1 (.int .u8 (b 3)), .reck 20, .bit true, .as (.bool true), .reck 13, .bit true, .bit true, .nm 0 (.int .u8 d), .reck 34, .bit true, .reck 1, .bit true, .nm 0 (.int .u32 (A 0)), .reck 11, .bit true, .reck 1, .bit true, .nm 0 (.int .u32 (A 1)), .reck 11, .bit true, .reck 1, .bit true, .nm 0 (.int .u32 (A 2)), .reck 11, .bit true, .reck 1, .bit true, .nm 0 (.int .u32 (A 3)), .reck 0, .bit true, .as (pfx pa 28), .reck 15, .bit false, .reck 1, .as (.int .i64 1), .reck 77] := by unfold Row; kernel_rfl
theorem row28_2 (a n m c pa d : Int) (b A B : Nat → Int) : Row a n m c pa d b A B 28 2 [.bit true, .as (pfx pa 28), .reck 3, .bit true, .as (.bool true), .reck 12, .nm 1 (.int .u8 (b 0)), .reck 9, .nm 1 (.int .u8 (b 1)), .reck 9, .nm 1 (.int .u8 (b 2)), .reck 9, .nm 1 (.int .u8 (b 3)), .reck 20, .bit true, .as (.bool true), .reck 13, .bit true, .bit true, .nm 0 (.int .u8 d), .reck 34, .bit true, .reck 1, .bit true, .nm 0 (.int .u32 (A 0)), .reck 11, .bit true, .reck 1, .bit true, .nm 0 (.int .u32 (A 1)), .reck 11, .bit true, .reck 1, .bit true, .nm 0 (.int .u32 (A 2)), .reck 11, .bit true, .reck 1, .bit true, .nm 0 (.int .u32 (A 3)), .reck 0, .bit true, .as (pfx pa 28), .reck 15, .bit false, .reck 1, .as (.int .i64 2), .reck 33, .bit true, .reck 1, .bit true, .nm 0 (.int .u32 (B 0)), .reck 9, .bit true, .nm 0 (.int .u32 (B 1)), .reck 9, .bit true, .nm 0 (.int .u32 (B 2)), .reck 9, .bit true, .nm 0 (.int .u32 (B 3)), .reck 0, .bit true, .reck 9] := by unfold Row; kernel_rfl
theorem row28_3 (a n m c pa d : Int) (b A B : Nat → Int) : Row a n m c pa d b A B 28 3 [.bit true, .as (pfx pa 28), .reck 3, .bit true, .as (.bool true), .reck 12, .nm 1 (.int .u8 (b 0)), .reck 9, .nm 1 (.int .u8 (b 1)), .reck 9, .nm 1 (.int .u8 (b 2)), .reck 9, .nm 1 (.int .u8 (b 3)), .reck 20, .bit true, .as (.bool true), .reck 13, .bit true, .bit true, .nm 0 (.int .u8 d), .reck 34, .bit true, .reck 1, .bit true, .nm 0 (.int .u32 (A 0)), .reck 11, .bit true, .reck 1, .bit true, .nm 0 (.int .u32 (A 1)), .reck 11, .bit true, .reck 1, .bit true, .nm 0 (.int .u32 (A 2)), .reck 11, .bit true, .reck 1, .bit true, .nm 0 (.int .u32 (A 3)), .reck 0, .bit true, .as (pfx pa 28), .reck 15, .bit false, .reck 1, .as (.int .i64 3), .reck 33, .bit true, .reck 1, .bit true, .nm 0 (.int .u32 (B 0)), .reck 11, .bit true, .reck 1, .bit true, .nm 0 (.int .u32 (B 1)), .reck 9, .bit true, .nm 0 (.int .u32 (B 2)), .reck 9, .bit true, .nm 0 (.int .u32 (B 3)), .reck 0, .bit true, .reck 9] := by unfold Row; kernel_rfl
theorem row28_4 (a n m c pa d : Int) (b A B : Nat → Int) : Row a n m c pa d b A B 28 4 [.bit true, .as (pfx pa 28), .reck 3, .bit true, .as (.bool true), .reck 12, .nm 1 (.int .u8 (b 0)), .reck 9, .nm 1 (.int .u8 (b 1)), .reck 9, .nm 1 (.int .u8 (b 2)), .reck 9, .nm 1 (.int .u8 (b 3)), .reck 20, .bit true, .as (.bool true), .reck 13, .bit true, .bit true, .nm 0 (.int .u8 d), .reck 34, .bit true, .reck 1, .bit true, .nm 0 (.int .u32 (A 0)), .reck 11, .bit true, .reck 1, .bit true, .nm 0 (.int .u32 (A 1)), .reck 11, .bit true, .reck 1, .bit true, .nm 0 (.int .u32 (A 2)), .reck 11, .bit true, .reck 1, .bit true, .nm 0 (.int .u32 (A 3)), .reck 0, .bit true, .as (pfx pa 28), .reck 15, .bit false, .reck 1, .as (.int .i64 4), .reck 33, .bit true, .reck 1, .bit true, .nm 0 (.int .u32 (B 0)), .reck 11, .bit true, .reck 1, .bit true, .nm 0 (.int .u32 (B 1)), .reck 11, .bit true, .reck 1, .bit true, .nm 0 (.int .u32 (B 2)), .reck 9, .bit true, .nm 0 (.int .u32 (B 3)), .reck 0, .bit true, .reck 9] := by unfold Row; kernel_rfl
theorem row29_1 (a n m c pa d : Int) (b A B : Nat → Int) : Row a n m c pa d b A B 29 1 [.bit true, .as (pfx pa 29), .reck 3, .bit true, .as (.bool true), .reck 12, .nm 1 (.int .u8 (b 0)), .reck 9, .nm 1 (.int .u8 (b 1)), .reck 9, .nm 1 (.int .u8 (b 2)), .reck 9, .nm 1 (.int .u8 (b 3)), .reck 20, .bit true, .as (.bool true), .reck 13, .bit true, .bit true, .nm 0 (.int .u8 d), .reck 34, .bit true, .reck 1, .bit true, .nm 0 (.int .u32 (A 0)), .reck 11, .bit true, .reck 1, .bit true, .nm 0 (.int .u32 (A 1)), .reck 11, .bit true, .reck 1, .bit true, .nm 0 (.int .u32 (A 2)), .reck 11, .bit true, .reck 1, .bit true, .nm 0 (.int .u32 (A 3)), .reck 0, .bit true, .as (pfx pa 29), .reck 15, .bit false, .reck 1, .as (.int .i64 1), .reck 77] := by unfold Row; kernel_rfl
theorem row29_2 (a n m c pa d : Int) (b A B : Nat → Int) : Row a n m c pa d b A B 29 2 [.bit true, .as (pfx pa 29), .reck 3, .bit true, .as (.bool true), .reck 12, .nm 1 (.int .u8 (b 0)), .reck 9, .nm 1 (.int .u8 (b 1)), .reck 9, .nm 1 (.int .u8 (b 2)), .reck 9, .nm 1 (.int .u8 (b 3)), .reck 20, .bit true, .as (.bool true), .reck 13, .bit true, .bit true, .nm 0 (.int .u8 d), .reck 34, .bit true, .reck 1, .bit true, .nm 0 (.int .u32 (A 0)), .reck 11, .bit true, .reck 1, .bit true, .nm 0 (.int .u32 (A 1)), .reck 11, .bit true, .reck 1, .bit true, .nm 0 (.int .u32 (A 2)), .reck 11, .bit true, .reck 1, .bit true, .nm 0 (.int .u32 (A 3)), .reck 0, .bit true, .as (pfx pa 29), .reck 15, .bit false, .reck 1, .as (.int .i64 2), .reck 33, .bit true, .reck 1, .bit true, .nm 0 (.int .u32 (B 0)), .reck 9, .bit true, .nm 0 (.int .u32 (B 1)), .reck 9, .bit true, .nm 0 (.int .u32 (B 2)), .reck 9, .bit true, .nm 0 (.int .u32 (B 3)), .reck 0, .bit true, .reck 9] := by unfold Row; kernel_rfl
theorem row29_3 (a n m c pa d : Int) (b A B : Nat → Int) : Row a n m c pa d b A B 29 3 [.bit true, .as (pfx pa 29), .reck 3, .bit true, .as (.bool true), .reck 12, .nm 1 (.int .u8 (b 0)), .reck 9, .nm 1 (.int .u8 (b 1)), .reck 9, .nm 1 (.int .u8 (b 2)), .reck 9, .nm 1 (.int .u8 (b 3)), .reck 20, .bit true, .as (.bool true), .reck 13, .bit true, .bit true, .nm 0 (.int .u8 d), .reck 34, .bit true, .reck 1, .bit true, .nm 0 (.int .u32 (A 0)), .reck 11, .bit true, .reck 1, .bit true, .nm 0 (.int .u32 (A 1)), .reck 11, .bit true, .reck 1, .bit true, .nm 0 (.int .u32 (A 2)), .reck 11, .bit true, .reck 1, .bit true, .nm 0 (.int .u32 (A 3)), .reck 0, .bit true, .as (pfx pa 29), .reck 15, .bit false, .reck 1, .as (.int .i64 3), .reck 33, .bit true, .reck 1, .bit true, .nm 0 (.int .u32 (B 0)), .reck 11, .bit true, .reck 1, .bit true, .nm 0 (.int .u32 (B 1)), .reck 9, .bit true, .nm 0 (.int .u32 (B 2)), .reck 9, .bit true, .nm 0 (.int .u32 (B 3)), .reck 0, .bit true, .reck 9] := by unfold Row; kernel_rfl
theorem row29_4 (a n m c pa d : Int) (b A B : Nat → Int) : Row a n m c pa d b A B 29 4 [.bit true, .as (pfx pa 29), .reck 3, .bit true, .as (.bool true), .reck 12, .nm 1 (.int .u8 (b 0)), .reck 9, .nm 1 (.int .u8 (b 1)), .reck 9, .nm 1 (.int .u8 (b 2)), .reck 9, .nm 1 (.int .u8 (b 3)), .reck 20, .bit true, .as (.bool true), .reck 13, .bit true, .bit true, .nm 0 (.int .u8 d), .reck 34, .bit true, .reck 1, .bit true, .nm 0 (.int .u32 (A 0)), .reck 11, .bit true, .reck 1, .bit true, .nm 0 (.int .u32 (A 1)), .reck 11, .bit true, .reck 1, .bit true, .nm 0 (.int .u32 (A 2)), .reck 11, .bit true, .reck 1, .bit true, .nm 0 (.int .u32 (A 3)), .reck 0, .bit true, .as (pfx pa 29), .reck 15, .bit false, .reck 1, .as (.int .i64 4), .reck 33, .bit true, .reck 1, .bit true, .nm 0 (.int .u32 (B 0)), .reck 11, .bit true, .reck 1, .bit true, .nm 0 (.int .u32 (B 1)), .reck 11, .bit true, .reck 1, .bit true, .nm 0 (.int .u32 (B 2)), .reck 9, .bit true, .nm 0 (.int .u32 (B 3)), .reck 0, .bit true, .reck 9] := by unfold Row; kernel_rfl
theorem row30_1 (a n m c pa d : Int) (b A B : Nat → Int) : Row a n m c pa d b A B 30 1 [.bit true, .as (pfx pa 30), .reck 3, .bit true, .as (.bool true), .reck 12, .nm 1 (.int .u8 (b 0)), .reck 9, .nm 1 (.int .u8 (b 1)), .reck 9, .nm 1 (.int .u8 (b 2)), .reck 9, .nm 1 (.int .u8 (b 3)), .reck 20, .bit true, .as (.bool true), .reck 13, .bit true, .bit true, .nm 0 (.int .u8 d), .reck 34, .bit true, .reck 1, .bit true, .nm 0 (.int .u32 (A 0)), .reck 11, .bit true, .reck 1, .bit true, .nm 0 (.int .u32 (A 1)), .reck 11, .bit true, .reck 1, .bit true, .nm 0 (.int .u32 (A 2)), .reck 11, .bit true, .reck 1, .bit true, .nm 0 (.int .u32 (A 3)), .reck 0, .bit true, .as (pfx pa 30), .reck 15, .bit false, .reck 1, .as (.int .i64 1), .reck 77] := by unfold Row; kernel_rfl
theorem row30_2 (a n m c pa d : Int) (b A B : Nat → Int) : Row a n m c pa d b A B 30 2 [.bit true, .as (pfx pa 30), .reck 3, .bit true, .as (.bool true), .reck 12, .nm 1 (.int .u8 (b 0)), .reck 9, .nm 1 (.int .u8 (b 1)), .reck 9, .nm 1 (.int .u8 (b 2)), .reck 9, .nm 1 (.int .u8 (b 3)), .reck 20, .bit true, .as (.bool true), .reck 13, .bit true, .bit true, .nm 0 (.int .u8 d), .reck 34, .bit true, .reck 1, .bit true, .nm 0 (.int .u32 (A 0)), .reck 11, .bit true, .reck 1, .bit true, .nm 0 (.int .u32 (A 1)), .reck 11, .bit true, .reck 1, .bit true, .nm 0 (.int .u32 (A 2)), .reck 11, .bit true, .reck 1, .bit true, .nm 0 (.int .u32 (A 3)), .reck 0, .bit true, .as (pfx pa 30), .reck 15, .bit false, .reck 1, .as (.int .i64 2), .reck 33, .bit true, .reck 1, .bit true, .nm 0 (.int .u32 (B 0)), .reck 9, .bit true, .nm 0 (.int .u32 (B 1)), .reck 9, .bit true, .nm 0 (.int .u32 (B 2)), .reck 9, .bit true, .nm 0 (.int .u32 (B 3)), .reck 0, .bit true, .reck 9] := by unfold Row; kernel_rfl
theorem row30_3 (a n m c pa d : Int) (b A B : Nat → Int) : Row a n m c pa d b A B 30 3 [.bit true, .as (pfx pa 30), .reck 3, .bit true, .as (.bool true), .reck 12, .nm 1 (.int .u8 (b 0)), .reck 9, .nm 1 (.int .u8 (b 1)), .reck 9, .nm 1 (.int .u8 (b 2)), .reck 9, .nm 1 (.int .u8 (b 3)), .reck 20, .bit true, .as (.bool true), .reck 13, .bit true, .bit true, .nm 0 (.int .u8 d), .reck 34, .bit true, .reck 1, .bit true, .nm 0 (.int .u32 (A 0)), .reck 11, .bit true, .reck 1, .bit true, .nm 0 (.int .u32 (A 1)), .reck 11, .bit true, .reck 1, .bit true, .nm 0 (.int .u32 (A 2)), .reck 11, .bit true, .reck 1, .bit true, .nm 0 (.int .u32 (A 3)), .reck 0, .bit true, .as (pfx pa 30), .reck 15, .bit false, .reck 1, .as (.int .i64 3), .reck 33, .bit true, .reck 1, .bit true, .nm 0 (.int .u32 (B 0)), .reck 11, .bit true, .reck 1, .bit true, .nm 0 (.int .u32 (B 1)), .reck 9, .bit true, .nm 0 (.int .u32 (B 2)), .reck 9, .bit true, .nm 0 (.int .u32 (B 3)), .reck 0, .bit true, .reck 9] := by unfold Row; kernel_rfl
theorem row30_4 (a n m c pa d : Int) (b A B : Nat → Int) : Row a n m c pa d b A B 30 4 [.bit true, .as (pfx pa 30), .reck 3, .bit true, .as (.bool true), .reck 12, .nm 1 (.int .u8 (b 0)), .reck 9, .nm 1 (.int .u8 (b 1)), .reck 9, .nm 1 (.int .u8 (b 2)), .reck 9, .nm 1 (.int .u8 (b 3)), .reck 20, .bit true, .as (.bool true), .reck 13, .bit true, .bit true, .nm 0 (.int .u8 d), .reck 34, .bit true, .reck 1, .bit true, .nm 0 (.int .u32 (A 0)), .reck 11, .bit true, .reck 1, .bit true, .nm 0 (.int .u32 (A 1)), .reck 11, .bit true, .reck 1, .bit true, .nm 0 (.int .u32 (A 2)), .reck 11, .bit true, .reck 1, .bit true, .nm 0 (.int .u32 (A 3)), .reck 0, .bit true, .as (pfx pa 30), .reck 15, .bit false, .reck 1, .as (.int .i64 4), .reck 33, .bit true, .reck 1, .bit true, .nm 0 (.int .u32 (B 0)), .reck 11, .bit true, .reck 1, .bit true, .nm 0 (.int .u32 (B 1)), .reck 11, .bit true, .reck 1, .bit true, .nm 0 (.int .u32 (B 2)), .reck 9, .bit true, .nm 0 (.int .u32 (B 3)), .reck 0, .bit true, .reck 9] := by unfold Row; kernel_rfl
theorem row31_1 (a n m c pa d : Int) (b A B : Nat → Int) : Row a n m c pa d b A B 31 1 [.bit true, .as (pfx pa 31), .reck 3, .bit true, .as (.bool true), .reck 12, .nm 1 (.int .u8 (b 0)), .reck 9, .nm 1 (.int .u8 (b 1)), .reck 9, .nm 1 (.int .u8 (b 2)), .reck 9, .nm 1 (.int .u8 (b 3)), .reck 20, .bit true, .as (.bool true), .reck 13, .bit true, .bit true, .nm 0 (.int .u8 d), .reck 34, .bit true, .reck 1, .bit true, .nm 0 (.int .u32 (A 0)), .reck 11, .bit true, .reck 1, .bit true, .nm 0 (.int .u32 (A 1)), .reck 11, .bit true, .reck 1, .bit true, .nm 0 (.int .u32 (A 2)), .reck 11, .bit true, .reck 1, .bit true, .nm 0 (.int .u32 (A 3)), .reck 0, .bit true, .as (pfx pa 31), .reck 15, .bit false, .reck 1, .as (.int .i64 1), .reck 77] := by unfold Row; kernel_rfl
theorem row31_2 (a n m c pa d : Int) (b A B : Nat → Int) : Row a n m c pa d b A B 31 2 [.bit true, .as (pfx pa 31), .reck 3, .bit true, .as (.bool true), .reck 12, .nm 1 (.int .u8 (b 0)), .reck 9, .nm 1 (.int .u8 (b 1)), .reck 9, .nm 1 (.int .u8 (b 2)), .reck 9, .nm 1 (.int .u8 (b 3)), .reck 20, .bit true, .as (.bool true), .reck 13, .bit true, .bit true, .nm 0 (.int .u8 d), .reck 34, .bit true, .reck 1, .bit true, .nm 0 (.int .u32 (A 0)), .reck 11, .bit true, .reck 1, .bit true, .nm 0 (.int .u32 (A 1)), .reck 11, .bit true, .reck 1, .bit true, .nm 0 (.int .u32 (A 2)), .reck 11, .bit true, .reck 1, .bit true, .nm 0 (.int .u32 (A 3)), .reck 0, .bit true, .as (pfx pa 31), .reck 15, .bit false, .reck 1, .as (.int .i64 2), .reck 33, .bit true, .reck 1, .bit true, .nm 0 (.int .u32 (B 0)), .reck 9, .bit true, .nm 0 (.int .u32 (B 1)), .reck 9, .bit true, .nm 0 (.int .u32 (B 2)), .reck 9, .bit true, .nm 0 (.int .u32 (B 3)), .reck 0, .bit true, .reck 9] := by unfold Row; kernel_rfl
theorem row31_3 (a n m c pa d : Int) (b A B : Nat → Int) : Row a n m c pa d b A B 31 3 [.bit true, .as (pfx pa 31), .reck 3, .bit true, .as (.bool true), .reck 12, .nm 1 (.int .u8 (b 0)), .reck 9, .nm 1 (.int .u8 (b 1)), .reck 9, .nm 1 (.int .u8 (b 2)), .reck 9, .nm 1 (.int .u8 (b 3)), .reck 20, .bit true, .as (.bool true), .reck 13, .bit true, .bit true, .nm 0 (.int .u8 d), .reck 34, .bit true, .reck 1, .bit true, .nm 0 (.int .u32 (A 0)), .reck 11, .bit true, .reck 1, .bit true, .nm 0 (.int .u32 (A 1)), .reck 11, .bit true, .reck 1, .bit true, .nm 0 (.int .u32 (A 2)), .reck 11, .bit true, .reck 1, .bit true, .nm 0 (.int .u32 (A 3)), .reck 0, .bit true, .as (pfx pa 31), .reck 15, .bit false, .reck 1, .as (.int .i64 3), .reck 33, .bit true, .reck 1, .bit true, .nm 0 (.int .u32 (B 0)), .reck 11, .bit true, .reck 1, .bit true, .nm 0 (.int .u32 (B 1)), .reck 9, .bit true, .nm 0 (.int .u32 (B 2)), .reck 9, .bit true, .nm 0 (.int .u32 (B 3)), .reck 0, .bit true, .reck 9] := by unfold Row; kernel_rfl
theorem row31_4 (a n m c pa d : Int) (b A B : Nat → Int) : Row a n m c pa d b A B 31 4 [.bit true, .as (pfx pa 31), .reck 3, .bit true, .as (.bool true), .reck 12, .nm 1 (.int .u8 (b 0)), .reck 9, .nm 1 (.int .u8 (b 1)), .reck 9, .nm 1 (.int .u8 (b 2)), .reck 9, .nm 1 (.int .u8 (b 3)), .reck 20, .bit true, .as (.bool true), .reck 13, .bit true, .bit true, .nm 0 (.int .u8 d), .reck 34, .bit true, .reck 1, .bit true, .nm 0 (.int .u32 (A 0)), .reck 11, .bit true, .reck 1, .bit true, .nm 0 (.int .u32 (A 1)), .reck 11, .bit true, .reck 1, .bit true, .nm 0 (.int .u32 (A 2)), .reck 11, .bit true, .reck 1, .bit true, .nm 0 (.int .u32 (A 3)), .reck 0, .bit true, .as (pfx pa 31), .reck 15, .bit false, .reck 1, .as (.int .i64 4), .reck 33, .bit true, .reck 1, .bit true, .nm 0 (.int .u32 (B 0)), .reck 11, .bit true, .reck 1, .bit true, .nm 0 (.int .u32 (B 1)), .reck 11, .bit true, .reck 1, .bit true, .nm 0 (.int .u32 (B 2)), .reck 9, .bit true, .nm 0 (.int .u32 (B 3)), .reck 0, .bit true, .reck 9] := by unfold Row; kernel_rfl
theorem row32_1 (a n m c pa d : Int) (b A B : Nat → Int) : Row a n m c pa d b A B 32 1 [.bit true, .as (pfx pa 32), .reck 3, .bit true, .as (.bool true), .reck 12, .nm 1 (.int .u8 (b 0)), .reck 9, .nm 1 (.int .u8 (b 1)), .reck 9, .nm 1 (.int .u8 (b 2)), .reck 9, .nm 1 (.int .u8 (b 3)), .reck 20, .bit true, .as (.bool true), .reck 43, .bit true, .reck 1, .bit true, .nm 0 (.int .u32 (A 0)), .reck 11, .bit true, .reck 1, .bit true, .nm 0 (.int .u32 (A 1)), .reck 11, .bit true, .reck 1, .bit true, .nm 0 (.int .u32 (A 2)), .reck 11, .bit true, .reck 1, .bit true, .nm 0 (.int .u32 (A 3)), .reck 0, .bit true, .as (pfx pa 32), .reck 15, .bit false, .reck 1, .as (.int .i64 1), .reck 77] := by unfold Row; kernel_rfl
theorem row32_2 (a n m c pa d : Int) (b A B : Nat → Int) : Row a n m c pa d b A B 32 2 [.bit true, .as (pfx pa 32), .reck 3, .bit true, .as (.bool true), .reck 12, .nm 1 (.int .u8 (b 0)), .reck 9, .nm 1 (.int .u8 (b 1)), .reck 9, .nm 1 (.int .u8 (b 2)), .reck 9, .nm 1 (.int .u8 (b 3)), .reck 20, .bit true, .as (.bool true), .reck 43, .bit true, .reck 1, .bit true, .nm 0 (.int .u32 (A 0)), .reck 11, .bit true, .reck 1, .bit true, .nm 0 (.int .u32 (A 1)), .reck 11, .bit true, .reck 1, .bit true, .nm 0 (.int .u32 (A 2)), .reck 11, .bit true, .reck 1, .bit true, .nm 0 (.int .u32 (A 3)), .reck 0, .bit true, .as (pfx pa 32), .reck 15, .bit false, .reck 1, .as (.int .i64 2), .reck 33, .bit true, .reck 1, .bit true, .nm 0 (.int .u32 (B 0)), .reck 9, .bit true, .nm 0 (.int .u32 (B 1)), .reck 9, .bit true, .nm 0 (.int .u32 (B 2)), .reck 9, .bit true, .nm 0 (.int .u32 (B 3)), .reck 0, .bit true, .reck 9] := by unfold Row; kernel_rfl
theorem row32_3 (a n m c pa d : Int) (b A B : Nat → Int) : Row a n m c pa d b A B 32 3 [.bit true, .as (pfx pa 32), .reck 3, .bit true, .as (.bool true), .reck 12, .nm 1 (.int .u8 (b 0)), .reck 9, .nm 1 (.int .u8 (b 1)), .reck 9, .nm 1 (.int .u8 (b 2)), .reck 9, .nm 1 (.int .u8 (b 3)), .reck 20, .bit true, .as (.bool true), .reck 43, .bit true, .reck 1, .bit true, .nm 0 (.int .u32 (A 0)), .reck 11, .bit true, .reck 1, .bit true, .nm 0 (.int .u32 (A 1)), .reck 11, .bit true, .reck 1, .bit true, .nm 0 (.int .u32 (A 2)), .reck 11, .bit true, .reck 1, .bit true, .nm 0 (.int .u32 (A 3)), .reck 0, .bit true, .as (pfx pa 32), .reck 15, .bit false, .reck 1, .as (.int .i64 3), .reck 33, .bit true, .reck 1, .bit true, .nm 0 (.int .u32 (B 0)), .reck 11, .bit true, .reck 1, .bit true, .nm 0 (.int .u32 (B 1)), .reck 9, .bit true, .nm 0 (.int .u32 (B 2)), .reck 9, .bit true, .nm 0 (.int .u32 (B 3)), .reck 0, .bit true, .reck 9] := by unfold Row; kernel_rfl
theorem row32_4 (a n m c pa d : Int) (b A B : Nat → Int) : Row a n m c pa d b A B 32 4 [.bit true, .as (pfx pa 32), .reck 3, .bit true, .as (.bool true), .reck 12, .nm 1 (.int .u8 (b 0)), .reck 9, .nm 1 (.int .u8 (b 1)), .reck 9, .nm 1 (.int .u8 (b 2)), .reck 9, .nm 1 (.int .u8 (b 3)), .reck 20, .bit true, .as (.bool true), .reck 43, .bit true, .reck 1, .bit true, .nm 0 (.int .u32 (A 0)), .reck 11, .bit true, .reck 1, .bit true, .nm 0 (.int .u32 (A 1)), .reck 11, .bit true, .reck 1, .bit true, .nm 0 (.int .u32 (A 2)), .reck 11, .bit true, .reck 1, .bit true, .nm 0 (.int .u32 (A 3)), .reck 0, .bit true, .as (pfx pa 32), .reck 15, .bit false, .reck 1, .as (.int .i64 4), .reck 33, .bit true, .reck 1, .bit true, .nm 0 (.int .u32 (B 0)), .reck 11, .bit true, .reck 1, .bit true, .nm 0 (.int .u32 (B 1)), .reck 11, .bit true, .reck 1, .bit true, .nm 0 (.int .u32 (B 2)), .reck 9, .bit true, .nm 0 (.int .u32 (B 3)), .reck 0, .bit true, .reck 9] := by unfold Row; kernel_rfl
theorem rows (a n m c pa d : Int) (b A B : Nat → Int) : ∀ K C : Nat, 1 ≤ K → K ≤ 32 → 1 ≤ C → C ≤ nbK K → ∃ π, Row a n m c pa d b A B K C π
  | 0, _, h, _, _, _ => absurd h (by decide)
  | 1, 0, _, _, h, _ => absurd h (by decide)
  | 1, 1, _, _, _, _ => ⟨_, row1_1 a n m c pa d b A B⟩
  | 1, C + 2, _, _, _, h => absurd h (by unfold nbK; omega)
  | 2, 0, _, _, h, _ => absurd h (by decide)
  | 2, 1, _, _, _, _ => ⟨_, row2_1 a n m c pa d b A B⟩
  | 2, C + 2, _, _, _, h => absurd h (by unfold nbK; omega)
  | 3, 0, _, _, h, _ => absurd h (by decide)
  | 3, 1, _, _, _, _ => ⟨_, row3_1 a n m c pa d b A B⟩
  | 3, C + 2, _, _, _, h => absurd h (by unfold nbK; omega)
  | 4, 0, _, _, h, _ => absurd h (by decide)
  | 4, 1, _, _, _, _ => ⟨_, row4_1 a n m c pa d b A B⟩
  | 4, C + 2, _, _, _, h => absurd h (by unfold nbK; omega)
  | 5, 0, _, _, h, _ => absurd h (by decide)
  | 5, 1, _, _, _, _ => ⟨_, row5_1 a n m c pa d b A B⟩
  | 5, C + 2, _, _, _, h => absurd h (by unfold nbK; omega)
  | 6, 0, _, _, h, _ => absurd h (by decide)
  | 6, 1, _, _, _, _ => ⟨_, row6_1 a n m c pa d b A B⟩
  | 6, C + 2, _, _, _, h => absurd h (by unfold nbK; omega)
  | 7, 0, _, _, h, _ => absurd h (by decide)
  | 7, 1, _, _, _, _ => ⟨_, row7_1 a n m c pa d b A B⟩
  | 7, C + 2, _, _, _, h => absurd h (by unfold nbK; omega)
  | 8, 0, _, _, h, _ => absurd h (by decide)
  | 8, 1, _, _, _, _ => ⟨_, row8_1 a n m c pa d b A B⟩
  | 8, C + 2, _, _, _, h => absurd h (by unfold nbK; omega)
  | 9, 0, _, _, h, _ => absurd h (by decide)
  | 9, 1, _, _, _, _ => ⟨_, row9_1 a n m c pa d b A B⟩
  | 9, 2, _, _, _, _ => ⟨_, row9_2 a n m c pa d b A B⟩
  | 9, C + 3, _, _, _, h => absurd h (by unfold nbK; omega)
  | 10, 0, _, _, h, _ => absurd h (by decide)
  | 10, 1, _, _, _, _ => ⟨_, row10_1 a n m c pa d b A B⟩
  | 10, 2, _, _, _, _ => ⟨_, row10_2 a n m c pa d b A B⟩
  | 10, C + 3, _, _, _, h => absurd h (by unfold nbK; omega)
  | 11, 0, _, _, h, _ => absurd h (by decide)
  | 11, 1, _, _, _, _ => ⟨_, row11_1 a n m c pa d b A B⟩
  | 11, 2, _, _, _, _ => ⟨_, row11_2 a n m c pa d b A B⟩
  | 11, C + 3, _, _, _, h => absurd h (by unfold nbK; omega)
  | 12, 0, _, _, h, _ => absurd h (by decide)
  | 12, 1, _, _, _, _ => ⟨_, row12_1 a n m c pa d b A B⟩
  | 12, 2, _, _, _, _ => ⟨_, row12_2 a n m c pa d b A B⟩
  | 12, C + 3, _, _, _, h => absurd h (by unfold nbK; omega)
  | 13, 0, _, _, h, _ => absurd h (by decide)
  | 13, 1, _, _, _, _ => ⟨_, row13_1 a n m c pa d b A B⟩
  | 13, 2, _, _, _, _ => ⟨_, row13_2 a n m c pa d b A B⟩
  | 13, C + 3, _, _, _, h => absurd h (by unfold nbK; omega)
  | 14, 0, _, _, h, _ => absurd h (by decide)
  | 14, 1, _, _, _, _ => ⟨_, row14_1 a n m c pa d b A B⟩
  | 14, 2, _, _, _, _ => ⟨_, row14_2 a n m c pa d b A B⟩
  | 14, C + 3, _, _, _, h => absurd h (by unfold nbK; omega)
  | 15, 0, _, _, h, _ => absurd h (by decide)
  | 15, 1, _, _, _, _ => ⟨_, row15_1 a n m c pa d b A B⟩
  | 15, 2, _, _, _, _ => ⟨_, row15_2 a n m c pa d b A B⟩
  | 15, C + 3, _, _, _, h => absurd h (by unfold nbK; omega)
  | 16, 0, _, _, h, _ => absurd h (by decide)
  | 16, 1, _, _, _, _ => ⟨_, row16_1 a n m c pa d b A B⟩
  | 16, 2, _, _, _, _ => ⟨_, row16_2 a n m c pa d b A B⟩
  | 16, C + 3, _, _, _, h => absurd h (by unfold nbK; omega)
  | 17, 0, _, _, h, _ => absurd h (by decide)
  | 17, 1, _, _, _, _ => ⟨_, row17_1 a n m c pa d b A B⟩
  | 17, 2, _, _, _, _ => ⟨_, row17_2 a n m c pa d b A B⟩
  | 17, 3, _, _, _, _ => ⟨_, row17_3 a n m c pa d b A B⟩
  | 17, C + 4, _, _, _, h => absurd h (by unfold nbK; omega)
  | 18, 0, _, _, h, _ => absurd h (by decide)
  | 18, 1, _, _, _, _ => ⟨_, row18_1 a n m c pa d b A B⟩
  | 18, 2, _, _, _, _ => ⟨_, row18_2 a n m c pa d b A B⟩
  | 18, 3, _, _, _, _ => ⟨_, row18_3 a n m c pa d b A B⟩
  | 18, C + 4, _, _, _, h => absurd h (by unfold nbK; omega)
  | 19, 0, _, _, h, _ => absurd h (by decide)
  | 19, 1, _, _, _, _ => ⟨_, row19_1 a n m c pa d b A B⟩
  | 19, 2, _, _, _, _ => ⟨_, row19_2 a n m c pa d b A B⟩
  | 19, 3, _, _, _, _ => ⟨_, row19_3 a n m c pa d b A B⟩
  | 19, C + 4, _, _, _, h => absurd h (by unfold nbK; omega)
  | 20, 0, _, _, h, _ => absurd h (by decide)
  | 20, 1, _, _, _, _ => ⟨_, row20_1 a n m c pa d b A B⟩
  | 20, 2, _, _, _, _ => ⟨_, row20_2 a n m c pa d b A B⟩
  | 20, 3, _, _, _, _ => ⟨_, row20_3 a n m c pa d b A B⟩
  | 20, C + 4, _, _, _, h => absurd h (by unfold nbK; omega)
  | 21, 0, _, _, h, _ => absurd h (by decide)
  | 21, 1, _, _, _, _ => ⟨_, row21_1 a n m c pa d b A B⟩
  | 21, 2, _, _, _, _ => ⟨_, row21_2 a n m c pa d b A B⟩
  | 21, 3, _, _, _, _ => ⟨_, row21_3 a n m c pa d b A B⟩
  | 21, C + 4, _, _, _, h => absurd h (by unfold nbK; omega)
  | 22, 0, _, _, h, _ => absurd h (by decide)
  | 22, 1, _, _, _, _ => ⟨_, row22_1 a n m c pa d b A B⟩
  | 22, 2, _, _, _, _ => ⟨_, row22_2 a n m c pa d b A B⟩
  | 22, 3, _, _, _, _ => ⟨_, row22_3 a n m c pa d b A B⟩
  | 22, C + 4, _, _, _, h => absurd h (by unfold nbK; omega)
  | 23, 0, _, _, h, _ => absurd h (by decide)
  | 23, 1, _, _, _, _ => ⟨_, row23_1 a n m c pa d b A B⟩
  | 23, 2, _, _, _, _ => ⟨_, row23_2 a n m c pa d b A B⟩
  | 23, 3, _, _, _, _ => ⟨_, row23_3 a n m c pa d b A B⟩
  | 23, C + 4, _, _, _, h => absurd h (by unfold nbK; omega)
  | 24, 0, _, _, h, _ => absurd h (by decide)
  | 24, 1, _, _, _, _ => ⟨_, row24_1 a n m c pa d b A B⟩
  | 24, 2, _, _, _, _ => ⟨_, row24_2 a n m c pa d b A B⟩
  | 24, 3, _, _, _, _ => ⟨_, row24_3 a n m c pa d b A B⟩
  | 24, C + 4, _, _, _, h => absurd h (by unfold nbK; omega)
  | 25, 0, _, _, h, _ => absurd h (by decide)
  | 25, 1, _, _, _, _ => ⟨_, row25_1 a n m c pa d b A B⟩
  | 25, 2, _, _, _, _ => ⟨_, row25_2 a n m c pa d b A B⟩
  | 25, 3, _, _, _, _ => ⟨_, row25_3 a n m c pa d b A B⟩
  | 25, 4, _, _, _, _ => ⟨_, row25_4 a n m c pa d b A B⟩
  | 25, C + 5, _, _, _, h => absurd h (by unfold nbK; omega)
  | 26, 0, _, _, h, _ => absurd h (by decide)
  | 26, 1, _, _, _, _ => ⟨_, row26_1 a n m c pa d b A B⟩
  | 26, 2, _, _, _, _ => ⟨_, row26_2 a n m c pa d b A B⟩
  | 26, 3, _, _, _, _ => ⟨_, row26_3 a n m c pa d b A B⟩
  | 26, 4, _, _, _, _ => ⟨_, row26_4 a n m c pa d b A B⟩
  | 26, C + 5, _, _, _, h => absurd h (by unfold nbK; omega)
  | 27, 0, _, _, h, _ => absurd h (by decide)
  | 27, 1, _, _, _, _ => ⟨_, row27_1 a n m c pa d b A B⟩
  | 27, 2, _, _, _, _ => ⟨_, row27_2 a n m c pa d b A B⟩
  | 27, 3, _, _, _, _ => ⟨_, row27_3 a n m c pa d b A B⟩
  | 27, 4, _, _, _, _ => ⟨_, row27_4 a n m c pa d b A B⟩
  | 27, C + 5, _, _, _, h => absurd h (by unfold nbK; omega)
  | 28, 0, _, _, h, _ => absurd h (by decide)
  | 28, 1, _, _, _, _ => ⟨_, row28_1 a n m c pa d b A B⟩
  | 28, 2, _, _, _, _ => ⟨_, row28_2 a n m c pa d b A B⟩
  | 28, 3, _, _, _, _ => ⟨_, row28_3 a n m c pa d b A B⟩
  | 28, 4, _, _, _, _ => ⟨_, row28_4 a n m c pa d b A B⟩
  | 28, C + 5, _, _, _, h => absurd h (by unfold nbK; omega)
  | 29, 0, _, _, h, _ => absurd h (by decide)
  | 29, 1, _, _, _, _ => ⟨_, row29_1 a n m c pa d b A B⟩
  | 29, 2, _, _, _, _ => ⟨_, row29_2 a n m c pa d b A B⟩
  | 29, 3, _, _, _, _ => ⟨_, row29_3 a n m c pa d b A B⟩
  | 29, 4, _, _, _, _ => ⟨_, row29_4 a n m c pa d b A B⟩
  | 29, C + 5, _, _, _, h => absurd h (by unfold nbK; omega)
  | 30, 0, _, _, h, _ => absurd h (by decide)
  | 30, 1, _, _, _, _ => ⟨_, row30_1 a n m c pa d b A B⟩
  | 30, 2, _, _, _, _ => ⟨_, row30_2 a n m c pa d b A B⟩
  | 30, 3, _, _, _, _ => ⟨_, row30_3 a n m c pa d b A B⟩
  | 30, 4, _, _, _, _ => ⟨_, row30_4 a n m c pa d b A B⟩
  | 30, C + 5, _, _, _, h => absurd h (by unfold nbK; omega)
  | 31, 0, _, _, h, _ => absurd h (by decide)
  | 31, 1, _, _, _, _ => ⟨_, row31_1 a n m c pa d b A B⟩
  | 31, 2, _, _, _, _ => ⟨_, row31_2 a n m c pa d b A B⟩
  | 31, 3, _, _, _, _ => ⟨_, row31_3 a n m c pa d b A B⟩
  | 31, 4, _, _, _, _ => ⟨_, row31_4 a n m c pa d b A B⟩
  | 31, C + 5, _, _, _, h => absurd h (by unfold nbK; omega)
  | 32, 0, _, _, h, _ => absurd h (by decide)
  | 32, 1, _, _, _, _ => ⟨_, row32_1 a n m c pa d b A B⟩
  | 32, 2, _, _, _, _ => ⟨_, row32_2 a n m c pa d b A B⟩
  | 32, 3, _, _, _, _ => ⟨_, row32_3 a n m c pa d b A B⟩
  | 32, 4, _, _, _, _ => ⟨_, row32_4 a n m c pa d b A B⟩
  | 32, C + 5, _, _, _, h => absurd h (by unfold nbK; omega)
  | K + 33, _, _, h, _, _ => absurd h (by omega)

/-! The numbers. -/
theorem wrap8 {x : Nat} (h : x < 256) : wrapF .u8 (x : Int) = x := by simp only [wrapF]; omega
theorem wrap32 {x : Nat} (h : x < 4294967296) : wrapF .u32 (x : Int) = x := by simp only [wrapF]; omega
theorem wrap64n {x : Nat} (h : x < 4294967296) : wrapF .i64 (x : Int) = x := wrap64 (by omega) (by omega)
theorem fits32 {x : Nat} (h : x < 4294967296) : fitsU .u32 (x : Int) = true := by rw [fitsU_in]; exact inU_nat.2 h
theorem fits8 {x : Nat} (h : x < 256) : fitsU .u8 (x : Int) = true := by
  show Nat.ble x 255 = true
  exact Nat.ble_eq_true_of_le (by omega)
theorem zero32_eq : zero32 = ((0 : Nat) : Int) := by decide +kernel
theorem rd_nat {x : Nat} (h : x < 256) : rd (x : Int) = x := by
  unfold rd; rw [zero32_eq, wrap32 (by omega), Int.toNat_natCast, Int.toNat_natCast, Nat.zero_or]
theorem fr_nat {x : Nat} (h : x < 256) : fr (x : Int) = true := by
  unfold fr; rw [zero32_eq, wrap32 (by omega), fits32 (by omega), fits32 (by omega)]; rfl
theorem pow_place {k : Nat} : 2 ^ (24 - 8 * k) ≤ 16777216 := by
  have := Nat.pow_le_pow_right (show 0 < 2 by decide) (show 24 - 8 * k ≤ 24 by omega)
  simpa using this
theorem sh_nat {x k : Nat} (h : x < 256) : sh k (x : Int) = ((x * 2 ^ (24 - 8 * k) : Nat) : Int) ∧ x * 2 ^ (24 - 8 * k) < 4294967296 := by
  have h2 : x * 2 ^ (24 - 8 * k) ≤ 255 * 16777216 := Nat.mul_le_mul (by omega) pow_place
  refine ⟨?_, by omega⟩
  unfold sh
  rw [wrap64n (by omega), wrap32 (by omega), ← Int.natCast_mul, wrap32 (by omega)]
def accN (e : Nat → Nat) : Nat → Nat
  | 0 => 0
  | k + 1 => accN e k ||| e k * 2 ^ (24 - 8 * k)
theorem accN_lt {e : Nat → Nat} (he : ∀ k, e k < 256) : ∀ k, accN e k < 4294967296
  | 0 => by unfold accN; decide
  | k + 1 => Nat.or_lt_two_pow (n := 32) (accN_lt he k) (sh_nat (k := k) (he k)).2
theorem acc_nat {z x k : Nat} (h : x < 256) : acc (z : Int) k (x : Int) = ((z ||| x * 2 ^ (24 - 8 * k) : Nat) : Int) := by
  unfold acc; rw [(sh_nat h).1, Int.toNat_natCast, Int.toNat_natCast]
theorem fa_nat {z x k : Nat} (hz : z < 4294967296) (h : x < 256) : fa (z : Int) k (x : Int) = true := by
  unfold fa; rw [(sh_nat h).1, fits32 hz, fits32 (sh_nat h).2]; rfl
def accI (e : Nat → Nat) (k : Nat) : Int := ((accN e (k + 1) : Nat) : Int)
theorem aa_acc (e : Nat → Nat) : ∀ k, aa (accI e) k = ((accN e k : Nat) : Int)
  | 0 => rfl
  | _ + 1 => rfl
theorem decC_holds {e : Nat → Nat} {f : Nat → Int} (he : ∀ k, e k < 256) : ∀ n, (∀ k, k < n → f k = ((e k : Nat) : Int)) → ∀ p ∈ decC f (accI e) n, p
  | 0, _ => by simp [decC]
  | k + 1, hf => by
    simp only [decC, List.forall_mem_cons]
    rw [hf k (by omega), rd_nat (he k), aa_acc, acc_nat (he k)]
    exact ⟨rfl, fa_nat (accN_lt he k) (he k), fr_nat (he k), decC_holds he k fun j hj => hf j (by omega)⟩
theorem lackC_holds {e : Nat → Nat} (he : ∀ k, e k < 256) (s : Nat) : ∀ j, (∀ k, s ≤ k → e k = 0) → ∀ p ∈ lackC (accI e) s j, p
  | 0, _ => by simp [lackC]
  | j + 1, hz => by
    simp only [lackC, List.forall_mem_cons]
    have h0 : ((0 : Nat) : Int) = 0 := rfl
    rw [aa_acc, ← h0, acc_nat (by decide)]
    refine ⟨?_, fa_nat (accN_lt he _) (by decide), lackC_holds he s j hz⟩
    show Value.int .u32 ((accN e (s + j) ||| 0 * 2 ^ (24 - 8 * (s + j)) : Nat) : Int) = Value.int .u32 ((accN e (s + j) ||| e (s + j) * 2 ^ (24 - 8 * (s + j)) : Nat) : Int)
    rw [hz (s + j) (by omega)]
def byteN (pa k : Nat) : Nat := pa / 2 ^ (24 - 8 * k) % 256
theorem byteN_lt (pa k : Nat) : byteN pa k < 256 := Nat.mod_lt _ (by decide)
theorem fdiv_nat (x k : Nat) : (x : Int).fdiv ((k : Nat) : Int) = ((x / k : Nat) : Int) := by
  rw [Int.fdiv_eq_ediv_of_nonneg _ (by omega)]; exact (Int.natCast_ediv x k).symm
theorem bytesC_holds {pa : Nat} (h : pa < 4294967296) : ∀ n, ∀ p ∈ bytesC (pa : Int) (fun k => ((byteN pa k : Nat) : Int)) n, p
  | 0 => by simp [bytesC]
  | k + 1 => by
    simp only [bytesC, List.forall_mem_cons]
    refine ⟨?_, bytesC_holds h k⟩
    have h1 : pa / 2 ^ (24 - 8 * k) < 4294967296 := Nat.lt_of_le_of_lt (Nat.div_le_self _ _) h
    rw [fdiv_nat, wrap64n h1, wrap32 h1, fdiv_nat]
    congr 1
    unfold byteN
    simp only [wrapF, Nat.pow_zero, Nat.div_one]
    omega
/-- Bits of what is read together. -/
theorem accN_bit {e : Nat → Nat} (he : ∀ k, e k < 256) (i : Nat) : ∀ n, n ≤ 4 → (accN e n).testBit i = (decide (32 - 8 * n ≤ i) && decide (i < 32) && (e ((31 - i) / 8)).testBit (i % 8))
  | 0, _ => by
    unfold accN
    rw [Nat.zero_testBit]
    by_cases h : i < 32
    · rw [decide_eq_false (show ¬ 32 - 8 * 0 ≤ i by omega)]; rfl
    · rw [decide_eq_false h, Bool.and_false, Bool.false_and]
  | n + 1, hn => by
    unfold accN
    rw [Nat.testBit_or, accN_bit he i n (by omega), ← Nat.shiftLeft_eq, Nat.testBit_shiftLeft]
    by_cases h1 : i < 32
    · by_cases h2 : 32 - 8 * n ≤ i
      · have : (e n).testBit (i - (24 - 8 * n)) = false := Nat.testBit_lt_two_pow (Nat.lt_of_lt_of_le (he n) (by
          have := Nat.pow_le_pow_right (show 0 < 2 by decide) (show 8 ≤ i - (24 - 8 * n) by omega)
          simpa using this))
        rw [this]
        simp [h1, h2, show 32 - 8 * (n + 1) ≤ i by omega]
      · by_cases h3 : 32 - 8 * (n + 1) ≤ i
        · have e1 : (31 - i) / 8 = n := by omega
          have e2 : i - (24 - 8 * n) = i % 8 := by omega
          rw [e1, e2]
          simp [h1, h2, h3, show 24 - 8 * n ≤ i by omega]
        · simp [h2, h3, show ¬ 24 - 8 * n ≤ i by omega]
    · have : (e n).testBit (i - (24 - 8 * n)) = false := Nat.testBit_lt_two_pow (Nat.lt_of_lt_of_le (he n) (by
          have := Nat.pow_le_pow_right (show 0 < 2 by decide) (show 8 ≤ i - (24 - 8 * n) by omega)
          simpa using this))
      rw [this]; simp [h1]
theorem byteN_bit {pa k j : Nat} (hj : j < 8) : (byteN pa k).testBit j = pa.testBit (j + (24 - 8 * k)) := by
  unfold byteN
  rw [show (256 : Nat) = 2 ^ 8 from rfl, Nat.testBit_mod_two_pow, ← Nat.shiftRight_eq_div_pow, Nat.testBit_shiftRight, decide_eq_true hj, Bool.true_and, Nat.add_comm]
/-- What is read is the prefix, whatever stands beyond its bits. -/
theorem back {pa K : Nat} {e : Nat → Nat} (hp : Pf pa K) (he : ∀ k, e k < 256) (hb : ∀ k j, k < nbK K → j < 8 → 32 - K ≤ j + (24 - 8 * k) → (e k).testBit j = (byteN pa k).testBit j) : fl (accN e (nbK K)) K = pa := by
  have hn : nbK K ≤ 4 := by unfold nbK; have := hp.2.1; omega
  apply Nat.eq_of_testBit_eq
  intro i
  rw [fl_bit, accN_bit he i _ hn]
  by_cases h1 : 32 - K ≤ i
  · by_cases h2 : i < 32
    · have h3 : 32 - 8 * nbK K ≤ i := by unfold nbK; omega
      have h4 : (31 - i) / 8 < nbK K := by unfold nbK; omega
      have h5 : i % 8 + (24 - 8 * ((31 - i) / 8)) = i := by omega
      rw [hb _ _ h4 (Nat.mod_lt _ (by decide)) (by omega), byteN_bit (Nat.mod_lt _ (by decide)), h5]
      simp [h1, h2, h3]
    · have : pa.testBit i = false := Nat.testBit_lt_two_pow (Nat.lt_of_lt_of_le hp.1 (by
        have := Nat.pow_le_pow_right (show 0 < 2 by decide) (show 32 ≤ i by omega)
        simpa using this))
      rw [this]; simp [h2]
  · rw [← hp.2.2, fl_bit]; simp [h1]
theorem more_nat (K : Nat) : moreS K = ((255 / 2 ^ (K % 8) : Nat) : Int) := by
  unfold moreS; exact fdiv_nat 255 _
theorem more_bit {m K j : Nat} (hj : 8 - K % 8 ≤ j) : (m &&& 255 / 2 ^ (K % 8)).testBit j = false := by
  rw [Nat.testBit_and, ← Nat.shiftRight_eq_div_pow, Nat.testBit_shiftRight]
  have : (255 : Nat).testBit (K % 8 + j) = false := Nat.testBit_lt_two_pow (Nat.lt_of_lt_of_le (by decide : 255 < 2 ^ 8) (Nat.pow_le_pow_right (by decide) (by omega)))
  rw [this, Bool.and_false]
theorem walk (a n m c : Int) (wa : (Lit.int .u32 a).wf = true) (_ : (Lit.int .i64 n).wf = true) (wm : (Lit.int .u8 m).wf = true) (_ : (Lit.int .i64 c).wf = true) (W : World) :
    Calls Try.prog 4 ⟨nArgs a n m c⟩ W fun e W' => e = .returned (.bool true) ∧ Below W.heap.size W W' := by
  have ha : inU a = true := by
    rw [inU_spec]; simp [Lit.wf, IntKind.min, IntKind.max, IntKind.signed, IntKind.bits] at wa; omega
  have hm : 0 ≤ m ∧ m < 256 := by simp [Lit.wf, IntKind.min, IntKind.max, IntKind.signed, IntKind.bits] at wm; omega
  obtain ⟨mN, rfl⟩ : ∃ x : Nat, m = x := ⟨m.toNat, by omega⟩
  have hmN : mN < 256 := by omega
  obtain ⟨pa, K, e1, hp, _, _⟩ := any_pf a n ha
  have hpU : inU (pa : Int) = true := inU_nat.2 hp.1
  have hR : Value.bool (rightB (pa : Int) (K : Int)) = Value.bool true := by rw [(right_iff hp.1).2 hp]
  have hcl : clN (K : Int) = (K : Int) := by unfold clN; rw [if_neg (by omega), if_neg (by have := hp.2.1; omega)]
  have hhead : ∀ p ∈ headC a n (pa : Int) K, p := by
    simp only [headC, List.forall_mem_cons]
    exact ⟨hR, hpU, e1, ha, by simp⟩
  rcases Nat.eq_zero_or_pos K with rfl | hK
  · refine calls_of_run Enb_sound good Try.func4 rfl (zrow a n mN c pa) ?_ rfl rfl W
    simp only [List.forall_mem_cons]
    have hz : pa = 0 := by rw [← hp.2.2]; exact fl_zero hp.1
    subst hz
    exact ⟨by simp, by rw [hcl]; rfl, hR, hpU, hhead⟩
  · have hnb1 : 1 ≤ nbK K := by unfold nbK; omega
    have hnb4 : nbK K ≤ 4 := by unfold nbK; have := hp.2.1; omega
    have c1 := Int.emod_nonneg c (show (nbK K : Int) ≠ 0 by omega)
    have c2 := Int.emod_lt_of_pos c (show (0 : Int) < (nbK K : Int) by omega)
    obtain ⟨C, hC⟩ : ∃ C : Nat, withinV c 1 (nbK K : Nat) = C := ⟨(withinV c 1 (nbK K : Nat)).toNat, by
      unfold withinV; rw [show ((nbK K : Nat) : Int) - 1 + 1 = (nbK K : Int) by omega]; omega⟩
    have hC1 : 1 ≤ C ∧ C ≤ nbK K := by
      unfold withinV at hC; rw [show ((nbK K : Nat) : Int) - 1 + 1 = (nbK K : Int) by omega] at hC; omega
    let b : Nat → Nat := byteN pa
    let d : Nat := byteN pa (nbK K - 1) ||| (mN &&& 255 / 2 ^ (K % 8))
    have hd : d < 256 := Nat.or_lt_two_pow (n := 8) (byteN_lt _ _) (Nat.lt_of_le_of_lt Nat.and_le_left hmN)
    let e : Nat → Nat := fun k => bif Nat.beq k (nbK K - 1) && !Nat.beq (K % 8) 0 then d else b k
    let b2 : Nat → Nat := fun k => bif Nat.blt k (C - 1) then b k else 0
    have he : ∀ k, e k < 256 := by
      intro k
      show (bif _ then d else b k) < 256
      cases (Nat.beq k (nbK K - 1) && !Nat.beq (K % 8) 0)
      · exact byteN_lt _ _
      · exact hd
    have hb2 : ∀ k, b2 k < 256 := by
      intro k
      show (bif _ then b k else 0) < 256
      cases Nat.blt k (C - 1)
      · show (0 : Nat) < 256; decide
      · exact byteN_lt _ _
    obtain ⟨π, hrow⟩ := rows a n mN c pa (d : Int) (fun k => ((b k : Nat) : Int)) (accI e) (accI b2) K C hK hp.2.1 hC1.1 hC1.2
    refine calls_of_run Enb_sound good Try.func4 rfl hrow ?_ rfl rfl W
    have hA : accI e (nbK K - 1) = ((accN e (nbK K) : Nat) : Int) := by unfold accI; rw [show nbK K - 1 + 1 = nbK K by omega]
    unfold conds
    rw [List.forall_mem_append]
    refine ⟨?_, ?_⟩
    · unfold secondC
      cases hble : Nat.ble C 1 with
      | true => simp
      | false =>
        simp only [cond, List.forall_mem_cons, List.forall_mem_append]
        refine ⟨inU_nat.2 (accN_lt hb2 _), lackC_holds hb2 _ _ ?_, decC_holds hb2 _ ?_⟩
        · intro k hk
          have : Nat.blt k (C - 1) = false := by
            cases hx : Nat.blt k (C - 1) with
            | false => rfl
            | true => rw [Nat.blt_eq] at hx; omega
          show (bif Nat.blt k (C - 1) then b k else 0) = 0
          rw [this]; rfl
        · intro k hk
          have : Nat.blt k (C - 1) = true := by rw [Nat.blt_eq]; exact hk
          show ((b k : Nat) : Int) = ((bif Nat.blt k (C - 1) then b k else 0 : Nat) : Int)
          rw [this]; rfl
    · simp only [List.forall_mem_cons, List.forall_mem_append]
      refine ⟨by rw [hC], by simp, ?_, by rw [hA]; exact inU_nat.2 (accN_lt he _), decC_holds he _ ?_, ?_, hR, hpU, bytesC_holds hp.1 _, hhead⟩
      · rw [hA, hcl, Int.toNat_natCast, and_mask (accN_lt he _) hp.2.1, back hp he]
        intro k j hk hj hkj
        show (bif Nat.beq k (nbK K - 1) && !Nat.beq (K % 8) 0 then d else b k).testBit j = _
        cases hc : (Nat.beq k (nbK K - 1) && !Nat.beq (K % 8) 0) with
        | false => rfl
        | true =>
          simp only [Bool.and_eq_true] at hc
          have hk2 : k = nbK K - 1 := Nat.eq_of_beq_eq_true hc.1
          subst hk2
          have hK8 : K % 8 ≠ 0 := fun h0 => by rw [h0] at hc; exact absurd hc.2 (by decide)
          have : (d).testBit j = (byteN pa (nbK K - 1)).testBit j := by
            show (byteN pa (nbK K - 1) ||| (mN &&& 255 / 2 ^ (K % 8))).testBit j = _
            rw [Nat.testBit_or, more_bit (by have := hp.2.1; unfold nbK at hkj; omega), Bool.or_false]
          exact this
      · intro k _
        show ee (d : Int) (fun k => ((b k : Nat) : Int)) K k = ((bif Nat.beq k (nbK K - 1) && !Nat.beq (K % 8) 0 then d else b k : Nat) : Int)
        unfold ee
        cases (Nat.beq k (nbK K - 1) && !Nat.beq (K % 8) 0) <;> rfl
      · unfold moreC
        cases hc : Nat.beq (K % 8) 0 with
        | true => simp
        | false =>
          have hs : 255 / 2 ^ (K % 8) < 256 := Nat.lt_of_le_of_lt (Nat.div_le_self _ _) (by decide)
          simp only [cond, List.forall_mem_cons]
          rw [more_nat K]
          simp only [Int.toNat_natCast]
          refine ⟨rfl, ?_, ?_, by simp⟩
          · rw [fits8 (byteN_lt _ _), fits8 (Nat.lt_of_le_of_lt Nat.and_le_left hmN)]; rfl
          · rw [fits8 hmN, fits8 hs]; rfl
end NlriBits
end Go.Proofs.Ytajokgjebffkgaa

