/- P10.1: OPENs are written, and read, as the document says, for any; their bytes with one turned, too: OpenTells' ways. -/
import Derived.Test.YtajokgjebffkgaaRs
namespace Go.Proofs.Ytajokgjebffkgaa
open Go Go.Ev Go.RowKit
set_option maxRecDepth 100000
namespace OpenRead
theorem known_run : runTrue Try.prog noEnv 200 34 #[] Try.prog.globals.size = true := by kernel_rfl
theorem known_sum : PureSum Try.prog 34 trueG := .of_calls Try.func34 (by kernel_rfl) rfl fun args p v h _ _ => by
  obtain ⟨rfl, rfl⟩ := trueG_args h
  exact ⟨rfl, fun W => calls_true noEnv_sound good Try.func34 rfl known_run rfl W⟩
def E7 : Env := rowEnv (pureEnv [(13, withinG), (34, trueG), (39, sameG)]) 40 .u8 60 (.bool true)
theorem E7_sound : E7.Sound Try.prog := rowEnv_sound (pureEnv_sound (P := Try.prog) (l := [(13, withinG), (34, trueG), (39, sameG)]) ⟨within_sum, known_sum, same_sum, trivial⟩) read_sum
/-- The ten bytes. -/
def xs (a h d : Int) : List Int := [4, b8 a 1, wrapF .u8 a, b8 h 1, wrapF .u8 h, b8 d 3, b8 d 2, b8 d 1, wrapF .u8 d, 0]
def orI (i : Int) : Int := ((i.toNat ||| Int.toNat 1 : Nat) : Int)
def turned (l : List Int) (m : Nat) (t : Int) : List Int := l.set m (((l.getD m 0).toNat ^^^ t.toNat : Nat) : Int)
def ints (l : List Int) : List Value := l.map (Value.int .u8)
def rowC (len : Nat) (cs : List Value) : Prop := len ≤ 60 ∧ cs.all (intOk .u8) = true
def capB (k : Nat) (cells : List Value) : Bool := decide ((0 : Int) ≤ (k : Int) ∧ (k : Int) ≤ ((((⟨cells⟩ : Array Value).size - 0) / 1 : Nat) : Int))
def headC (w1 w2 i a1 h1 a h : Int) : List Prop := [rowC 10 (ints (xs a h (orI i))), sameB (orI i) = true, sameB i = true, (fitsU .u32 i && fitsU .u32 1) = true,
  Value.int .i64 (wrapF .i64 (3 + h1)) = Value.int .i64 h, Value.int .i64 (withinV w2 0 65532) = Value.int .i64 h1, Value.int .i64 (wrapF .i64 (1 + a1)) = Value.int .i64 a, Value.int .i64 (withinV w1 0 65534) = Value.int .i64 a1]
def midC (i w3 t a h : Int) (m : Nat) (c : List Prop) : List Prop := rowC 10 (ints (turned (xs a h (orI i)) m t)) :: ((fitsU .u8 ((xs a h (orI i)).getD m 0) && fitsU .u8 t) = true) :: (Value.int .i64 (withinV w3 0 9) = Value.int .i64 m) :: c
def cN (w1 w2 i w3 t a1 h1 a h : Int) (m : Nat) : List Prop := rowC 10 (ints (turned (xs a h (orI i)) m t)) :: midC i w3 t a h m (headC w1 w2 i a1 h1 a h)
def cS (w1 w2 i w3 t a1 h1 a h : Int) (z : Nat → Int) (L m : Nat) : List Prop := rowC (10 + L) (ints (turned (xs a h (orI i)) m t) ++ mkI .u8 z L) :: midC i w3 t a h m (rowC L (mkI .u8 z L) :: headC w1 w2 i a1 h1 a h)
def cM (w1 w2 i w3 t a1 h1 a h : Int) (z : Nat → Int) (rest : List Value) (n m : Nat) : List Prop :=
  rowC 15 (ints (turned (xs a h (orI i)) m t) ++ mkI .u8 z 5) :: (capB 5 (mkI .u8 z 6 ++ rest) = true) :: (decide (((n : Nat) : Int) > 5) = true) ::
  midC i w3 t a h m (rowC n ((⟨mkI .u8 z 6 ++ rest⟩ : Array Value).extract 0 (0 + n)).toList :: (decide (((n : Nat) : Int) > 60) = false) :: headC w1 w2 i a1 h1 a h)
def cL (w1 w2 i w3 t a1 h1 a h : Int) (z : Nat → Int) (rest : List Value) (n m : Nat) : List Prop :=
  rowC 15 (ints (turned (xs a h (orI i)) m t) ++ mkI .u8 z 5) :: (capB 5 (mkI .u8 z 61 ++ rest) = true) :: (decide (((n : Nat) : Int) > 5) = true) ::
  midC i w3 t a h m (rowC 60 (mkI .u8 z 60) :: (capB 60 (mkI .u8 z 61 ++ rest) = true) :: (decide (((n : Nat) : Int) > 60) = true) :: headC w1 w2 i a1 h1 a h)
abbrev pre3 (w1 w2 i : Int) : List Value := [.int .i64 w1, .int .i64 w2, .int .u32 i]
abbrev post2 (w3 t : Int) : List Value := [.int .i64 w3, .int .u8 t]
def TNRow (w1 w2 i w3 t : Int) (π : List Ans) (cs : List Prop) : Prop := evRun Try.prog E7 200 10 [.int .i64 w1, .int .i64 w2, .int .u32 i, .slice none 0 0, .int .i64 w3, .int .u8 t] Try.prog.globals.size (some π) = some (.bool true, cs)
def TRow (w1 w2 i w3 t : Int) (cells : List Value) (n : Nat) (π : List Ans) (cs : List Prop) : Prop := evRunR Try.prog E7 200 10 (pre3 w1 w2 i ++ .slice (some ⟨Try.prog.globals.size, 0, none⟩) n 0 :: post2 w3 t) Try.prog.globals.size [cells] (some π) = some (.bool true, cs)
def qS (a1 h1 a h : Int) (m : Nat) : List Ans := [.reck 0, .as (.int .i64 a1), .nm 0 (.int .i64 a), .reck 0, .as (.int .i64 h1), .nm 0 (.int .i64 h), .bit true, .reck 33, .bit true, .reck 7, .bit true, .reck 13, .as (.int .i64 m), .reck 0, .bit true, .reck 1000]
def qM (a1 h1 a h : Int) (m : Nat) : List Ans := [.reck 0, .as (.int .i64 a1), .nm 0 (.int .i64 a), .reck 0, .as (.int .i64 h1), .nm 0 (.int .i64 h), .bit true, .reck 33, .bit true, .reck 7, .bit true, .reck 7, .bit false, .reck 4, .as (.int .i64 m), .reck 0, .bit true, .reck 4, .bit true, .bit true, .reck 1000]
def qL (a1 h1 a h : Int) (m : Nat) : List Ans := [.reck 0, .as (.int .i64 a1), .nm 0 (.int .i64 a), .reck 0, .as (.int .i64 h1), .nm 0 (.int .i64 h), .bit true, .reck 33, .bit true, .reck 7, .bit true, .reck 7, .bit true, .bit true, .reck 4, .as (.int .i64 m), .reck 0, .bit true, .reck 4, .bit true, .bit true, .reck 1000]
theorem tn0 (w1 w2 i w3 t a1 h1 a h : Int) : TNRow w1 w2 i w3 t (qS a1 h1 a h 0) (cN w1 w2 i w3 t a1 h1 a h 0) := by unfold TNRow; kernel_rfl
theorem tm0 (w1 w2 i w3 t a1 h1 a h : Int) (z : Nat → Int) (rest : List Value) (n : Nat) : TRow w1 w2 i w3 t (mkI .u8 z 6 ++ rest) n (qM a1 h1 a h 0) (cM w1 w2 i w3 t a1 h1 a h z rest n 0) := by unfold TRow; kernel_rfl
theorem tl0 (w1 w2 i w3 t a1 h1 a h : Int) (z : Nat → Int) (rest : List Value) (n : Nat) : TRow w1 w2 i w3 t (mkI .u8 z 61 ++ rest) n (qL a1 h1 a h 0) (cL w1 w2 i w3 t a1 h1 a h z rest n 0) := by unfold TRow; kernel_rfl
theorem ts0_0 (w1 w2 i w3 t a1 h1 a h : Int) (z : Nat → Int) : TRow w1 w2 i w3 t (mkI .u8 z 0) 0 (qS a1 h1 a h 0) (cS w1 w2 i w3 t a1 h1 a h z 0 0) := by unfold TRow; kernel_rfl
theorem ts0_1 (w1 w2 i w3 t a1 h1 a h : Int) (z : Nat → Int) : TRow w1 w2 i w3 t (mkI .u8 z 1) 1 (qS a1 h1 a h 0) (cS w1 w2 i w3 t a1 h1 a h z 1 0) := by unfold TRow; kernel_rfl
theorem ts0_2 (w1 w2 i w3 t a1 h1 a h : Int) (z : Nat → Int) : TRow w1 w2 i w3 t (mkI .u8 z 2) 2 (qS a1 h1 a h 0) (cS w1 w2 i w3 t a1 h1 a h z 2 0) := by unfold TRow; kernel_rfl
theorem ts0_3 (w1 w2 i w3 t a1 h1 a h : Int) (z : Nat → Int) : TRow w1 w2 i w3 t (mkI .u8 z 3) 3 (qS a1 h1 a h 0) (cS w1 w2 i w3 t a1 h1 a h z 3 0) := by unfold TRow; kernel_rfl
theorem ts0_4 (w1 w2 i w3 t a1 h1 a h : Int) (z : Nat → Int) : TRow w1 w2 i w3 t (mkI .u8 z 4) 4 (qS a1 h1 a h 0) (cS w1 w2 i w3 t a1 h1 a h z 4 0) := by unfold TRow; kernel_rfl
theorem ts0_5 (w1 w2 i w3 t a1 h1 a h : Int) (z : Nat → Int) : TRow w1 w2 i w3 t (mkI .u8 z 5) 5 (qS a1 h1 a h 0) (cS w1 w2 i w3 t a1 h1 a h z 5 0) := by unfold TRow; kernel_rfl
theorem tn1 (w1 w2 i w3 t a1 h1 a h : Int) : TNRow w1 w2 i w3 t (qS a1 h1 a h 1) (cN w1 w2 i w3 t a1 h1 a h 1) := by unfold TNRow; kernel_rfl
theorem tm1 (w1 w2 i w3 t a1 h1 a h : Int) (z : Nat → Int) (rest : List Value) (n : Nat) : TRow w1 w2 i w3 t (mkI .u8 z 6 ++ rest) n (qM a1 h1 a h 1) (cM w1 w2 i w3 t a1 h1 a h z rest n 1) := by unfold TRow; kernel_rfl
theorem tl1 (w1 w2 i w3 t a1 h1 a h : Int) (z : Nat → Int) (rest : List Value) (n : Nat) : TRow w1 w2 i w3 t (mkI .u8 z 61 ++ rest) n (qL a1 h1 a h 1) (cL w1 w2 i w3 t a1 h1 a h z rest n 1) := by unfold TRow; kernel_rfl
theorem ts1_0 (w1 w2 i w3 t a1 h1 a h : Int) (z : Nat → Int) : TRow w1 w2 i w3 t (mkI .u8 z 0) 0 (qS a1 h1 a h 1) (cS w1 w2 i w3 t a1 h1 a h z 0 1) := by unfold TRow; kernel_rfl
theorem ts1_1 (w1 w2 i w3 t a1 h1 a h : Int) (z : Nat → Int) : TRow w1 w2 i w3 t (mkI .u8 z 1) 1 (qS a1 h1 a h 1) (cS w1 w2 i w3 t a1 h1 a h z 1 1) := by unfold TRow; kernel_rfl
theorem ts1_2 (w1 w2 i w3 t a1 h1 a h : Int) (z : Nat → Int) : TRow w1 w2 i w3 t (mkI .u8 z 2) 2 (qS a1 h1 a h 1) (cS w1 w2 i w3 t a1 h1 a h z 2 1) := by unfold TRow; kernel_rfl
theorem ts1_3 (w1 w2 i w3 t a1 h1 a h : Int) (z : Nat → Int) : TRow w1 w2 i w3 t (mkI .u8 z 3) 3 (qS a1 h1 a h 1) (cS w1 w2 i w3 t a1 h1 a h z 3 1) := by unfold TRow; kernel_rfl
theorem ts1_4 (w1 w2 i w3 t a1 h1 a h : Int) (z : Nat → Int) : TRow w1 w2 i w3 t (mkI .u8 z 4) 4 (qS a1 h1 a h 1) (cS w1 w2 i w3 t a1 h1 a h z 4 1) := by unfold TRow; kernel_rfl
theorem ts1_5 (w1 w2 i w3 t a1 h1 a h : Int) (z : Nat → Int) : TRow w1 w2 i w3 t (mkI .u8 z 5) 5 (qS a1 h1 a h 1) (cS w1 w2 i w3 t a1 h1 a h z 5 1) := by unfold TRow; kernel_rfl
theorem tn2 (w1 w2 i w3 t a1 h1 a h : Int) : TNRow w1 w2 i w3 t (qS a1 h1 a h 2) (cN w1 w2 i w3 t a1 h1 a h 2) := by unfold TNRow; kernel_rfl
theorem tm2 (w1 w2 i w3 t a1 h1 a h : Int) (z : Nat → Int) (rest : List Value) (n : Nat) : TRow w1 w2 i w3 t (mkI .u8 z 6 ++ rest) n (qM a1 h1 a h 2) (cM w1 w2 i w3 t a1 h1 a h z rest n 2) := by unfold TRow; kernel_rfl
theorem tl2 (w1 w2 i w3 t a1 h1 a h : Int) (z : Nat → Int) (rest : List Value) (n : Nat) : TRow w1 w2 i w3 t (mkI .u8 z 61 ++ rest) n (qL a1 h1 a h 2) (cL w1 w2 i w3 t a1 h1 a h z rest n 2) := by unfold TRow; kernel_rfl
theorem ts2_0 (w1 w2 i w3 t a1 h1 a h : Int) (z : Nat → Int) : TRow w1 w2 i w3 t (mkI .u8 z 0) 0 (qS a1 h1 a h 2) (cS w1 w2 i w3 t a1 h1 a h z 0 2) := by unfold TRow; kernel_rfl
theorem ts2_1 (w1 w2 i w3 t a1 h1 a h : Int) (z : Nat → Int) : TRow w1 w2 i w3 t (mkI .u8 z 1) 1 (qS a1 h1 a h 2) (cS w1 w2 i w3 t a1 h1 a h z 1 2) := by unfold TRow; kernel_rfl
theorem ts2_2 (w1 w2 i w3 t a1 h1 a h : Int) (z : Nat → Int) : TRow w1 w2 i w3 t (mkI .u8 z 2) 2 (qS a1 h1 a h 2) (cS w1 w2 i w3 t a1 h1 a h z 2 2) := by unfold TRow; kernel_rfl
theorem ts2_3 (w1 w2 i w3 t a1 h1 a h : Int) (z : Nat → Int) : TRow w1 w2 i w3 t (mkI .u8 z 3) 3 (qS a1 h1 a h 2) (cS w1 w2 i w3 t a1 h1 a h z 3 2) := by unfold TRow; kernel_rfl
theorem ts2_4 (w1 w2 i w3 t a1 h1 a h : Int) (z : Nat → Int) : TRow w1 w2 i w3 t (mkI .u8 z 4) 4 (qS a1 h1 a h 2) (cS w1 w2 i w3 t a1 h1 a h z 4 2) := by unfold TRow; kernel_rfl
theorem ts2_5 (w1 w2 i w3 t a1 h1 a h : Int) (z : Nat → Int) : TRow w1 w2 i w3 t (mkI .u8 z 5) 5 (qS a1 h1 a h 2) (cS w1 w2 i w3 t a1 h1 a h z 5 2) := by unfold TRow; kernel_rfl
theorem tn3 (w1 w2 i w3 t a1 h1 a h : Int) : TNRow w1 w2 i w3 t (qS a1 h1 a h 3) (cN w1 w2 i w3 t a1 h1 a h 3) := by unfold TNRow; kernel_rfl
theorem tm3 (w1 w2 i w3 t a1 h1 a h : Int) (z : Nat → Int) (rest : List Value) (n : Nat) : TRow w1 w2 i w3 t (mkI .u8 z 6 ++ rest) n (qM a1 h1 a h 3) (cM w1 w2 i w3 t a1 h1 a h z rest n 3) := by unfold TRow; kernel_rfl
theorem tl3 (w1 w2 i w3 t a1 h1 a h : Int) (z : Nat → Int) (rest : List Value) (n : Nat) : TRow w1 w2 i w3 t (mkI .u8 z 61 ++ rest) n (qL a1 h1 a h 3) (cL w1 w2 i w3 t a1 h1 a h z rest n 3) := by unfold TRow; kernel_rfl
theorem ts3_0 (w1 w2 i w3 t a1 h1 a h : Int) (z : Nat → Int) : TRow w1 w2 i w3 t (mkI .u8 z 0) 0 (qS a1 h1 a h 3) (cS w1 w2 i w3 t a1 h1 a h z 0 3) := by unfold TRow; kernel_rfl
theorem ts3_1 (w1 w2 i w3 t a1 h1 a h : Int) (z : Nat → Int) : TRow w1 w2 i w3 t (mkI .u8 z 1) 1 (qS a1 h1 a h 3) (cS w1 w2 i w3 t a1 h1 a h z 1 3) := by unfold TRow; kernel_rfl
theorem ts3_2 (w1 w2 i w3 t a1 h1 a h : Int) (z : Nat → Int) : TRow w1 w2 i w3 t (mkI .u8 z 2) 2 (qS a1 h1 a h 3) (cS w1 w2 i w3 t a1 h1 a h z 2 3) := by unfold TRow; kernel_rfl
theorem ts3_3 (w1 w2 i w3 t a1 h1 a h : Int) (z : Nat → Int) : TRow w1 w2 i w3 t (mkI .u8 z 3) 3 (qS a1 h1 a h 3) (cS w1 w2 i w3 t a1 h1 a h z 3 3) := by unfold TRow; kernel_rfl
theorem ts3_4 (w1 w2 i w3 t a1 h1 a h : Int) (z : Nat → Int) : TRow w1 w2 i w3 t (mkI .u8 z 4) 4 (qS a1 h1 a h 3) (cS w1 w2 i w3 t a1 h1 a h z 4 3) := by unfold TRow; kernel_rfl
theorem ts3_5 (w1 w2 i w3 t a1 h1 a h : Int) (z : Nat → Int) : TRow w1 w2 i w3 t (mkI .u8 z 5) 5 (qS a1 h1 a h 3) (cS w1 w2 i w3 t a1 h1 a h z 5 3) := by unfold TRow; kernel_rfl
theorem tn4 (w1 w2 i w3 t a1 h1 a h : Int) : TNRow w1 w2 i w3 t (qS a1 h1 a h 4) (cN w1 w2 i w3 t a1 h1 a h 4) := by unfold TNRow; kernel_rfl
theorem tm4 (w1 w2 i w3 t a1 h1 a h : Int) (z : Nat → Int) (rest : List Value) (n : Nat) : TRow w1 w2 i w3 t (mkI .u8 z 6 ++ rest) n (qM a1 h1 a h 4) (cM w1 w2 i w3 t a1 h1 a h z rest n 4) := by unfold TRow; kernel_rfl
theorem tl4 (w1 w2 i w3 t a1 h1 a h : Int) (z : Nat → Int) (rest : List Value) (n : Nat) : TRow w1 w2 i w3 t (mkI .u8 z 61 ++ rest) n (qL a1 h1 a h 4) (cL w1 w2 i w3 t a1 h1 a h z rest n 4) := by unfold TRow; kernel_rfl
theorem ts4_0 (w1 w2 i w3 t a1 h1 a h : Int) (z : Nat → Int) : TRow w1 w2 i w3 t (mkI .u8 z 0) 0 (qS a1 h1 a h 4) (cS w1 w2 i w3 t a1 h1 a h z 0 4) := by unfold TRow; kernel_rfl
theorem ts4_1 (w1 w2 i w3 t a1 h1 a h : Int) (z : Nat → Int) : TRow w1 w2 i w3 t (mkI .u8 z 1) 1 (qS a1 h1 a h 4) (cS w1 w2 i w3 t a1 h1 a h z 1 4) := by unfold TRow; kernel_rfl
theorem ts4_2 (w1 w2 i w3 t a1 h1 a h : Int) (z : Nat → Int) : TRow w1 w2 i w3 t (mkI .u8 z 2) 2 (qS a1 h1 a h 4) (cS w1 w2 i w3 t a1 h1 a h z 2 4) := by unfold TRow; kernel_rfl
theorem ts4_3 (w1 w2 i w3 t a1 h1 a h : Int) (z : Nat → Int) : TRow w1 w2 i w3 t (mkI .u8 z 3) 3 (qS a1 h1 a h 4) (cS w1 w2 i w3 t a1 h1 a h z 3 4) := by unfold TRow; kernel_rfl
theorem ts4_4 (w1 w2 i w3 t a1 h1 a h : Int) (z : Nat → Int) : TRow w1 w2 i w3 t (mkI .u8 z 4) 4 (qS a1 h1 a h 4) (cS w1 w2 i w3 t a1 h1 a h z 4 4) := by unfold TRow; kernel_rfl
theorem ts4_5 (w1 w2 i w3 t a1 h1 a h : Int) (z : Nat → Int) : TRow w1 w2 i w3 t (mkI .u8 z 5) 5 (qS a1 h1 a h 4) (cS w1 w2 i w3 t a1 h1 a h z 5 4) := by unfold TRow; kernel_rfl
theorem tn5 (w1 w2 i w3 t a1 h1 a h : Int) : TNRow w1 w2 i w3 t (qS a1 h1 a h 5) (cN w1 w2 i w3 t a1 h1 a h 5) := by unfold TNRow; kernel_rfl
theorem tm5 (w1 w2 i w3 t a1 h1 a h : Int) (z : Nat → Int) (rest : List Value) (n : Nat) : TRow w1 w2 i w3 t (mkI .u8 z 6 ++ rest) n (qM a1 h1 a h 5) (cM w1 w2 i w3 t a1 h1 a h z rest n 5) := by unfold TRow; kernel_rfl
theorem tl5 (w1 w2 i w3 t a1 h1 a h : Int) (z : Nat → Int) (rest : List Value) (n : Nat) : TRow w1 w2 i w3 t (mkI .u8 z 61 ++ rest) n (qL a1 h1 a h 5) (cL w1 w2 i w3 t a1 h1 a h z rest n 5) := by unfold TRow; kernel_rfl
theorem ts5_0 (w1 w2 i w3 t a1 h1 a h : Int) (z : Nat → Int) : TRow w1 w2 i w3 t (mkI .u8 z 0) 0 (qS a1 h1 a h 5) (cS w1 w2 i w3 t a1 h1 a h z 0 5) := by unfold TRow; kernel_rfl
theorem ts5_1 (w1 w2 i w3 t a1 h1 a h : Int) (z : Nat → Int) : TRow w1 w2 i w3 t (mkI .u8 z 1) 1 (qS a1 h1 a h 5) (cS w1 w2 i w3 t a1 h1 a h z 1 5) := by unfold TRow; kernel_rfl
theorem ts5_2 (w1 w2 i w3 t a1 h1 a h : Int) (z : Nat → Int) : TRow w1 w2 i w3 t (mkI .u8 z 2) 2 (qS a1 h1 a h 5) (cS w1 w2 i w3 t a1 h1 a h z 2 5) := by unfold TRow; kernel_rfl
theorem ts5_3 (w1 w2 i w3 t a1 h1 a h : Int) (z : Nat → Int) : TRow w1 w2 i w3 t (mkI .u8 z 3) 3 (qS a1 h1 a h 5) (cS w1 w2 i w3 t a1 h1 a h z 3 5) := by unfold TRow; kernel_rfl
theorem ts5_4 (w1 w2 i w3 t a1 h1 a h : Int) (z : Nat → Int) : TRow w1 w2 i w3 t (mkI .u8 z 4) 4 (qS a1 h1 a h 5) (cS w1 w2 i w3 t a1 h1 a h z 4 5) := by unfold TRow; kernel_rfl
theorem ts5_5 (w1 w2 i w3 t a1 h1 a h : Int) (z : Nat → Int) : TRow w1 w2 i w3 t (mkI .u8 z 5) 5 (qS a1 h1 a h 5) (cS w1 w2 i w3 t a1 h1 a h z 5 5) := by unfold TRow; kernel_rfl
theorem tn6 (w1 w2 i w3 t a1 h1 a h : Int) : TNRow w1 w2 i w3 t (qS a1 h1 a h 6) (cN w1 w2 i w3 t a1 h1 a h 6) := by unfold TNRow; kernel_rfl
theorem tm6 (w1 w2 i w3 t a1 h1 a h : Int) (z : Nat → Int) (rest : List Value) (n : Nat) : TRow w1 w2 i w3 t (mkI .u8 z 6 ++ rest) n (qM a1 h1 a h 6) (cM w1 w2 i w3 t a1 h1 a h z rest n 6) := by unfold TRow; kernel_rfl
theorem tl6 (w1 w2 i w3 t a1 h1 a h : Int) (z : Nat → Int) (rest : List Value) (n : Nat) : TRow w1 w2 i w3 t (mkI .u8 z 61 ++ rest) n (qL a1 h1 a h 6) (cL w1 w2 i w3 t a1 h1 a h z rest n 6) := by unfold TRow; kernel_rfl
theorem ts6_0 (w1 w2 i w3 t a1 h1 a h : Int) (z : Nat → Int) : TRow w1 w2 i w3 t (mkI .u8 z 0) 0 (qS a1 h1 a h 6) (cS w1 w2 i w3 t a1 h1 a h z 0 6) := by unfold TRow; kernel_rfl
theorem ts6_1 (w1 w2 i w3 t a1 h1 a h : Int) (z : Nat → Int) : TRow w1 w2 i w3 t (mkI .u8 z 1) 1 (qS a1 h1 a h 6) (cS w1 w2 i w3 t a1 h1 a h z 1 6) := by unfold TRow; kernel_rfl
theorem ts6_2 (w1 w2 i w3 t a1 h1 a h : Int) (z : Nat → Int) : TRow w1 w2 i w3 t (mkI .u8 z 2) 2 (qS a1 h1 a h 6) (cS w1 w2 i w3 t a1 h1 a h z 2 6) := by unfold TRow; kernel_rfl
theorem ts6_3 (w1 w2 i w3 t a1 h1 a h : Int) (z : Nat → Int) : TRow w1 w2 i w3 t (mkI .u8 z 3) 3 (qS a1 h1 a h 6) (cS w1 w2 i w3 t a1 h1 a h z 3 6) := by unfold TRow; kernel_rfl
theorem ts6_4 (w1 w2 i w3 t a1 h1 a h : Int) (z : Nat → Int) : TRow w1 w2 i w3 t (mkI .u8 z 4) 4 (qS a1 h1 a h 6) (cS w1 w2 i w3 t a1 h1 a h z 4 6) := by unfold TRow; kernel_rfl
theorem ts6_5 (w1 w2 i w3 t a1 h1 a h : Int) (z : Nat → Int) : TRow w1 w2 i w3 t (mkI .u8 z 5) 5 (qS a1 h1 a h 6) (cS w1 w2 i w3 t a1 h1 a h z 5 6) := by unfold TRow; kernel_rfl
theorem tn7 (w1 w2 i w3 t a1 h1 a h : Int) : TNRow w1 w2 i w3 t (qS a1 h1 a h 7) (cN w1 w2 i w3 t a1 h1 a h 7) := by unfold TNRow; kernel_rfl
theorem tm7 (w1 w2 i w3 t a1 h1 a h : Int) (z : Nat → Int) (rest : List Value) (n : Nat) : TRow w1 w2 i w3 t (mkI .u8 z 6 ++ rest) n (qM a1 h1 a h 7) (cM w1 w2 i w3 t a1 h1 a h z rest n 7) := by unfold TRow; kernel_rfl
theorem tl7 (w1 w2 i w3 t a1 h1 a h : Int) (z : Nat → Int) (rest : List Value) (n : Nat) : TRow w1 w2 i w3 t (mkI .u8 z 61 ++ rest) n (qL a1 h1 a h 7) (cL w1 w2 i w3 t a1 h1 a h z rest n 7) := by unfold TRow; kernel_rfl
theorem ts7_0 (w1 w2 i w3 t a1 h1 a h : Int) (z : Nat → Int) : TRow w1 w2 i w3 t (mkI .u8 z 0) 0 (qS a1 h1 a h 7) (cS w1 w2 i w3 t a1 h1 a h z 0 7) := by unfold TRow; kernel_rfl
theorem ts7_1 (w1 w2 i w3 t a1 h1 a h : Int) (z : Nat → Int) : TRow w1 w2 i w3 t (mkI .u8 z 1) 1 (qS a1 h1 a h 7) (cS w1 w2 i w3 t a1 h1 a h z 1 7) := by unfold TRow; kernel_rfl
theorem ts7_2 (w1 w2 i w3 t a1 h1 a h : Int) (z : Nat → Int) : TRow w1 w2 i w3 t (mkI .u8 z 2) 2 (qS a1 h1 a h 7) (cS w1 w2 i w3 t a1 h1 a h z 2 7) := by unfold TRow; kernel_rfl
theorem ts7_3 (w1 w2 i w3 t a1 h1 a h : Int) (z : Nat → Int) : TRow w1 w2 i w3 t (mkI .u8 z 3) 3 (qS a1 h1 a h 7) (cS w1 w2 i w3 t a1 h1 a h z 3 7) := by unfold TRow; kernel_rfl
theorem ts7_4 (w1 w2 i w3 t a1 h1 a h : Int) (z : Nat → Int) : TRow w1 w2 i w3 t (mkI .u8 z 4) 4 (qS a1 h1 a h 7) (cS w1 w2 i w3 t a1 h1 a h z 4 7) := by unfold TRow; kernel_rfl
theorem ts7_5 (w1 w2 i w3 t a1 h1 a h : Int) (z : Nat → Int) : TRow w1 w2 i w3 t (mkI .u8 z 5) 5 (qS a1 h1 a h 7) (cS w1 w2 i w3 t a1 h1 a h z 5 7) := by unfold TRow; kernel_rfl
theorem tn8 (w1 w2 i w3 t a1 h1 a h : Int) : TNRow w1 w2 i w3 t (qS a1 h1 a h 8) (cN w1 w2 i w3 t a1 h1 a h 8) := by unfold TNRow; kernel_rfl
theorem tm8 (w1 w2 i w3 t a1 h1 a h : Int) (z : Nat → Int) (rest : List Value) (n : Nat) : TRow w1 w2 i w3 t (mkI .u8 z 6 ++ rest) n (qM a1 h1 a h 8) (cM w1 w2 i w3 t a1 h1 a h z rest n 8) := by unfold TRow; kernel_rfl
theorem tl8 (w1 w2 i w3 t a1 h1 a h : Int) (z : Nat → Int) (rest : List Value) (n : Nat) : TRow w1 w2 i w3 t (mkI .u8 z 61 ++ rest) n (qL a1 h1 a h 8) (cL w1 w2 i w3 t a1 h1 a h z rest n 8) := by unfold TRow; kernel_rfl
theorem ts8_0 (w1 w2 i w3 t a1 h1 a h : Int) (z : Nat → Int) : TRow w1 w2 i w3 t (mkI .u8 z 0) 0 (qS a1 h1 a h 8) (cS w1 w2 i w3 t a1 h1 a h z 0 8) := by unfold TRow; kernel_rfl
theorem ts8_1 (w1 w2 i w3 t a1 h1 a h : Int) (z : Nat → Int) : TRow w1 w2 i w3 t (mkI .u8 z 1) 1 (qS a1 h1 a h 8) (cS w1 w2 i w3 t a1 h1 a h z 1 8) := by unfold TRow; kernel_rfl
theorem ts8_2 (w1 w2 i w3 t a1 h1 a h : Int) (z : Nat → Int) : TRow w1 w2 i w3 t (mkI .u8 z 2) 2 (qS a1 h1 a h 8) (cS w1 w2 i w3 t a1 h1 a h z 2 8) := by unfold TRow; kernel_rfl
theorem ts8_3 (w1 w2 i w3 t a1 h1 a h : Int) (z : Nat → Int) : TRow w1 w2 i w3 t (mkI .u8 z 3) 3 (qS a1 h1 a h 8) (cS w1 w2 i w3 t a1 h1 a h z 3 8) := by unfold TRow; kernel_rfl
theorem ts8_4 (w1 w2 i w3 t a1 h1 a h : Int) (z : Nat → Int) : TRow w1 w2 i w3 t (mkI .u8 z 4) 4 (qS a1 h1 a h 8) (cS w1 w2 i w3 t a1 h1 a h z 4 8) := by unfold TRow; kernel_rfl
theorem ts8_5 (w1 w2 i w3 t a1 h1 a h : Int) (z : Nat → Int) : TRow w1 w2 i w3 t (mkI .u8 z 5) 5 (qS a1 h1 a h 8) (cS w1 w2 i w3 t a1 h1 a h z 5 8) := by unfold TRow; kernel_rfl
theorem tn9 (w1 w2 i w3 t a1 h1 a h : Int) : TNRow w1 w2 i w3 t (qS a1 h1 a h 9) (cN w1 w2 i w3 t a1 h1 a h 9) := by unfold TNRow; kernel_rfl
theorem tm9 (w1 w2 i w3 t a1 h1 a h : Int) (z : Nat → Int) (rest : List Value) (n : Nat) : TRow w1 w2 i w3 t (mkI .u8 z 6 ++ rest) n (qM a1 h1 a h 9) (cM w1 w2 i w3 t a1 h1 a h z rest n 9) := by unfold TRow; kernel_rfl
theorem tl9 (w1 w2 i w3 t a1 h1 a h : Int) (z : Nat → Int) (rest : List Value) (n : Nat) : TRow w1 w2 i w3 t (mkI .u8 z 61 ++ rest) n (qL a1 h1 a h 9) (cL w1 w2 i w3 t a1 h1 a h z rest n 9) := by unfold TRow; kernel_rfl
theorem ts9_0 (w1 w2 i w3 t a1 h1 a h : Int) (z : Nat → Int) : TRow w1 w2 i w3 t (mkI .u8 z 0) 0 (qS a1 h1 a h 9) (cS w1 w2 i w3 t a1 h1 a h z 0 9) := by unfold TRow; kernel_rfl
theorem ts9_1 (w1 w2 i w3 t a1 h1 a h : Int) (z : Nat → Int) : TRow w1 w2 i w3 t (mkI .u8 z 1) 1 (qS a1 h1 a h 9) (cS w1 w2 i w3 t a1 h1 a h z 1 9) := by unfold TRow; kernel_rfl
theorem ts9_2 (w1 w2 i w3 t a1 h1 a h : Int) (z : Nat → Int) : TRow w1 w2 i w3 t (mkI .u8 z 2) 2 (qS a1 h1 a h 9) (cS w1 w2 i w3 t a1 h1 a h z 2 9) := by unfold TRow; kernel_rfl
theorem ts9_3 (w1 w2 i w3 t a1 h1 a h : Int) (z : Nat → Int) : TRow w1 w2 i w3 t (mkI .u8 z 3) 3 (qS a1 h1 a h 9) (cS w1 w2 i w3 t a1 h1 a h z 3 9) := by unfold TRow; kernel_rfl
theorem ts9_4 (w1 w2 i w3 t a1 h1 a h : Int) (z : Nat → Int) : TRow w1 w2 i w3 t (mkI .u8 z 4) 4 (qS a1 h1 a h 9) (cS w1 w2 i w3 t a1 h1 a h z 4 9) := by unfold TRow; kernel_rfl
theorem ts9_5 (w1 w2 i w3 t a1 h1 a h : Int) (z : Nat → Int) : TRow w1 w2 i w3 t (mkI .u8 z 5) 5 (qS a1 h1 a h 9) (cS w1 w2 i w3 t a1 h1 a h z 5 9) := by unfold TRow; kernel_rfl
theorem tns (w1 w2 i w3 t a1 h1 a h : Int) : ∀ m : Nat, m ≤ 9 → TNRow w1 w2 i w3 t (qS a1 h1 a h m) (cN w1 w2 i w3 t a1 h1 a h m)
  | 0, _ => tn0 w1 w2 i w3 t a1 h1 a h
  | 1, _ => tn1 w1 w2 i w3 t a1 h1 a h
  | 2, _ => tn2 w1 w2 i w3 t a1 h1 a h
  | 3, _ => tn3 w1 w2 i w3 t a1 h1 a h
  | 4, _ => tn4 w1 w2 i w3 t a1 h1 a h
  | 5, _ => tn5 w1 w2 i w3 t a1 h1 a h
  | 6, _ => tn6 w1 w2 i w3 t a1 h1 a h
  | 7, _ => tn7 w1 w2 i w3 t a1 h1 a h
  | 8, _ => tn8 w1 w2 i w3 t a1 h1 a h
  | 9, _ => tn9 w1 w2 i w3 t a1 h1 a h
  | m + 10, h => absurd h (by omega)
theorem tms (w1 w2 i w3 t a1 h1 a h : Int) (z : Nat → Int) (rest : List Value) (n : Nat) : ∀ m : Nat, m ≤ 9 → TRow w1 w2 i w3 t (mkI .u8 z 6 ++ rest) n (qM a1 h1 a h m) (cM w1 w2 i w3 t a1 h1 a h z rest n m)
  | 0, _ => tm0 w1 w2 i w3 t a1 h1 a h z rest n
  | 1, _ => tm1 w1 w2 i w3 t a1 h1 a h z rest n
  | 2, _ => tm2 w1 w2 i w3 t a1 h1 a h z rest n
  | 3, _ => tm3 w1 w2 i w3 t a1 h1 a h z rest n
  | 4, _ => tm4 w1 w2 i w3 t a1 h1 a h z rest n
  | 5, _ => tm5 w1 w2 i w3 t a1 h1 a h z rest n
  | 6, _ => tm6 w1 w2 i w3 t a1 h1 a h z rest n
  | 7, _ => tm7 w1 w2 i w3 t a1 h1 a h z rest n
  | 8, _ => tm8 w1 w2 i w3 t a1 h1 a h z rest n
  | 9, _ => tm9 w1 w2 i w3 t a1 h1 a h z rest n
  | m + 10, h => absurd h (by omega)
theorem tls (w1 w2 i w3 t a1 h1 a h : Int) (z : Nat → Int) (rest : List Value) (n : Nat) : ∀ m : Nat, m ≤ 9 → TRow w1 w2 i w3 t (mkI .u8 z 61 ++ rest) n (qL a1 h1 a h m) (cL w1 w2 i w3 t a1 h1 a h z rest n m)
  | 0, _ => tl0 w1 w2 i w3 t a1 h1 a h z rest n
  | 1, _ => tl1 w1 w2 i w3 t a1 h1 a h z rest n
  | 2, _ => tl2 w1 w2 i w3 t a1 h1 a h z rest n
  | 3, _ => tl3 w1 w2 i w3 t a1 h1 a h z rest n
  | 4, _ => tl4 w1 w2 i w3 t a1 h1 a h z rest n
  | 5, _ => tl5 w1 w2 i w3 t a1 h1 a h z rest n
  | 6, _ => tl6 w1 w2 i w3 t a1 h1 a h z rest n
  | 7, _ => tl7 w1 w2 i w3 t a1 h1 a h z rest n
  | 8, _ => tl8 w1 w2 i w3 t a1 h1 a h z rest n
  | 9, _ => tl9 w1 w2 i w3 t a1 h1 a h z rest n
  | m + 10, h => absurd h (by omega)
theorem tss0 (w1 w2 i w3 t a1 h1 a h : Int) (z : Nat → Int) : ∀ m : Nat, m ≤ 9 → TRow w1 w2 i w3 t (mkI .u8 z 0) 0 (qS a1 h1 a h m) (cS w1 w2 i w3 t a1 h1 a h z 0 m)
  | 0, _ => ts0_0 w1 w2 i w3 t a1 h1 a h z
  | 1, _ => ts1_0 w1 w2 i w3 t a1 h1 a h z
  | 2, _ => ts2_0 w1 w2 i w3 t a1 h1 a h z
  | 3, _ => ts3_0 w1 w2 i w3 t a1 h1 a h z
  | 4, _ => ts4_0 w1 w2 i w3 t a1 h1 a h z
  | 5, _ => ts5_0 w1 w2 i w3 t a1 h1 a h z
  | 6, _ => ts6_0 w1 w2 i w3 t a1 h1 a h z
  | 7, _ => ts7_0 w1 w2 i w3 t a1 h1 a h z
  | 8, _ => ts8_0 w1 w2 i w3 t a1 h1 a h z
  | 9, _ => ts9_0 w1 w2 i w3 t a1 h1 a h z
  | m + 10, h => absurd h (by omega)
theorem tss1 (w1 w2 i w3 t a1 h1 a h : Int) (z : Nat → Int) : ∀ m : Nat, m ≤ 9 → TRow w1 w2 i w3 t (mkI .u8 z 1) 1 (qS a1 h1 a h m) (cS w1 w2 i w3 t a1 h1 a h z 1 m)
  | 0, _ => ts0_1 w1 w2 i w3 t a1 h1 a h z
  | 1, _ => ts1_1 w1 w2 i w3 t a1 h1 a h z
  | 2, _ => ts2_1 w1 w2 i w3 t a1 h1 a h z
  | 3, _ => ts3_1 w1 w2 i w3 t a1 h1 a h z
  | 4, _ => ts4_1 w1 w2 i w3 t a1 h1 a h z
  | 5, _ => ts5_1 w1 w2 i w3 t a1 h1 a h z
  | 6, _ => ts6_1 w1 w2 i w3 t a1 h1 a h z
  | 7, _ => ts7_1 w1 w2 i w3 t a1 h1 a h z
  | 8, _ => ts8_1 w1 w2 i w3 t a1 h1 a h z
  | 9, _ => ts9_1 w1 w2 i w3 t a1 h1 a h z
  | m + 10, h => absurd h (by omega)
theorem tss2 (w1 w2 i w3 t a1 h1 a h : Int) (z : Nat → Int) : ∀ m : Nat, m ≤ 9 → TRow w1 w2 i w3 t (mkI .u8 z 2) 2 (qS a1 h1 a h m) (cS w1 w2 i w3 t a1 h1 a h z 2 m)
  | 0, _ => ts0_2 w1 w2 i w3 t a1 h1 a h z
  | 1, _ => ts1_2 w1 w2 i w3 t a1 h1 a h z
  | 2, _ => ts2_2 w1 w2 i w3 t a1 h1 a h z
  | 3, _ => ts3_2 w1 w2 i w3 t a1 h1 a h z
  | 4, _ => ts4_2 w1 w2 i w3 t a1 h1 a h z
  | 5, _ => ts5_2 w1 w2 i w3 t a1 h1 a h z
  | 6, _ => ts6_2 w1 w2 i w3 t a1 h1 a h z
  | 7, _ => ts7_2 w1 w2 i w3 t a1 h1 a h z
  | 8, _ => ts8_2 w1 w2 i w3 t a1 h1 a h z
  | 9, _ => ts9_2 w1 w2 i w3 t a1 h1 a h z
  | m + 10, h => absurd h (by omega)
theorem tss3 (w1 w2 i w3 t a1 h1 a h : Int) (z : Nat → Int) : ∀ m : Nat, m ≤ 9 → TRow w1 w2 i w3 t (mkI .u8 z 3) 3 (qS a1 h1 a h m) (cS w1 w2 i w3 t a1 h1 a h z 3 m)
  | 0, _ => ts0_3 w1 w2 i w3 t a1 h1 a h z
  | 1, _ => ts1_3 w1 w2 i w3 t a1 h1 a h z
  | 2, _ => ts2_3 w1 w2 i w3 t a1 h1 a h z
  | 3, _ => ts3_3 w1 w2 i w3 t a1 h1 a h z
  | 4, _ => ts4_3 w1 w2 i w3 t a1 h1 a h z
  | 5, _ => ts5_3 w1 w2 i w3 t a1 h1 a h z
  | 6, _ => ts6_3 w1 w2 i w3 t a1 h1 a h z
  | 7, _ => ts7_3 w1 w2 i w3 t a1 h1 a h z
  | 8, _ => ts8_3 w1 w2 i w3 t a1 h1 a h z
  | 9, _ => ts9_3 w1 w2 i w3 t a1 h1 a h z
  | m + 10, h => absurd h (by omega)
theorem tss4 (w1 w2 i w3 t a1 h1 a h : Int) (z : Nat → Int) : ∀ m : Nat, m ≤ 9 → TRow w1 w2 i w3 t (mkI .u8 z 4) 4 (qS a1 h1 a h m) (cS w1 w2 i w3 t a1 h1 a h z 4 m)
  | 0, _ => ts0_4 w1 w2 i w3 t a1 h1 a h z
  | 1, _ => ts1_4 w1 w2 i w3 t a1 h1 a h z
  | 2, _ => ts2_4 w1 w2 i w3 t a1 h1 a h z
  | 3, _ => ts3_4 w1 w2 i w3 t a1 h1 a h z
  | 4, _ => ts4_4 w1 w2 i w3 t a1 h1 a h z
  | 5, _ => ts5_4 w1 w2 i w3 t a1 h1 a h z
  | 6, _ => ts6_4 w1 w2 i w3 t a1 h1 a h z
  | 7, _ => ts7_4 w1 w2 i w3 t a1 h1 a h z
  | 8, _ => ts8_4 w1 w2 i w3 t a1 h1 a h z
  | 9, _ => ts9_4 w1 w2 i w3 t a1 h1 a h z
  | m + 10, h => absurd h (by omega)
theorem tss5 (w1 w2 i w3 t a1 h1 a h : Int) (z : Nat → Int) : ∀ m : Nat, m ≤ 9 → TRow w1 w2 i w3 t (mkI .u8 z 5) 5 (qS a1 h1 a h m) (cS w1 w2 i w3 t a1 h1 a h z 5 m)
  | 0, _ => ts0_5 w1 w2 i w3 t a1 h1 a h z
  | 1, _ => ts1_5 w1 w2 i w3 t a1 h1 a h z
  | 2, _ => ts2_5 w1 w2 i w3 t a1 h1 a h z
  | 3, _ => ts3_5 w1 w2 i w3 t a1 h1 a h z
  | 4, _ => ts4_5 w1 w2 i w3 t a1 h1 a h z
  | 5, _ => ts5_5 w1 w2 i w3 t a1 h1 a h z
  | 6, _ => ts6_5 w1 w2 i w3 t a1 h1 a h z
  | 7, _ => ts7_5 w1 w2 i w3 t a1 h1 a h z
  | 8, _ => ts8_5 w1 w2 i w3 t a1 h1 a h z
  | 9, _ => ts9_5 w1 w2 i w3 t a1 h1 a h z
  | m + 10, h => absurd h (by omega)
theorem tss (w1 w2 i w3 t a1 h1 a h : Int) (z : Nat → Int) (m : Nat) (hm : m ≤ 9) : ∀ L : Nat, L ≤ 5 → TRow w1 w2 i w3 t (mkI .u8 z L) L (qS a1 h1 a h m) (cS w1 w2 i w3 t a1 h1 a h z L m)
  | 0, _ => tss0 w1 w2 i w3 t a1 h1 a h z m hm
  | 1, _ => tss1 w1 w2 i w3 t a1 h1 a h z m hm
  | 2, _ => tss2 w1 w2 i w3 t a1 h1 a h z m hm
  | 3, _ => tss3 w1 w2 i w3 t a1 h1 a h z m hm
  | 4, _ => tss4 w1 w2 i w3 t a1 h1 a h z m hm
  | 5, _ => tss5 w1 w2 i w3 t a1 h1 a h z m hm
  | L + 6, h => absurd h (by omega)
end OpenRead
end Go.Proofs.Ytajokgjebffkgaa
