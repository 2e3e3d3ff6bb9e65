/- P5.1: of several things that may not be, the first one is told: FrameFirst's ways. -/
import Derived.Test.YtajokgjebffkgaaBa
namespace Go.Proofs.Ytajokgjebffkgaa
open Go Go.Ev Go.RowKit
set_option maxRecDepth 100000
namespace FrameFirst
theorem known_run : runTrue Try.prog noEnv 200 16 #[] Try.prog.globals.size = true := by kernel_rfl
theorem known_sum : PureSum Try.prog 16 trueG := .of_calls Try.func16 (by kernel_rfl) rfl fun args p v h _ _ => by
  obtain ⟨rfl, rfl⟩ := trueG_args h
  exact ⟨rfl, fun W => calls_true noEnv_sound good Try.func16 rfl known_run rfl W⟩
def E1 : Env := pureEnv [(13, withinG), (16, trueG)]
theorem E1_sound : E1.Sound Try.prog := pureEnv_sound ⟨within_sum, known_sum, trivial⟩
abbrev fArgs (w a t : Int) : List Value := [.int .i64 w, .int .i64 a, .int .u8 t]
def path0 (m : Nat) : List Ans := [.reck 54, .as (.int .i64 0), .reck 14, .as (.int .i64 m), .bit true, .reck (5 + 3 * m), .bit true, .reck 30]
def byteZ (t : Int) : Int := ((t.toNat ^^^ t.toNat &&& Int.toNat 1 : Nat) : Int)
def conds0 (w a t : Int) (m : Nat) : List Prop := [(!decide (byteZ t = 255)) = true, (fitsU .u8 t && fitsU .u8 1) = true, Value.int .i64 (withinV a 0 15) = .int .i64 m, Value.int .i64 (withinV w 0 3) = .int .i64 0]
def Row (w a t : Int) (m : Nat) : Prop := evRun Try.prog E1 200 3 (fArgs w a t) Try.prog.globals.size (some (path0 m)) = some (.bool true, conds0 w a t m)
theorem row0 (w a t : Int) : Row w a t 0 := by unfold Row; kernel_rfl
theorem row1 (w a t : Int) : Row w a t 1 := by unfold Row; kernel_rfl
theorem row2 (w a t : Int) : Row w a t 2 := by unfold Row; kernel_rfl
theorem row3 (w a t : Int) : Row w a t 3 := by unfold Row; kernel_rfl
theorem row4 (w a t : Int) : Row w a t 4 := by unfold Row; kernel_rfl
theorem row5 (w a t : Int) : Row w a t 5 := by unfold Row; kernel_rfl
theorem row6 (w a t : Int) : Row w a t 6 := by unfold Row; kernel_rfl
theorem row7 (w a t : Int) : Row w a t 7 := by unfold Row; kernel_rfl
theorem row8 (w a t : Int) : Row w a t 8 := by unfold Row; kernel_rfl
theorem row9 (w a t : Int) : Row w a t 9 := by unfold Row; kernel_rfl
theorem row10 (w a t : Int) : Row w a t 10 := by unfold Row; kernel_rfl
theorem row11 (w a t : Int) : Row w a t 11 := by unfold Row; kernel_rfl
theorem row12 (w a t : Int) : Row w a t 12 := by unfold Row; kernel_rfl
theorem row13 (w a t : Int) : Row w a t 13 := by unfold Row; kernel_rfl
theorem row14 (w a t : Int) : Row w a t 14 := by unfold Row; kernel_rfl
theorem row15 (w a t : Int) : Row w a t 15 := by unfold Row; kernel_rfl
theorem rows (w a t : Int) : ∀ m : Nat, m ≤ 15 → Row w a t m
  | 0, _ => row0 w a t
  | 1, _ => row1 w a t
  | 2, _ => row2 w a t
  | 3, _ => row3 w a t
  | 4, _ => row4 w a t
  | 5, _ => row5 w a t
  | 6, _ => row6 w a t
  | 7, _ => row7 w a t
  | 8, _ => row8 w a t
  | 9, _ => row9 w a t
  | 10, _ => row10 w a t
  | 11, _ => row11 w a t
  | 12, _ => row12 w a t
  | 13, _ => row13 w a t
  | 14, _ => row14 w a t
  | 15, _ => row15 w a t
  | m + 16, h => absurd h (by omega)
theorem row_1 (w a t : Int) : evRun Try.prog E1 200 3 (fArgs w a t) Try.prog.globals.size (some [.reck 54, .as (.int .i64 1), .reck 142]) = some (.bool true, [Value.int .i64 (withinV w 0 3) = .int .i64 1]) := by kernel_rfl
theorem row_2 (w a t : Int) : evRun Try.prog E1 200 3 (fArgs w a t) Try.prog.globals.size (some [.reck 54, .as (.int .i64 2), .reck 142]) = some (.bool true, [Value.int .i64 (withinV w 0 3) = .int .i64 2]) := by kernel_rfl
theorem row_3 (w a t : Int) : evRun Try.prog E1 200 3 (fArgs w a t) Try.prog.globals.size (some [.reck 54, .as (.int .i64 3), .reck 143]) = some (.bool true, [Value.int .i64 (withinV w 0 3) = .int .i64 3]) := by kernel_rfl
theorem walk (w a t : Int) (_ : (Lit.int .i64 w).wf = true) (_ : (Lit.int .i64 a).wf = true) (wt : (Lit.int .u8 t).wf = true) (W : World) :
    Calls Try.prog 3 ⟨fArgs w a t⟩ W fun e W' => e = .returned (.bool true) ∧ Below W.heap.size W W' := by
  have ht : 0 ≤ t ∧ t < 256 := by simp [Lit.wf, IntKind.min, IntKind.max, IntKind.signed, IntKind.bits] at wt; omega
  have b1 := Int.emod_nonneg w (show (4 : Int) ≠ 0 by decide)
  have b2 := Int.emod_lt_of_pos w (show (0 : Int) < 4 by decide)
  have hw : withinV w 0 3 = w % 4 := by unfold withinV; rw [Int.zero_add]; rfl
  have ha : withinV a 0 15 = a % 16 := by unfold withinV; rw [Int.zero_add]; rfl
  have cases4 : w % 4 = 0 ∨ w % 4 = 1 ∨ w % 4 = 2 ∨ w % 4 = 3 := by omega
  rcases cases4 with h | h | h | h
  · have c1 := Int.emod_nonneg a (show (16 : Int) ≠ 0 by decide)
    have c2 := Int.emod_lt_of_pos a (show (0 : Int) < 16 by decide)
    obtain ⟨m, hm⟩ : ∃ m : Nat, a % 16 = m := ⟨(a % 16).toNat, by omega⟩
    refine calls_of_run E1_sound good Try.func3 rfl (rows w a t m (by omega)) ?_ rfl rfl W
    simp only [conds0, List.forall_mem_cons]
    obtain ⟨x, rfl⟩ : ∃ x : Nat, t = x := ⟨t.toNat, by omega⟩
    refine ⟨?_, ?_, by rw [ha, hm], by rw [hw, h], by simp⟩
    · have key : ∀ x : Fin 256, (!decide (byteZ (x.val : Int) = 255)) = true := by decide +kernel
      exact key ⟨x, by omega⟩
    · have key : ∀ x : Fin 256, (fitsU .u8 (x.val : Int) && fitsU .u8 1) = true := by decide +kernel
      exact key ⟨x, by omega⟩
  · exact calls_of_run E1_sound good Try.func3 rfl (row_1 w a t) (by simp only [List.forall_mem_cons]; exact ⟨by rw [hw, h], by simp⟩) rfl rfl W
  · exact calls_of_run E1_sound good Try.func3 rfl (row_2 w a t) (by simp only [List.forall_mem_cons]; exact ⟨by rw [hw, h], by simp⟩) rfl rfl W
  · exact calls_of_run E1_sound good Try.func3 rfl (row_3 w a t) (by simp only [List.forall_mem_cons]; exact ⟨by rw [hw, h], by simp⟩) rfl rfl W
end FrameFirst
end Go.Proofs.Ytajokgjebffkgaa
