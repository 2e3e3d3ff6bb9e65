/- What InternRooms stands on: a number brought into its bounds; the chapter's runs are true. -/
import Derived.Test.YtmnnnickodfibaaPt
namespace Go.Proofs.Ytmnnnickodfibaa
open Go Go.Ev Go.RowKit
set_option maxRecDepth 100000
set_option linter.unusedVariables false
set_option linter.unusedSimpArgs false
def withinB (lo hi : Int) : Bool := decide (-1000000 ≤ lo) && decide (lo ≤ hi) && decide (hi ≤ 1000000)
def withinV (n lo hi : Int) : Int := lo + n % (hi - lo + 1)
def withinG : PFun
  | [.int .i64 n, .int .i64 lo, .int .i64 hi] => some (some (withinB lo hi), .int .i64 (withinV n lo hi))
  | _ => none
theorem withinG_args {args : List Value} {p : Option Bool} {v : Value} (h : withinG args = some (p, v)) : ∃ n lo hi, args = [.int .i64 n, .int .i64 lo, .int .i64 hi] ∧ p = some (withinB lo hi) ∧ v = .int .i64 (withinV n lo hi) := by
  unfold withinG at h
  split at h
  · simp only [Option.some.injEq, Prod.mk.injEq] at h
    exact ⟨_, _, _, rfl, h.1.symm, h.2.symm⟩
  · cases h
def withinD (lo hi : Int) : Int := wrapF .i64 (wrapF .i64 (hi - lo) + 1)
def withinT (n lo hi : Int) : PT := .need (!decide (withinD lo hi = 0)) true (.test (decide (n.tmod (withinD lo hi) < 0))
  (.leaf (.int .i64 (wrapF .i64 (lo + wrapF .i64 (wrapF .i64 (wrapF .i64 (n.tmod (withinD lo hi) + hi) - lo) + 1)))))
  (.leaf (.int .i64 (wrapF .i64 (lo + n.tmod (withinD lo hi))))))
theorem withinT_fits (n lo hi : Int) : (withinT n lo hi).Fits fun π => evRun Try.prog noEnv 50 4 [.int .i64 n, .int .i64 lo, .int .i64 hi] Try.prog.globals.size (some π) := by unfold PT.Fits; kernel_rfl
theorem wrap64 {x : Int} (h1 : -9223372036854775808 ≤ x) (h2 : x < 9223372036854775808) : wrapF .i64 x = x := by simp only [wrapF]; split <;> omega
theorem withinT_val (n lo hi : Int) (h : withinB lo hi = true) : (withinT n lo hi).val = some (.int .i64 (withinV n lo hi)) := by
  unfold withinB at h
  simp only [Bool.and_eq_true, decide_eq_true_eq] at h
  obtain ⟨⟨h1, h2⟩, h3⟩ := h
  have hd : withinD lo hi = hi - lo + 1 := by unfold withinD; rw [wrap64 (x := hi - lo) (by omega) (by omega), wrap64 (by omega) (by omega)]
  have hpos : 0 < hi - lo + 1 := by omega
  have a1 := Int.emod_nonneg n (show hi - lo + 1 ≠ 0 by omega)
  have a2 := Int.emod_lt_of_pos n hpos
  have a3 : n.tmod (hi - lo + 1) = n % (hi - lo + 1) ∨ n.tmod (hi - lo + 1) = n % (hi - lo + 1) - (hi - lo + 1) ∧ n % (hi - lo + 1) ≠ 0 := by
    rw [Int.tmod_eq_emod]
    split
    · left; omega
    · rename_i hc
      right
      have : ((hi - lo + 1).natAbs : Int) = hi - lo + 1 := by omega
      rw [this]
      refine ⟨rfl, fun h0 => hc (Or.inr (Int.dvd_of_emod_eq_zero h0))⟩
  unfold withinT withinV
  rw [PT.val_need, PT.val_test, PT.val_leaf, PT.val_leaf, hd, if_pos (by rw [decide_eq_false (by omega)]; rfl)]
  rcases a3 with a3 | ⟨a3, a4⟩
  · rw [a3, if_neg (by rw [decide_eq_true_eq]; omega), wrap64 (by omega) (by omega)]
  · rw [a3, if_pos (by rw [decide_eq_true_eq]; omega), wrap64 (x := n % (hi - lo + 1) - (hi - lo + 1) + hi) (by omega) (by omega), wrap64 (x := n % (hi - lo + 1) - (hi - lo + 1) + hi - lo) (by omega) (by omega), wrap64 (x := n % (hi - lo + 1) - (hi - lo + 1) + hi - lo + 1) (by omega) (by omega), wrap64 (by omega) (by omega)]
    congr 3; omega
theorem within_sum : PureSum Try.prog 4 withinG := .of_tree noEnv_sound good Try.func4 (by kernel_rfl) rfl fun args p v h hp _ => by
  obtain ⟨n, lo, hi, rfl, rfl, rfl⟩ := withinG_args h
  exact ⟨rfl, _, withinT_fits n lo hi, withinT_val n lo hi hp⟩
def trueG : PFun
  | [] => some (none, .bool true)
  | _ => none
theorem trueG_args {args : List Value} {p : Option Bool} {v : Value} (h : trueG args = some (p, v)) : args = [] ∧ v = .bool true := by
  unfold trueG at h
  split at h
  · simp only [Option.some.injEq, Prod.mk.injEq] at h
    exact ⟨rfl, h.2.symm⟩
  · cases h

noncomputable abbrev BK : Code := bodyOf Try.f11
noncomputable abbrev NTK : Nat := Try.f11.ntmps
theorem known_run : pieceF Try.prog SL PTS 11 5000 Try.prog.globals.size (nav [] BK) NTK [] [0] [] [] = some (.ret, [], [(0, .bool true)]) := by kernel_rfl
theorem known_walk (W : World) : Calls Try.prog 11 #[] W fun e W' => e = .returned (.bool true) ∧ Below W.heap.size W W' :=
  Goes.calls (H := hk Try.prog.globals.size []) (t := tk NTK [(0, .bool true)]) (e := .ret) (s' := ⟨hk Try.prog.globals.size [], 0, none, []⟩) Try.func11 (show Try.f11.body = some (nav [] BK) by kernel_rfl) (Nat.le_of_ble_eq_true (by kernel_rfl)) (pieceF_goes SL_ok PTS_ok good (p := []) Try.func11 (c := BK) (by kernel_rfl) (by kernel_rfl) known_run) (.inl rfl) (by kernel_rfl) rfl rfl
theorem known_sum : PureSum Try.prog 11 trueG := .of_calls Try.func11 (by kernel_rfl) rfl fun args p v h _ _ => by
  obtain ⟨rfl, rfl⟩ := trueG_args h
  exact ⟨rfl, fun W => known_walk W⟩
noncomputable def SR : List (FuncId × PFun) := [(4, withinG), (11, trueG)]
theorem SR_ok : PureSums Try.prog SR := ⟨within_sum, known_sum, trivial⟩
def ER : Env := pureEnv [(4, withinG), (11, trueG)]
theorem ER_sound : ER.Sound Try.prog := pureEnv_sound (P := Try.prog) (l := [(4, withinG), (11, trueG)]) ⟨within_sum, known_sum, trivial⟩
end Go.Proofs.Ytmnnnickodfibaa
