/- P12.1: a message that does not belong to a state ends the line with 5, 0; a NOTIFICATION ends it without a word: the walk. -/
import Derived.Test.YtiencdfpehanaaaGreatWb
import Derived.Test.YtiencdfpehanaaaGreatWc
import Derived.Test.YtiencdfpehanaaaGreatWd
namespace Go.Proofs.YtiencdfpehanaaaGreat
open Go Go.Ev Go.RowKit
set_option maxRecDepth 100000
namespace SessW
theorem walk (a b : Int) (_ : (Lit.int .i64 a).wf = true) (_ : (Lit.int .i64 b).wf = true) (W : World) : Calls Tryz.prog 3 #[.int .i64 a, .int .i64 b] W fun e W' => e = .returned (.bool true) ∧ Below W.heap.size W W' := by
  have go : ∀ {n k : Int} {q t : Nat}, SRow a b n k q t → withinV b 4 7 = k → withinV a 0 2 = n → Calls Tryz.prog 3 #[.int .i64 a, .int .i64 b] W fun e W' => e = .returned (.bool true) ∧ Below W.heap.size W W' := by
    intro n k q t h h1 h2
    refine calls_of_run E_sound good Tryz.func3 rfl h (fun p hp => ?_) rfl rfl W
    simp only [List.mem_cons, List.not_mem_nil, or_false] at hp
    rcases hp with rfl | rfl
    · unfold atC; rw [h1]
    · unfold atC; rw [h2]
  have hn : withinV a 0 2 = 0 ∨ withinV a 0 2 = 1 ∨ withinV a 0 2 = 2 := by unfold withinV; omega
  have hk : withinV b 4 7 = 4 ∨ withinV b 4 7 = 5 ∨ withinV b 4 7 = 6 ∨ withinV b 4 7 = 7 := by unfold withinV; omega
  rcases hn with hn | hn | hn <;> rcases hk with hk | hk | hk | hk
  · exact go (r_0_4 a b) hk hn
  · exact go (r_0_5 a b) hk hn
  · exact go (r_0_6 a b) hk hn
  · exact go (r_0_7 a b) hk hn
  · exact go (r_1_4 a b) hk hn
  · exact go (r_1_5 a b) hk hn
  · exact go (r_1_6 a b) hk hn
  · exact go (r_1_7 a b) hk hn
  · exact go (r_2_4 a b) hk hn
  · exact go (r_2_5 a b) hk hn
  · exact go (r_2_6 a b) hk hn
  · exact go (r_2_7 a b) hk hn
end SessW
end Go.Proofs.YtiencdfpehanaaaGreat
