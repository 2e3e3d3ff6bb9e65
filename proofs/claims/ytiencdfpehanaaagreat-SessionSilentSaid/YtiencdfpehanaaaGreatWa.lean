/- P12.1: a message that does not belong to a state ends the line with 5, 0; a NOTIFICATION ends it without a word: what its ways stand on. -/
import Derived.Test.YtiencdfpehanaaaGreatBa
import Derived.Test.YtiencdfpehanaaaGreatEvR
namespace Go.Proofs.YtiencdfpehanaaaGreat
open Go Go.Ev
set_option maxRecDepth 100000
namespace SessW
theorem known_run : runTrue Tryz.prog noEnv 300 11 #[] Tryz.prog.globals.size = true := by kernel_rfl
theorem known_sum : PureSum Tryz.prog 11 trueG := .of_calls Tryz.func11 (by kernel_rfl) rfl fun args p v h _ _ => by
  obtain ⟨rfl, rfl⟩ := trueG_args h
  exact ⟨rfl, fun W => calls_true noEnv_sound good Tryz.func11 rfl known_run rfl W⟩
def E : Env := pureEnv [(7, withinG), (11, trueG)]
theorem E_sound : E.Sound Tryz.prog := pureEnv_sound (P := Tryz.prog) (l := [(7, withinG), (11, trueG)]) ⟨within_sum, known_sum, trivial⟩
def atC (x lo hi v : Int) : Prop := Value.int .i64 (withinV x lo hi) = Value.int .i64 v
def SRow (a b n k : Int) (q t : Nat) : Prop := evRun Tryz.prog E 500 3 [.int .i64 a, .int .i64 b] Tryz.prog.globals.size (some [.reck 310, .as (.int .i64 n), .reck q, .as (.int .i64 k), .reck t]) = some (.bool true, [atC b 4 7 k, atC a 0 2 n])
end SessW
end Go.Proofs.YtiencdfpehanaaaGreat
