/- Prefixes' functions by summaries: what each answers, for any arguments. -/
import Derived.Test.YtmnnnickodfibaaRows
import Derived.Test.YtmnnnickodfibaaEvQ7
namespace Go.Proofs.Ytmnnnickodfibaa
open Go Go.Ev Go.RowKit
set_option maxRecDepth 100000
set_option linter.unusedVariables false
set_option linter.unusedSimpArgs false
theorem good : Ev.Good Try.prog := ⟨by kernel_rfl, by kernel_rfl, by kernel_rfl⟩
noncomputable def SL : List (FuncId × PFun) := []
theorem SL_ok : PureSums Try.prog SL := trivial
end Go.Proofs.Ytmnnnickodfibaa
