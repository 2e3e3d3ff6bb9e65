/- P11.1: a room that is full refuses what is new alone, and changes nothing; what is dropped makes room, at the least id: ways. -/
import Derived.Test.YtmnnnickodfibaaRba
namespace Go.Proofs.Ytmnnnickodfibaa
open Go Go.Ev Go.RowKit
set_option maxRecDepth 100000
set_option linter.unusedVariables false
set_option linter.unusedSimpArgs false
namespace RLaw
theorem pB0 (b : Int) : pc [1, 1, 0] [G + 0] [0, 1, 5, 6] LB0 (KB0 b) = some (.normal, LB1, (KB1 b)) := by kernel_rfl
theorem pB1 (b : Int) : pc [1, 1, 1, 0] [G + 0] [0, 1, 5] LB1 (KB1 b) = some (.normal, LB1, (KB2 b)) := by kernel_rfl
theorem pB2 (b : Int) : pc [1, 1, 1, 1, 0] [G + 0, G + 63, G + 65] [0, 1, 5] LB1 (KB2 b) = some (.normal, LB2, (KB2 b)) := by kernel_rfl
theorem pB3 (b : Int) : pc [1, 1, 1, 1, 1, 0] [G + 0, G + 1, G + 2] [0, 1, 5, 10, 11] LB2 (KB2 b) = some (.normal, LB2, (KB3 b)) := by kernel_rfl
theorem pB4 (b : Int) : pc [1, 1, 1, 1, 1, 1, 0] [G + 0, G + 1, G + 2] [0, 1, 5, 10, 11, 12, 13] LB2 (KB3 b) = some (.normal, LB3, (KB4 b)) := by kernel_rfl
theorem pB5 (b : Int) : pc [1, 1, 1, 1, 1, 1, 1, 0] [G + 0, G + 1, G + 2] [0, 1, 5] LB3 (KB4 b) = some (.normal, LB3, (KB2 b)) := by kernel_rfl
theorem pB6 : pc [1, 1, 1, 1, 1, 1, 1, 1, 1] [] [4] LB3 KB5 = some (.ret, LB0, KB6) := by kernel_rfl
theorem pB7 : pc [1, 1, 1, 1, 1, 1, 1, 1, 1] [] [4] LB3 KB7 = some (.ret, LB0, KB6) := by kernel_rfl
theorem pB8 : pc [1, 1, 1, 1, 1, 1, 1, 1, 1] [] [4] LB3 KB8 = some (.ret, LB0, KB6) := by kernel_rfl
theorem pB9 : pc [1, 1, 1, 1, 1, 1, 1, 1, 1] [] [4] LB3 KB9 = some (.ret, LB0, KB6) := by kernel_rfl
theorem pB10 : pc [1, 1, 1, 1, 1, 1, 1, 1, 1] [] [4] LB3 KB10 = some (.ret, LB0, KB6) := by kernel_rfl
theorem pB11 : pc [1, 1, 1, 1, 1, 1, 1, 1, 1] [] [4] LB3 KB11 = some (.ret, LB0, KB6) := by kernel_rfl
theorem pB12 : pc [1, 1, 1, 1, 1, 1, 1, 1, 1] [] [4] LB3 KB12 = some (.ret, LB0, KB6) := by kernel_rfl
theorem pB13 : pc [1, 1, 1, 1, 1, 1, 1, 1, 1] [] [4] LB3 KB13 = some (.ret, LB0, KB6) := by kernel_rfl
theorem pB14 : pc [1, 1, 1, 1, 1, 1, 1, 1, 1] [] [4] LB3 KB14 = some (.ret, LB0, KB6) := by kernel_rfl
theorem pB15 : pc [1, 1, 1, 1, 1, 1, 1, 1, 1] [] [4] LB3 KB15 = some (.ret, LB0, KB6) := by kernel_rfl
theorem pB16 : pc [1, 1, 1, 1, 1, 1, 1, 1, 1] [] [4] LB3 KB16 = some (.ret, LB0, KB6) := by kernel_rfl
theorem pB17 : pc [1, 1, 1, 1, 1, 1, 1, 1, 1] [] [4] LB3 KB17 = some (.ret, LB0, KB6) := by kernel_rfl
theorem pB18 : pc [1, 1, 1, 1, 1, 1, 1, 1, 1] [] [4] LB3 KB18 = some (.ret, LB0, KB6) := by kernel_rfl
theorem pB19 (b : Int) : pc [1, 1, 0] [G + 0] [0, 1, 5, 6] LB0 (KB19 b) = some (.normal, LB4, (KB20 b)) := by kernel_rfl
theorem pB20 (b : Int) : pc [1, 1, 1, 0] [G + 0] [0, 1, 5] LB4 (KB20 b) = some (.normal, LB4, (KB21 b)) := by kernel_rfl
theorem pB21 (b : Int) : pc [1, 1, 1, 1, 0] [G + 0, G + 68, G + 70] [0, 1, 5] LB4 (KB21 b) = some (.normal, LB5, (KB21 b)) := by kernel_rfl
theorem pB22 (b : Int) : pc [1, 1, 1, 1, 1, 0] [G + 0, G + 1, G + 2] [0, 1, 5, 10, 11] LB5 (KB21 b) = some (.normal, LB5, (KB22 b)) := by kernel_rfl
theorem pB23 (b : Int) : pc [1, 1, 1, 1, 1, 1, 0] [G + 0, G + 1, G + 2] [0, 1, 5, 10, 11, 12, 13] LB5 (KB22 b) = some (.normal, LB6, (KB23 b)) := by kernel_rfl
theorem pB24 (b : Int) : pc [1, 1, 1, 1, 1, 1, 1, 0] [G + 0, G + 1, G + 2] [0, 1, 5] LB6 (KB23 b) = some (.normal, LB6, (KB21 b)) := by kernel_rfl
theorem pB25 : pc [1, 1, 1, 1, 1, 1, 1, 1, 1] [] [4] LB6 KB24 = some (.ret, LB0, KB6) := by kernel_rfl
theorem pB26 : pc [1, 1, 1, 1, 1, 1, 1, 1, 1] [] [4] LB6 KB25 = some (.ret, LB0, KB6) := by kernel_rfl
theorem pB27 : pc [1, 1, 1, 1, 1, 1, 1, 1, 1] [] [4] LB6 KB26 = some (.ret, LB0, KB6) := by kernel_rfl
theorem pB28 : pc [1, 1, 1, 1, 1, 1, 1, 1, 1] [] [4] LB6 KB27 = some (.ret, LB0, KB6) := by kernel_rfl
theorem pB29 : pc [1, 1, 1, 1, 1, 1, 1, 1, 1] [] [4] LB6 KB28 = some (.ret, LB0, KB6) := by kernel_rfl
theorem pB30 : pc [1, 1, 1, 1, 1, 1, 1, 1, 1] [] [4] LB6 KB29 = some (.ret, LB0, KB6) := by kernel_rfl
theorem pB31 : pc [1, 1, 1, 1, 1, 1, 1, 1, 1] [] [4] LB6 KB30 = some (.ret, LB0, KB6) := by kernel_rfl
theorem pB32 : pc [1, 1, 1, 1, 1, 1, 1, 1, 1] [] [4] LB6 KB31 = some (.ret, LB0, KB6) := by kernel_rfl
theorem pB33 : pc [1, 1, 1, 1, 1, 1, 1, 1, 1] [] [4] LB6 KB32 = some (.ret, LB0, KB6) := by kernel_rfl
theorem pB34 : pc [1, 1, 1, 1, 1, 1, 1, 1, 1] [] [4] LB6 KB33 = some (.ret, LB0, KB6) := by kernel_rfl
theorem pB35 : pc [1, 1, 1, 1, 1, 1, 1, 1, 1] [] [4] LB6 KB34 = some (.ret, LB0, KB6) := by kernel_rfl
theorem pB36 : pc [1, 1, 1, 1, 1, 1, 1, 1, 1] [] [4] LB6 KB35 = some (.ret, LB0, KB6) := by kernel_rfl
theorem pB37 : pc [1, 1, 1, 1, 1, 1, 1, 1, 1] [] [4] LB6 KB36 = some (.ret, LB0, KB6) := by kernel_rfl
theorem pB38 : pc [1, 1, 1, 1, 1, 1, 1, 1, 1] [] [4] LB6 KB37 = some (.ret, LB0, KB6) := by kernel_rfl
theorem pB39 (b : Int) : pc [1, 1, 0] [G + 0] [0, 1, 5, 6] LB0 (KB38 b) = some (.normal, LB7, (KB39 b)) := by kernel_rfl
theorem pB40 (b : Int) : pc [1, 1, 1, 0] [G + 0] [0, 1, 5] LB7 (KB39 b) = some (.normal, LB7, (KB40 b)) := by kernel_rfl
theorem pB41 (b : Int) : pc [1, 1, 1, 1, 0] [G + 0, G + 73, G + 75] [0, 1, 5] LB7 (KB40 b) = some (.normal, LB8, (KB40 b)) := by kernel_rfl
theorem pB42 (b : Int) : pc [1, 1, 1, 1, 1, 0] [G + 0, G + 1, G + 2] [0, 1, 5, 10, 11] LB8 (KB40 b) = some (.normal, LB8, (KB41 b)) := by kernel_rfl
theorem pB43 (b : Int) : pc [1, 1, 1, 1, 1, 1, 0] [G + 0, G + 1, G + 2] [0, 1, 5, 10, 11, 12, 13] LB8 (KB41 b) = some (.normal, LB9, (KB42 b)) := by kernel_rfl
theorem pB44 (b : Int) : pc [1, 1, 1, 1, 1, 1, 1, 0] [G + 0, G + 1, G + 2] [0, 1, 5] LB9 (KB42 b) = some (.normal, LB9, (KB40 b)) := by kernel_rfl
theorem pB45 : pc [1, 1, 1, 1, 1, 1, 1, 1, 1] [] [4] LB9 KB43 = some (.ret, LB0, KB6) := by kernel_rfl
theorem pB46 : pc [1, 1, 1, 1, 1, 1, 1, 1, 1] [] [4] LB9 KB44 = some (.ret, LB0, KB6) := by kernel_rfl
theorem pB47 : pc [1, 1, 1, 1, 1, 1, 1, 1, 1] [] [4] LB9 KB45 = some (.ret, LB0, KB6) := by kernel_rfl
theorem pB48 : pc [1, 1, 1, 1, 1, 1, 1, 1, 1] [] [4] LB9 KB46 = some (.ret, LB0, KB6) := by kernel_rfl
theorem pB49 : pc [1, 1, 1, 1, 1, 1, 1, 1, 1] [] [4] LB9 KB47 = some (.ret, LB0, KB6) := by kernel_rfl
theorem pB50 : pc [1, 1, 1, 1, 1, 1, 1, 1, 1] [] [4] LB9 KB48 = some (.ret, LB0, KB6) := by kernel_rfl
theorem pB51 : pc [1, 1, 1, 1, 1, 1, 1, 1, 1] [] [4] LB9 KB49 = some (.ret, LB0, KB6) := by kernel_rfl
theorem pB52 : pc [1, 1, 1, 1, 1, 1, 1, 1, 1] [] [4] LB9 KB50 = some (.ret, LB0, KB6) := by kernel_rfl
theorem pB53 : pc [1, 1, 1, 1, 1, 1, 1, 1, 1] [] [4] LB9 KB51 = some (.ret, LB0, KB6) := by kernel_rfl
theorem pB54 : pc [1, 1, 1, 1, 1, 1, 1, 1, 1] [] [4] LB9 KB52 = some (.ret, LB0, KB6) := by kernel_rfl
theorem pB55 : pc [1, 1, 1, 1, 1, 1, 1, 1, 1] [] [4] LB9 KB53 = some (.ret, LB0, KB6) := by kernel_rfl
theorem pB56 : pc [1, 1, 1, 1, 1, 1, 1, 1, 1] [] [4] LB9 KB54 = some (.ret, LB0, KB6) := by kernel_rfl
end RLaw
end Go.Proofs.Ytmnnnickodfibaa
