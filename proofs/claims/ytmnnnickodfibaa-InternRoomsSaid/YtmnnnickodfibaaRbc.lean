/- P11.1: a room that is full refuses what is new alone, and changes nothing; what is dropped makes room, at the least id: ways. -/
import Derived.Test.YtmnnnickodfibaaRba
namespace Go.Proofs.Ytmnnnickodfibaa
open Go Go.Ev Go.RowKit
set_option maxRecDepth 100000
set_option linter.unusedVariables false
set_option linter.unusedSimpArgs false
namespace RLaw
theorem pB57 : pc [1, 1, 1, 1, 1, 1, 1, 1, 1] [] [4] LB9 KB55 = some (.ret, LB0, KB6) := by kernel_rfl
theorem pB58 : pc [1, 1, 1, 1, 1, 1, 1, 1, 1] [] [4] LB9 KB56 = some (.ret, LB0, KB6) := by kernel_rfl
theorem pB59 : pc [1, 1, 1, 1, 1, 1, 1, 1, 1] [] [4] LB9 KB57 = some (.ret, LB0, KB6) := by kernel_rfl
theorem pB60 (b : Int) : pc [1, 1, 0] [G + 0] [0, 1, 5, 6] LB0 (KB58 b) = some (.normal, LB10, (KB59 b)) := by kernel_rfl
theorem pB61 (b : Int) : pc [1, 1, 1, 0] [G + 0] [0, 1, 5] LB10 (KB59 b) = some (.normal, LB10, (KB60 b)) := by kernel_rfl
theorem pB62 (b : Int) : pc [1, 1, 1, 1, 0] [G + 0, G + 78, G + 80] [0, 1, 5] LB10 (KB60 b) = some (.normal, LB11, (KB60 b)) := by kernel_rfl
theorem pB63 (b : Int) : pc [1, 1, 1, 1, 1, 0] [G + 0, G + 1, G + 2] [0, 1, 5, 10, 11] LB11 (KB60 b) = some (.normal, LB11, (KB61 b)) := by kernel_rfl
theorem pB64 (b : Int) : pc [1, 1, 1, 1, 1, 1, 0] [G + 0, G + 1, G + 2] [0, 1, 5, 10, 11, 12, 13] LB11 (KB61 b) = some (.normal, LB12, (KB62 b)) := by kernel_rfl
theorem pB65 (b : Int) : pc [1, 1, 1, 1, 1, 1, 1, 0] [G + 0, G + 1, G + 2] [0, 1, 5] LB12 (KB62 b) = some (.normal, LB12, (KB60 b)) := by kernel_rfl
theorem pB66 : pc [1, 1, 1, 1, 1, 1, 1, 1, 1] [] [4] LB12 KB63 = some (.ret, LB0, KB6) := by kernel_rfl
theorem pB67 : pc [1, 1, 1, 1, 1, 1, 1, 1, 1] [] [4] LB12 KB64 = some (.ret, LB0, KB6) := by kernel_rfl
theorem pB68 : pc [1, 1, 1, 1, 1, 1, 1, 1, 1] [] [4] LB12 KB65 = some (.ret, LB0, KB6) := by kernel_rfl
theorem pB69 : pc [1, 1, 1, 1, 1, 1, 1, 1, 1] [] [4] LB12 KB66 = some (.ret, LB0, KB6) := by kernel_rfl
theorem pB70 : pc [1, 1, 1, 1, 1, 1, 1, 1, 1] [] [4] LB12 KB67 = some (.ret, LB0, KB6) := by kernel_rfl
theorem pB71 : pc [1, 1, 1, 1, 1, 1, 1, 1, 1] [] [4] LB12 KB68 = some (.ret, LB0, KB6) := by kernel_rfl
theorem pB72 : pc [1, 1, 1, 1, 1, 1, 1, 1, 1] [] [4] LB12 KB69 = some (.ret, LB0, KB6) := by kernel_rfl
theorem pB73 : pc [1, 1, 1, 1, 1, 1, 1, 1, 1] [] [4] LB12 KB70 = some (.ret, LB0, KB6) := by kernel_rfl
theorem pB74 : pc [1, 1, 1, 1, 1, 1, 1, 1, 1] [] [4] LB12 KB71 = some (.ret, LB0, KB6) := by kernel_rfl
theorem pB75 : pc [1, 1, 1, 1, 1, 1, 1, 1, 1] [] [4] LB12 KB72 = some (.ret, LB0, KB6) := by kernel_rfl
theorem pB76 : pc [1, 1, 1, 1, 1, 1, 1, 1, 1] [] [4] LB12 KB73 = some (.ret, LB0, KB6) := by kernel_rfl
theorem pB77 : pc [1, 1, 1, 1, 1, 1, 1, 1, 1] [] [4] LB12 KB74 = some (.ret, LB0, KB6) := by kernel_rfl
theorem pB78 : pc [1, 1, 1, 1, 1, 1, 1, 1, 1] [] [4] LB12 KB75 = some (.ret, LB0, KB6) := by kernel_rfl
theorem pB79 : pc [1, 1, 1, 1, 1, 1, 1, 1, 1] [] [4] LB12 KB76 = some (.ret, LB0, KB6) := by kernel_rfl
theorem pB80 : pc [1, 1, 1, 1, 1, 1, 1, 1, 1] [] [4] LB12 KB77 = some (.ret, LB0, KB6) := by kernel_rfl
theorem pB81 : pc [1, 1, 1, 1, 1, 1, 1, 1, 1] [] [4] LB12 KB78 = some (.ret, LB0, KB6) := by kernel_rfl
theorem pB82 (b : Int) : pc [1, 1, 0] [G + 0] [0, 1, 5, 6] LB0 (KB79 b) = some (.normal, LB13, (KB80 b)) := by kernel_rfl
theorem pB83 (b : Int) : pc [1, 1, 1, 0] [G + 0] [0, 1, 5] LB13 (KB80 b) = some (.normal, LB13, (KB81 b)) := by kernel_rfl
theorem pB84 (b : Int) : pc [1, 1, 1, 1, 0] [G + 0, G + 83, G + 85] [0, 1, 5] LB13 (KB81 b) = some (.normal, LB14, (KB81 b)) := by kernel_rfl
theorem pB85 (b : Int) : pc [1, 1, 1, 1, 1, 0] [G + 0, G + 1, G + 2] [0, 1, 5, 10, 11] LB14 (KB81 b) = some (.normal, LB14, (KB82 b)) := by kernel_rfl
theorem pB86 (b : Int) : pc [1, 1, 1, 1, 1, 1, 0] [G + 0, G + 1, G + 2] [0, 1, 5, 10, 11, 12, 13] LB14 (KB82 b) = some (.normal, LB15, (KB83 b)) := by kernel_rfl
theorem pB87 (b : Int) : pc [1, 1, 1, 1, 1, 1, 1, 0] [G + 0, G + 1, G + 2] [0, 1, 5] LB15 (KB83 b) = some (.normal, LB15, (KB81 b)) := by kernel_rfl
theorem pB88 : pc [1, 1, 1, 1, 1, 1, 1, 1, 1] [] [4] LB15 KB84 = some (.ret, LB0, KB6) := by kernel_rfl
theorem pB89 : pc [1, 1, 1, 1, 1, 1, 1, 1, 1] [] [4] LB15 KB85 = some (.ret, LB0, KB6) := by kernel_rfl
theorem pB90 : pc [1, 1, 1, 1, 1, 1, 1, 1, 1] [] [4] LB15 KB86 = some (.ret, LB0, KB6) := by kernel_rfl
theorem pB91 : pc [1, 1, 1, 1, 1, 1, 1, 1, 1] [] [4] LB15 KB87 = some (.ret, LB0, KB6) := by kernel_rfl
theorem pB92 : pc [1, 1, 1, 1, 1, 1, 1, 1, 1] [] [4] LB15 KB88 = some (.ret, LB0, KB6) := by kernel_rfl
theorem pB93 : pc [1, 1, 1, 1, 1, 1, 1, 1, 1] [] [4] LB15 KB89 = some (.ret, LB0, KB6) := by kernel_rfl
theorem pB94 : pc [1, 1, 1, 1, 1, 1, 1, 1, 1] [] [4] LB15 KB90 = some (.ret, LB0, KB6) := by kernel_rfl
theorem pB95 : pc [1, 1, 1, 1, 1, 1, 1, 1, 1] [] [4] LB15 KB91 = some (.ret, LB0, KB6) := by kernel_rfl
theorem pB96 : pc [1, 1, 1, 1, 1, 1, 1, 1, 1] [] [4] LB15 KB92 = some (.ret, LB0, KB6) := by kernel_rfl
theorem pB97 : pc [1, 1, 1, 1, 1, 1, 1, 1, 1] [] [4] LB15 KB93 = some (.ret, LB0, KB6) := by kernel_rfl
theorem pB98 : pc [1, 1, 1, 1, 1, 1, 1, 1, 1] [] [4] LB15 KB94 = some (.ret, LB0, KB6) := by kernel_rfl
theorem pB99 : pc [1, 1, 1, 1, 1, 1, 1, 1, 1] [] [4] LB15 KB95 = some (.ret, LB0, KB6) := by kernel_rfl
theorem pB100 : pc [1, 1, 1, 1, 1, 1, 1, 1, 1] [] [4] LB15 KB96 = some (.ret, LB0, KB6) := by kernel_rfl
theorem pB101 : pc [1, 1, 1, 1, 1, 1, 1, 1, 1] [] [4] LB15 KB97 = some (.ret, LB0, KB6) := by kernel_rfl
theorem pB102 : pc [1, 1, 1, 1, 1, 1, 1, 1, 1] [] [4] LB15 KB98 = some (.ret, LB0, KB6) := by kernel_rfl
theorem pB103 : pc [1, 1, 1, 1, 1, 1, 1, 1, 1] [] [4] LB15 KB99 = some (.ret, LB0, KB6) := by kernel_rfl
theorem pB104 : pc [1, 1, 1, 1, 1, 1, 1, 1, 1] [] [4] LB15 KB100 = some (.ret, LB0, KB6) := by kernel_rfl
theorem s1_13 (b : Int) : pc [1, 1, 1, 1, 1, 1, 1, 1, 0] [G + 0, G + 1, G + 2] [0, 5, 14] LB3 (KB2 b) = some (.normal, LB3, KSB13 b) := by kernel_rfl
theorem s0_13 (a b : Int) : RD [1, 0] [] [0, 1] [] (K0 a b) [.reck 0, .as (nI 12)] .normal [] (KB0 b) [inW a 0 20 12] := by unfold RD; kernel_rfl
theorem s1_14 (b : Int) : pc [1, 1, 1, 1, 1, 1, 1, 1, 0] [G + 0, G + 1, G + 2] [0, 5, 14] LB6 (KB21 b) = some (.normal, LB6, KSB14 b) := by kernel_rfl
theorem s0_14 (a b : Int) : RD [1, 0] [] [0, 1] [] (K0 a b) [.reck 0, .as (nI 13)] .normal [] (KB19 b) [inW a 0 20 13] := by unfold RD; kernel_rfl
theorem s1_15 (b : Int) : pc [1, 1, 1, 1, 1, 1, 1, 1, 0] [G + 0, G + 1, G + 2] [0, 5, 14] LB9 (KB40 b) = some (.normal, LB9, KSB15 b) := by kernel_rfl
theorem s0_15 (a b : Int) : RD [1, 0] [] [0, 1] [] (K0 a b) [.reck 0, .as (nI 14)] .normal [] (KB38 b) [inW a 0 20 14] := by unfold RD; kernel_rfl
theorem s1_16 (b : Int) : pc [1, 1, 1, 1, 1, 1, 1, 1, 0] [G + 0, G + 1, G + 2] [0, 5, 14] LB12 (KB60 b) = some (.normal, LB12, KSB16 b) := by kernel_rfl
theorem s0_16 (a b : Int) : RD [1, 0] [] [0, 1] [] (K0 a b) [.reck 0, .as (nI 15)] .normal [] (KB58 b) [inW a 0 20 15] := by unfold RD; kernel_rfl
theorem s1_17 (b : Int) : pc [1, 1, 1, 1, 1, 1, 1, 1, 0] [G + 0, G + 1, G + 2] [0, 5, 14] LB15 (KB81 b) = some (.normal, LB15, KSB17 b) := by kernel_rfl
theorem s0_17 (a b : Int) : RD [1, 0] [] [0, 1] [] (K0 a b) [.reck 0, .as (nI 16)] .normal [] (KB79 b) [inW a 0 20 16] := by unfold RD; kernel_rfl
end RLaw
end Go.Proofs.Ytmnnnickodfibaa
