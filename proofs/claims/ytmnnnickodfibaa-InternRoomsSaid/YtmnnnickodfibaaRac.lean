/- P11.1: a room that is full refuses what is new alone, and changes nothing; what is dropped makes room, at the least id: ways. -/
import Derived.Test.YtmnnnickodfibaaRaa
namespace Go.Proofs.Ytmnnnickodfibaa
open Go Go.Ev Go.RowKit
set_option maxRecDepth 100000
set_option linter.unusedVariables false
set_option linter.unusedSimpArgs false
namespace RLaw
theorem pA101 (b : Int) : pc [1, 1, 1, 1, 0] [G + 0, G + 48, G + 50] [0, 1, 5] LA28 (KA93 b) = some (.normal, LA29, (KA93 b)) := by kernel_rfl
theorem pA102 (b : Int) : pc [1, 1, 1, 1, 1, 0] [G + 0, G + 1, G + 2] [0, 1, 5, 10, 11] LA29 (KA93 b) = some (.normal, LA29, (KA94 b)) := by kernel_rfl
theorem pA103 (b : Int) : pc [1, 1, 1, 1, 1, 1, 0] [G + 0, G + 1, G + 2] [0, 1, 5, 10, 11, 12, 13] LA29 (KA94 b) = some (.normal, LA30, (KA95 b)) := by kernel_rfl
theorem pA104 (b : Int) : pc [1, 1, 1, 1, 1, 1, 1, 0] [G + 0, G + 1, G + 2] [0, 1, 5] LA30 (KA95 b) = some (.normal, LA30, (KA93 b)) := by kernel_rfl
theorem pA105 : pc [1, 1, 1, 1, 1, 1, 1, 1, 1] [] [4] LA30 KA96 = some (.ret, LA0, KA6) := by kernel_rfl
theorem pA106 : pc [1, 1, 1, 1, 1, 1, 1, 1, 1] [] [4] LA30 KA97 = some (.ret, LA0, KA6) := by kernel_rfl
theorem pA107 : pc [1, 1, 1, 1, 1, 1, 1, 1, 1] [] [4] LA30 KA98 = some (.ret, LA0, KA6) := by kernel_rfl
theorem pA108 : pc [1, 1, 1, 1, 1, 1, 1, 1, 1] [] [4] LA30 KA99 = some (.ret, LA0, KA6) := by kernel_rfl
theorem pA109 : pc [1, 1, 1, 1, 1, 1, 1, 1, 1] [] [4] LA30 KA100 = some (.ret, LA0, KA6) := by kernel_rfl
theorem pA110 : pc [1, 1, 1, 1, 1, 1, 1, 1, 1] [] [4] LA30 KA101 = some (.ret, LA0, KA6) := by kernel_rfl
theorem pA111 : pc [1, 1, 1, 1, 1, 1, 1, 1, 1] [] [4] LA30 KA102 = some (.ret, LA0, KA6) := by kernel_rfl
theorem pA112 : pc [1, 1, 1, 1, 1, 1, 1, 1, 1] [] [4] LA30 KA103 = some (.ret, LA0, KA6) := by kernel_rfl
theorem pA113 : pc [1, 1, 1, 1, 1, 1, 1, 1, 1] [] [4] LA30 KA104 = some (.ret, LA0, KA6) := by kernel_rfl
theorem pA114 : pc [1, 1, 1, 1, 1, 1, 1, 1, 1] [] [4] LA30 KA105 = some (.ret, LA0, KA6) := by kernel_rfl
theorem pA115 (b : Int) : pc [1, 1, 0] [G + 0] [0, 1, 5, 6] LA0 (KA106 b) = some (.normal, LA31, (KA107 b)) := by kernel_rfl
theorem pA116 (b : Int) : pc [1, 1, 1, 0] [G + 0] [0, 1, 5] LA31 (KA107 b) = some (.normal, LA31, (KA108 b)) := by kernel_rfl
theorem pA117 (b : Int) : pc [1, 1, 1, 1, 0] [G + 0, G + 53, G + 55] [0, 1, 5] LA31 (KA108 b) = some (.normal, LA32, (KA108 b)) := by kernel_rfl
theorem pA118 (b : Int) : pc [1, 1, 1, 1, 1, 0] [G + 0, G + 1, G + 2] [0, 1, 5, 10, 11] LA32 (KA108 b) = some (.normal, LA32, (KA109 b)) := by kernel_rfl
theorem pA119 (b : Int) : pc [1, 1, 1, 1, 1, 1, 0] [G + 0, G + 1, G + 2] [0, 1, 5, 10, 11, 12, 13] LA32 (KA109 b) = some (.normal, LA33, (KA110 b)) := by kernel_rfl
theorem pA120 (b : Int) : pc [1, 1, 1, 1, 1, 1, 1, 0] [G + 0, G + 1, G + 2] [0, 1, 5] LA33 (KA110 b) = some (.normal, LA33, (KA108 b)) := by kernel_rfl
theorem pA121 : pc [1, 1, 1, 1, 1, 1, 1, 1, 1] [] [4] LA33 KA111 = some (.ret, LA0, KA6) := by kernel_rfl
theorem pA122 : pc [1, 1, 1, 1, 1, 1, 1, 1, 1] [] [4] LA33 KA112 = some (.ret, LA0, KA6) := by kernel_rfl
theorem pA123 : pc [1, 1, 1, 1, 1, 1, 1, 1, 1] [] [4] LA33 KA113 = some (.ret, LA0, KA6) := by kernel_rfl
theorem pA124 : pc [1, 1, 1, 1, 1, 1, 1, 1, 1] [] [4] LA33 KA114 = some (.ret, LA0, KA6) := by kernel_rfl
theorem pA125 : pc [1, 1, 1, 1, 1, 1, 1, 1, 1] [] [4] LA33 KA115 = some (.ret, LA0, KA6) := by kernel_rfl
theorem pA126 : pc [1, 1, 1, 1, 1, 1, 1, 1, 1] [] [4] LA33 KA116 = some (.ret, LA0, KA6) := by kernel_rfl
theorem pA127 : pc [1, 1, 1, 1, 1, 1, 1, 1, 1] [] [4] LA33 KA117 = some (.ret, LA0, KA6) := by kernel_rfl
theorem pA128 : pc [1, 1, 1, 1, 1, 1, 1, 1, 1] [] [4] LA33 KA118 = some (.ret, LA0, KA6) := by kernel_rfl
theorem pA129 : pc [1, 1, 1, 1, 1, 1, 1, 1, 1] [] [4] LA33 KA119 = some (.ret, LA0, KA6) := by kernel_rfl
theorem pA130 : pc [1, 1, 1, 1, 1, 1, 1, 1, 1] [] [4] LA33 KA120 = some (.ret, LA0, KA6) := by kernel_rfl
theorem pA131 : pc [1, 1, 1, 1, 1, 1, 1, 1, 1] [] [4] LA33 KA121 = some (.ret, LA0, KA6) := by kernel_rfl
theorem pA132 (b : Int) : pc [1, 1, 0] [G + 0] [0, 1, 5, 6] LA0 (KA122 b) = some (.normal, LA34, (KA123 b)) := by kernel_rfl
theorem pA133 (b : Int) : pc [1, 1, 1, 0] [G + 0] [0, 1, 5] LA34 (KA123 b) = some (.normal, LA34, (KA124 b)) := by kernel_rfl
theorem pA134 (b : Int) : pc [1, 1, 1, 1, 0] [G + 0, G + 58, G + 60] [0, 1, 5] LA34 (KA124 b) = some (.normal, LA35, (KA124 b)) := by kernel_rfl
theorem pA135 (b : Int) : pc [1, 1, 1, 1, 1, 0] [G + 0, G + 1, G + 2] [0, 1, 5, 10, 11] LA35 (KA124 b) = some (.normal, LA35, (KA125 b)) := by kernel_rfl
theorem pA136 (b : Int) : pc [1, 1, 1, 1, 1, 1, 0] [G + 0, G + 1, G + 2] [0, 1, 5, 10, 11, 12, 13] LA35 (KA125 b) = some (.normal, LA36, (KA126 b)) := by kernel_rfl
theorem pA137 (b : Int) : pc [1, 1, 1, 1, 1, 1, 1, 0] [G + 0, G + 1, G + 2] [0, 1, 5] LA36 (KA126 b) = some (.normal, LA36, (KA124 b)) := by kernel_rfl
theorem pA138 : pc [1, 1, 1, 1, 1, 1, 1, 1, 1] [] [4] LA36 KA127 = some (.ret, LA0, KA6) := by kernel_rfl
theorem pA139 : pc [1, 1, 1, 1, 1, 1, 1, 1, 1] [] [4] LA36 KA128 = some (.ret, LA0, KA6) := by kernel_rfl
theorem pA140 : pc [1, 1, 1, 1, 1, 1, 1, 1, 1] [] [4] LA36 KA129 = some (.ret, LA0, KA6) := by kernel_rfl
theorem pA141 : pc [1, 1, 1, 1, 1, 1, 1, 1, 1] [] [4] LA36 KA130 = some (.ret, LA0, KA6) := by kernel_rfl
theorem pA142 : pc [1, 1, 1, 1, 1, 1, 1, 1, 1] [] [4] LA36 KA131 = some (.ret, LA0, KA6) := by kernel_rfl
theorem pA143 : pc [1, 1, 1, 1, 1, 1, 1, 1, 1] [] [4] LA36 KA132 = some (.ret, LA0, KA6) := by kernel_rfl
theorem pA144 : pc [1, 1, 1, 1, 1, 1, 1, 1, 1] [] [4] LA36 KA133 = some (.ret, LA0, KA6) := by kernel_rfl
theorem pA145 : pc [1, 1, 1, 1, 1, 1, 1, 1, 1] [] [4] LA36 KA134 = some (.ret, LA0, KA6) := by kernel_rfl
theorem pA146 : pc [1, 1, 1, 1, 1, 1, 1, 1, 1] [] [4] LA36 KA135 = some (.ret, LA0, KA6) := by kernel_rfl
theorem pA147 : pc [1, 1, 1, 1, 1, 1, 1, 1, 1] [] [4] LA36 KA136 = some (.ret, LA0, KA6) := by kernel_rfl
theorem pA148 : pc [1, 1, 1, 1, 1, 1, 1, 1, 1] [] [4] LA36 KA137 = some (.ret, LA0, KA6) := by kernel_rfl
theorem pA149 : pc [1, 1, 1, 1, 1, 1, 1, 1, 1] [] [4] LA36 KA138 = some (.ret, LA0, KA6) := by kernel_rfl
theorem s1_1 (b : Int) : pc [1, 1, 1, 1, 1, 1, 1, 1, 0] [G + 0, G + 1, G + 2] [0, 5, 14] LA3 (KA2 b) = some (.normal, LA3, KSA1 b) := by kernel_rfl
theorem s0_1 (a b : Int) : RD [1, 0] [] [0, 1] [] (K0 a b) [.reck 0, .as (nI 0)] .normal [] (KA0 b) [inW a 0 20 0] := by unfold RD; kernel_rfl
theorem s1_2 (b : Int) : pc [1, 1, 1, 1, 1, 1, 1, 1, 0] [G + 0, G + 1, G + 2] [0, 5, 14] LA6 (KA9 b) = some (.normal, LA6, KSA2 b) := by kernel_rfl
theorem s0_2 (a b : Int) : RD [1, 0] [] [0, 1] [] (K0 a b) [.reck 0, .as (nI 1)] .normal [] (KA7 b) [inW a 0 20 1] := by unfold RD; kernel_rfl
theorem s1_3 (b : Int) : pc [1, 1, 1, 1, 1, 1, 1, 1, 0] [G + 0, G + 1, G + 2] [0, 5, 14] LA9 (KA16 b) = some (.normal, LA9, KSA3 b) := by kernel_rfl
theorem s0_3 (a b : Int) : RD [1, 0] [] [0, 1] [] (K0 a b) [.reck 0, .as (nI 2)] .normal [] (KA14 b) [inW a 0 20 2] := by unfold RD; kernel_rfl
theorem s1_4 (b : Int) : pc [1, 1, 1, 1, 1, 1, 1, 1, 0] [G + 0, G + 1, G + 2] [0, 5, 14] LA12 (KA24 b) = some (.normal, LA12, KSA4 b) := by kernel_rfl
theorem s0_4 (a b : Int) : RD [1, 0] [] [0, 1] [] (K0 a b) [.reck 0, .as (nI 3)] .normal [] (KA22 b) [inW a 0 20 3] := by unfold RD; kernel_rfl
theorem s1_5 (b : Int) : pc [1, 1, 1, 1, 1, 1, 1, 1, 0] [G + 0, G + 1, G + 2] [0, 5, 14] LA15 (KA33 b) = some (.normal, LA15, KSA5 b) := by kernel_rfl
theorem s0_5 (a b : Int) : RD [1, 0] [] [0, 1] [] (K0 a b) [.reck 0, .as (nI 4)] .normal [] (KA31 b) [inW a 0 20 4] := by unfold RD; kernel_rfl
theorem s1_6 (b : Int) : pc [1, 1, 1, 1, 1, 1, 1, 1, 0] [G + 0, G + 1, G + 2] [0, 5, 14] LA18 (KA43 b) = some (.normal, LA18, KSA6 b) := by kernel_rfl
theorem s0_6 (a b : Int) : RD [1, 0] [] [0, 1] [] (K0 a b) [.reck 0, .as (nI 5)] .normal [] (KA41 b) [inW a 0 20 5] := by unfold RD; kernel_rfl
theorem s1_7 (b : Int) : pc [1, 1, 1, 1, 1, 1, 1, 1, 0] [G + 0, G + 1, G + 2] [0, 5, 14] LA21 (KA54 b) = some (.normal, LA21, KSA7 b) := by kernel_rfl
theorem s0_7 (a b : Int) : RD [1, 0] [] [0, 1] [] (K0 a b) [.reck 0, .as (nI 6)] .normal [] (KA52 b) [inW a 0 20 6] := by unfold RD; kernel_rfl
theorem s1_8 (b : Int) : pc [1, 1, 1, 1, 1, 1, 1, 1, 0] [G + 0, G + 1, G + 2] [0, 5, 14] LA24 (KA66 b) = some (.normal, LA24, KSA8 b) := by kernel_rfl
theorem s0_8 (a b : Int) : RD [1, 0] [] [0, 1] [] (K0 a b) [.reck 0, .as (nI 7)] .normal [] (KA64 b) [inW a 0 20 7] := by unfold RD; kernel_rfl
theorem s1_9 (b : Int) : pc [1, 1, 1, 1, 1, 1, 1, 1, 0] [G + 0, G + 1, G + 2] [0, 5, 14] LA27 (KA79 b) = some (.normal, LA27, KSA9 b) := by kernel_rfl
theorem s0_9 (a b : Int) : RD [1, 0] [] [0, 1] [] (K0 a b) [.reck 0, .as (nI 8)] .normal [] (KA77 b) [inW a 0 20 8] := by unfold RD; kernel_rfl
theorem s1_10 (b : Int) : pc [1, 1, 1, 1, 1, 1, 1, 1, 0] [G + 0, G + 1, G + 2] [0, 5, 14] LA30 (KA93 b) = some (.normal, LA30, KSA10 b) := by kernel_rfl
theorem s0_10 (a b : Int) : RD [1, 0] [] [0, 1] [] (K0 a b) [.reck 0, .as (nI 9)] .normal [] (KA91 b) [inW a 0 20 9] := by unfold RD; kernel_rfl
theorem s1_11 (b : Int) : pc [1, 1, 1, 1, 1, 1, 1, 1, 0] [G + 0, G + 1, G + 2] [0, 5, 14] LA33 (KA108 b) = some (.normal, LA33, KSA11 b) := by kernel_rfl
theorem s0_11 (a b : Int) : RD [1, 0] [] [0, 1] [] (K0 a b) [.reck 0, .as (nI 10)] .normal [] (KA106 b) [inW a 0 20 10] := by unfold RD; kernel_rfl
theorem s1_12 (b : Int) : pc [1, 1, 1, 1, 1, 1, 1, 1, 0] [G + 0, G + 1, G + 2] [0, 5, 14] LA36 (KA124 b) = some (.normal, LA36, KSA12 b) := by kernel_rfl
theorem s0_12 (a b : Int) : RD [1, 0] [] [0, 1] [] (K0 a b) [.reck 0, .as (nI 11)] .normal [] (KA122 b) [inW a 0 20 11] := by unfold RD; kernel_rfl
end RLaw
end Go.Proofs.Ytmnnnickodfibaa
