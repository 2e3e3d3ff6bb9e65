/- P11.1: a room that is full refuses what is new alone, and changes nothing; what is dropped makes room, at the least id: ways. -/
import Derived.Test.YtmnnnickodfibaaRca
namespace Go.Proofs.Ytmnnnickodfibaa
open Go Go.Ev Go.RowKit
set_option maxRecDepth 100000
set_option linter.unusedVariables false
set_option linter.unusedSimpArgs false
namespace RLaw
theorem pC0 (b : Int) : pc [1, 1, 0] [G + 0] [0, 1, 5, 6] LC0 (KC0 b) = some (.normal, LC1, (KC1 b)) := by kernel_rfl
theorem pC1 (b : Int) : pc [1, 1, 1, 0] [G + 0] [0, 1, 5] LC1 (KC1 b) = some (.normal, LC1, (KC2 b)) := by kernel_rfl
theorem pC2 (b : Int) : pc [1, 1, 1, 1, 0] [G + 0, G + 88, G + 90] [0, 1, 5] LC1 (KC2 b) = some (.normal, LC2, (KC2 b)) := by kernel_rfl
theorem pC3 (b : Int) : pc [1, 1, 1, 1, 1, 0] [G + 0, G + 1, G + 2] [0, 1, 5, 10, 11] LC2 (KC2 b) = some (.normal, LC2, (KC3 b)) := by kernel_rfl
theorem pC4 (b : Int) : pc [1, 1, 1, 1, 1, 1, 0] [G + 0, G + 1, G + 2] [0, 1, 5, 10, 11, 12, 13] LC2 (KC3 b) = some (.normal, LC3, (KC4 b)) := by kernel_rfl
theorem pC5 (b : Int) : pc [1, 1, 1, 1, 1, 1, 1, 0] [G + 0, G + 1, G + 2] [0, 1, 5] LC3 (KC4 b) = some (.normal, LC3, (KC2 b)) := by kernel_rfl
theorem pC6 : pc [1, 1, 1, 1, 1, 1, 1, 1, 1] [] [4] LC3 KC5 = some (.ret, LC0, KC6) := by kernel_rfl
theorem pC7 : pc [1, 1, 1, 1, 1, 1, 1, 1, 1] [] [4] LC3 KC7 = some (.ret, LC0, KC6) := by kernel_rfl
theorem pC8 : pc [1, 1, 1, 1, 1, 1, 1, 1, 1] [] [4] LC3 KC8 = some (.ret, LC0, KC6) := by kernel_rfl
theorem pC9 : pc [1, 1, 1, 1, 1, 1, 1, 1, 1] [] [4] LC3 KC9 = some (.ret, LC0, KC6) := by kernel_rfl
theorem pC10 : pc [1, 1, 1, 1, 1, 1, 1, 1, 1] [] [4] LC3 KC10 = some (.ret, LC0, KC6) := by kernel_rfl
theorem pC11 : pc [1, 1, 1, 1, 1, 1, 1, 1, 1] [] [4] LC3 KC11 = some (.ret, LC0, KC6) := by kernel_rfl
theorem pC12 : pc [1, 1, 1, 1, 1, 1, 1, 1, 1] [] [4] LC3 KC12 = some (.ret, LC0, KC6) := by kernel_rfl
theorem pC13 : pc [1, 1, 1, 1, 1, 1, 1, 1, 1] [] [4] LC3 KC13 = some (.ret, LC0, KC6) := by kernel_rfl
theorem pC14 : pc [1, 1, 1, 1, 1, 1, 1, 1, 1] [] [4] LC3 KC14 = some (.ret, LC0, KC6) := by kernel_rfl
theorem pC15 : pc [1, 1, 1, 1, 1, 1, 1, 1, 1] [] [4] LC3 KC15 = some (.ret, LC0, KC6) := by kernel_rfl
theorem pC16 : pc [1, 1, 1, 1, 1, 1, 1, 1, 1] [] [4] LC3 KC16 = some (.ret, LC0, KC6) := by kernel_rfl
theorem pC17 : pc [1, 1, 1, 1, 1, 1, 1, 1, 1] [] [4] LC3 KC17 = some (.ret, LC0, KC6) := by kernel_rfl
theorem pC18 : pc [1, 1, 1, 1, 1, 1, 1, 1, 1] [] [4] LC3 KC18 = some (.ret, LC0, KC6) := by kernel_rfl
theorem pC19 : pc [1, 1, 1, 1, 1, 1, 1, 1, 1] [] [4] LC3 KC19 = some (.ret, LC0, KC6) := by kernel_rfl
theorem pC20 : pc [1, 1, 1, 1, 1, 1, 1, 1, 1] [] [4] LC3 KC20 = some (.ret, LC0, KC6) := by kernel_rfl
theorem pC21 : pc [1, 1, 1, 1, 1, 1, 1, 1, 1] [] [4] LC3 KC21 = some (.ret, LC0, KC6) := by kernel_rfl
theorem pC22 : pc [1, 1, 1, 1, 1, 1, 1, 1, 1] [] [4] LC3 KC22 = some (.ret, LC0, KC6) := by kernel_rfl
theorem pC23 : pc [1, 1, 1, 1, 1, 1, 1, 1, 1] [] [4] LC3 KC23 = some (.ret, LC0, KC6) := by kernel_rfl
theorem pC24 (b : Int) : pc [1, 1, 0] [G + 0] [0, 1, 5, 6] LC0 (KC24 b) = some (.normal, LC4, (KC25 b)) := by kernel_rfl
theorem pC25 (b : Int) : pc [1, 1, 1, 0] [G + 0] [0, 1, 5] LC4 (KC25 b) = some (.normal, LC4, (KC26 b)) := by kernel_rfl
theorem pC26 (b : Int) : pc [1, 1, 1, 1, 0] [G + 0, G + 93, G + 95] [0, 1, 5] LC4 (KC26 b) = some (.normal, LC5, (KC26 b)) := by kernel_rfl
theorem pC27 (b : Int) : pc [1, 1, 1, 1, 1, 0] [G + 0, G + 1, G + 2] [0, 1, 5, 10, 11] LC5 (KC26 b) = some (.normal, LC5, (KC27 b)) := by kernel_rfl
theorem pC28 (b : Int) : pc [1, 1, 1, 1, 1, 1, 0] [G + 0, G + 1, G + 2] [0, 1, 5, 10, 11, 12, 13] LC5 (KC27 b) = some (.normal, LC6, (KC28 b)) := by kernel_rfl
theorem pC29 (b : Int) : pc [1, 1, 1, 1, 1, 1, 1, 0] [G + 0, G + 1, G + 2] [0, 1, 5] LC6 (KC28 b) = some (.normal, LC6, (KC26 b)) := by kernel_rfl
theorem pC30 : pc [1, 1, 1, 1, 1, 1, 1, 1, 1] [] [4] LC6 KC29 = some (.ret, LC0, KC6) := by kernel_rfl
theorem pC31 : pc [1, 1, 1, 1, 1, 1, 1, 1, 1] [] [4] LC6 KC30 = some (.ret, LC0, KC6) := by kernel_rfl
theorem pC32 : pc [1, 1, 1, 1, 1, 1, 1, 1, 1] [] [4] LC6 KC31 = some (.ret, LC0, KC6) := by kernel_rfl
theorem pC33 : pc [1, 1, 1, 1, 1, 1, 1, 1, 1] [] [4] LC6 KC32 = some (.ret, LC0, KC6) := by kernel_rfl
theorem pC34 : pc [1, 1, 1, 1, 1, 1, 1, 1, 1] [] [4] LC6 KC33 = some (.ret, LC0, KC6) := by kernel_rfl
theorem pC35 : pc [1, 1, 1, 1, 1, 1, 1, 1, 1] [] [4] LC6 KC34 = some (.ret, LC0, KC6) := by kernel_rfl
theorem pC36 : pc [1, 1, 1, 1, 1, 1, 1, 1, 1] [] [4] LC6 KC35 = some (.ret, LC0, KC6) := by kernel_rfl
theorem pC37 : pc [1, 1, 1, 1, 1, 1, 1, 1, 1] [] [4] LC6 KC36 = some (.ret, LC0, KC6) := by kernel_rfl
theorem pC38 : pc [1, 1, 1, 1, 1, 1, 1, 1, 1] [] [4] LC6 KC37 = some (.ret, LC0, KC6) := by kernel_rfl
theorem pC39 : pc [1, 1, 1, 1, 1, 1, 1, 1, 1] [] [4] LC6 KC38 = some (.ret, LC0, KC6) := by kernel_rfl
theorem pC40 : pc [1, 1, 1, 1, 1, 1, 1, 1, 1] [] [4] LC6 KC39 = some (.ret, LC0, KC6) := by kernel_rfl
theorem pC41 : pc [1, 1, 1, 1, 1, 1, 1, 1, 1] [] [4] LC6 KC40 = some (.ret, LC0, KC6) := by kernel_rfl
theorem pC42 : pc [1, 1, 1, 1, 1, 1, 1, 1, 1] [] [4] LC6 KC41 = some (.ret, LC0, KC6) := by kernel_rfl
theorem pC43 : pc [1, 1, 1, 1, 1, 1, 1, 1, 1] [] [4] LC6 KC42 = some (.ret, LC0, KC6) := by kernel_rfl
theorem pC44 : pc [1, 1, 1, 1, 1, 1, 1, 1, 1] [] [4] LC6 KC43 = some (.ret, LC0, KC6) := by kernel_rfl
theorem pC45 : pc [1, 1, 1, 1, 1, 1, 1, 1, 1] [] [4] LC6 KC44 = some (.ret, LC0, KC6) := by kernel_rfl
theorem pC46 : pc [1, 1, 1, 1, 1, 1, 1, 1, 1] [] [4] LC6 KC45 = some (.ret, LC0, KC6) := by kernel_rfl
theorem pC47 : pc [1, 1, 1, 1, 1, 1, 1, 1, 1] [] [4] LC6 KC46 = some (.ret, LC0, KC6) := by kernel_rfl
end RLaw
end Go.Proofs.Ytmnnnickodfibaa
