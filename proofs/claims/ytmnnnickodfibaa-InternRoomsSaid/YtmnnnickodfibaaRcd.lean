/- P11.1: a room that is full refuses what is new alone, and changes nothing; what is dropped makes room, at the least id: ways. -/
import Derived.Test.YtmnnnickodfibaaRca
namespace Go.Proofs.Ytmnnnickodfibaa
open Go Go.Ev Go.RowKit
set_option maxRecDepth 100000
set_option linter.unusedVariables false
set_option linter.unusedSimpArgs false
namespace RLaw
theorem pC92 : pc [1, 1, 1, 1, 1, 1, 1, 1, 1] [] [4] LC12 KC89 = some (.ret, LC0, KC6) := by kernel_rfl
theorem pC93 : pc [1, 1, 1, 1, 1, 1, 1, 1, 1] [] [4] LC12 KC90 = some (.ret, LC0, KC6) := by kernel_rfl
theorem pC94 : pc [1, 1, 1, 1, 1, 1, 1, 1, 1] [] [4] LC12 KC91 = some (.ret, LC0, KC6) := by kernel_rfl
theorem pC95 : pc [1, 1, 1, 1, 1, 1, 1, 1, 1] [] [4] LC12 KC92 = some (.ret, LC0, KC6) := by kernel_rfl
theorem pC96 : pc [1, 1, 1, 1, 1, 1, 1, 1, 1] [] [4] LC12 KC93 = some (.ret, LC0, KC6) := by kernel_rfl
theorem pC97 : pc [1, 1, 1, 1, 1, 1, 1, 1, 1] [] [4] LC12 KC94 = some (.ret, LC0, KC6) := by kernel_rfl
theorem pC98 : pc [1, 1, 1, 1, 1, 1, 1, 1, 1] [] [4] LC12 KC95 = some (.ret, LC0, KC6) := by kernel_rfl
theorem pC99 : pc [1, 1, 1, 1, 1, 1, 1, 1, 1] [] [4] LC12 KC96 = some (.ret, LC0, KC6) := by kernel_rfl
theorem pC100 : pc [1, 1, 1, 1, 1, 1, 1, 1, 1] [] [4] LC12 KC97 = some (.ret, LC0, KC6) := by kernel_rfl
theorem pC101 : pc [1, 1, 1, 1, 1, 1, 1, 1, 1] [] [4] LC12 KC98 = some (.ret, LC0, KC6) := by kernel_rfl
theorem s1_18 (b : Int) : pc [1, 1, 1, 1, 1, 1, 1, 1, 0] [G + 0, G + 1, G + 2] [0, 5, 14] LC3 (KC2 b) = some (.normal, LC3, KSC18 b) := by kernel_rfl
theorem s0_18 (a b : Int) : RD [1, 0] [] [0, 1] [] (K0 a b) [.reck 0, .as (nI 17)] .normal [] (KC0 b) [inW a 0 20 17] := by unfold RD; kernel_rfl
theorem s1_19 (b : Int) : pc [1, 1, 1, 1, 1, 1, 1, 1, 0] [G + 0, G + 1, G + 2] [0, 5, 14] LC6 (KC26 b) = some (.normal, LC6, KSC19 b) := by kernel_rfl
theorem s0_19 (a b : Int) : RD [1, 0] [] [0, 1] [] (K0 a b) [.reck 0, .as (nI 18)] .normal [] (KC24 b) [inW a 0 20 18] := by unfold RD; kernel_rfl
theorem s1_20 (b : Int) : pc [1, 1, 1, 1, 1, 1, 1, 1, 0] [G + 0, G + 1, G + 2] [0, 5, 14] LC9 (KC50 b) = some (.normal, LC9, KSC20 b) := by kernel_rfl
theorem s0_20 (a b : Int) : RD [1, 0] [] [0, 1] [] (K0 a b) [.reck 0, .as (nI 19)] .normal [] (KC48 b) [inW a 0 20 19] := by unfold RD; kernel_rfl
theorem s1_21 (b : Int) : pc [1, 1, 1, 1, 1, 1, 1, 1, 0] [G + 0, G + 1, G + 2] [0, 5, 14] LC12 (KC75 b) = some (.normal, LC12, KSC21 b) := by kernel_rfl
theorem s0_21 (a b : Int) : RD [1, 0] [] [0, 1] [] (K0 a b) [.reck 0, .as (nI 20)] .normal [] (KC73 b) [inW a 0 20 20] := by unfold RD; kernel_rfl
end RLaw
end Go.Proofs.Ytmnnnickodfibaa
