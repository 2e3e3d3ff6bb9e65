/- P11.1: a room that is full refuses what is new alone, and changes nothing; what is dropped makes room, at the least id: the walk. -/
import Derived.Test.YtmnnnickodfibaaRab
import Derived.Test.YtmnnnickodfibaaRac
import Derived.Test.YtmnnnickodfibaaRbb
import Derived.Test.YtmnnnickodfibaaRbc
import Derived.Test.YtmnnnickodfibaaRcb
import Derived.Test.YtmnnnickodfibaaRcc
import Derived.Test.YtmnnnickodfibaaRcd
namespace Go.Proofs.Ytmnnnickodfibaa
open Go Go.Ev Go.RowKit
set_option maxRecDepth 100000
set_option linter.unusedVariables false
set_option linter.unusedSimpArgs false
namespace RLaw
theorem room1 {W : World} : Whole W 1 := fun a b ha => by
  have h0 : inW a 0 20 0 := by unfold inW; rw [ha]; rfl
  have hk : 0 ≤ withinV b 0 0 ∧ withinV b 0 0 ≤ 0 := by
    unfold withinV
    have := Int.emod_nonneg b (b := 0 - 0 + 1) (by omega)
    have := Int.emod_lt_of_pos b (b := 0 - 0 + 1) (by omega)
    omega
  have hs := gf (W := W) okr7 (s1_1 b)
  unfold KSA1 at hs
  generalize withinV b 0 0 = k at hk hs
  refine .seq (gs okz (z0 a b) an) (.seq (gs ok0 (s0_1 a b) (ac h0 an)) (.seq (gf okr1 (pA0 b)) (.seq (gf okr2 (pA1 b)) (.seq (gf okr3 (pA2 b)) (.seq (gf okr4 (pA3 b)) (.seq (gf okr5 (pA4 b)) (.seq (gf okr6 (pA5 b)) (.seq hs ?_))))))))
  obtain rfl : k = 0 := by omega
  exact gf okr8 pA6
theorem room2 {W : World} : Whole W 2 := fun a b ha => by
  have h0 : inW a 0 20 1 := by unfold inW; rw [ha]; rfl
  have hk : 0 ≤ withinV b 0 1 ∧ withinV b 0 1 ≤ 1 := by
    unfold withinV
    have := Int.emod_nonneg b (b := 1 - 0 + 1) (by omega)
    have := Int.emod_lt_of_pos b (b := 1 - 0 + 1) (by omega)
    omega
  have hs := gf (W := W) okr7 (s1_2 b)
  unfold KSA2 at hs
  generalize withinV b 0 1 = k at hk hs
  refine .seq (gs okz (z0 a b) an) (.seq (gs ok0 (s0_2 a b) (ac h0 an)) (.seq (gf okr1 (pA7 b)) (.seq (gf okr2 (pA8 b)) (.seq (gf okr3 (pA9 b)) (.seq (gf okr4 (pA10 b)) (.seq (gf okr5 (pA11 b)) (.seq (gf okr6 (pA12 b)) (.seq hs ?_))))))))
  rcases (show k = 0 ∨ k = 1 by omega) with rfl | rfl
  · exact gf okr8 pA13
  · exact gf okr8 pA14
theorem room3 {W : World} : Whole W 3 := fun a b ha => by
  have h0 : inW a 0 20 2 := by unfold inW; rw [ha]; rfl
  have hk : 0 ≤ withinV b 0 2 ∧ withinV b 0 2 ≤ 2 := by
    unfold withinV
    have := Int.emod_nonneg b (b := 2 - 0 + 1) (by omega)
    have := Int.emod_lt_of_pos b (b := 2 - 0 + 1) (by omega)
    omega
  have hs := gf (W := W) okr7 (s1_3 b)
  unfold KSA3 at hs
  generalize withinV b 0 2 = k at hk hs
  refine .seq (gs okz (z0 a b) an) (.seq (gs ok0 (s0_3 a b) (ac h0 an)) (.seq (gf okr1 (pA15 b)) (.seq (gf okr2 (pA16 b)) (.seq (gf okr3 (pA17 b)) (.seq (gf okr4 (pA18 b)) (.seq (gf okr5 (pA19 b)) (.seq (gf okr6 (pA20 b)) (.seq hs ?_))))))))
  rcases (show k = 0 ∨ k = 1 ∨ k = 2 by omega) with rfl | rfl | rfl
  · exact gf okr8 pA21
  · exact gf okr8 pA22
  · exact gf okr8 pA23
theorem room4 {W : World} : Whole W 4 := fun a b ha => by
  have h0 : inW a 0 20 3 := by unfold inW; rw [ha]; rfl
  have hk : 0 ≤ withinV b 0 3 ∧ withinV b 0 3 ≤ 3 := by
    unfold withinV
    have := Int.emod_nonneg b (b := 3 - 0 + 1) (by omega)
    have := Int.emod_lt_of_pos b (b := 3 - 0 + 1) (by omega)
    omega
  have hs := gf (W := W) okr7 (s1_4 b)
  unfold KSA4 at hs
  generalize withinV b 0 3 = k at hk hs
  refine .seq (gs okz (z0 a b) an) (.seq (gs ok0 (s0_4 a b) (ac h0 an)) (.seq (gf okr1 (pA24 b)) (.seq (gf okr2 (pA25 b)) (.seq (gf okr3 (pA26 b)) (.seq (gf okr4 (pA27 b)) (.seq (gf okr5 (pA28 b)) (.seq (gf okr6 (pA29 b)) (.seq hs ?_))))))))
  rcases (show k = 0 ∨ k = 1 ∨ k = 2 ∨ k = 3 by omega) with rfl | rfl | rfl | rfl
  · exact gf okr8 pA30
  · exact gf okr8 pA31
  · exact gf okr8 pA32
  · exact gf okr8 pA33
theorem room5 {W : World} : Whole W 5 := fun a b ha => by
  have h0 : inW a 0 20 4 := by unfold inW; rw [ha]; rfl
  have hk : 0 ≤ withinV b 0 4 ∧ withinV b 0 4 ≤ 4 := by
    unfold withinV
    have := Int.emod_nonneg b (b := 4 - 0 + 1) (by omega)
    have := Int.emod_lt_of_pos b (b := 4 - 0 + 1) (by omega)
    omega
  have hs := gf (W := W) okr7 (s1_5 b)
  unfold KSA5 at hs
  generalize withinV b 0 4 = k at hk hs
  refine .seq (gs okz (z0 a b) an) (.seq (gs ok0 (s0_5 a b) (ac h0 an)) (.seq (gf okr1 (pA34 b)) (.seq (gf okr2 (pA35 b)) (.seq (gf okr3 (pA36 b)) (.seq (gf okr4 (pA37 b)) (.seq (gf okr5 (pA38 b)) (.seq (gf okr6 (pA39 b)) (.seq hs ?_))))))))
  rcases (show k = 0 ∨ k = 1 ∨ k = 2 ∨ k = 3 ∨ k = 4 by omega) with rfl | rfl | rfl | rfl | rfl
  · exact gf okr8 pA40
  · exact gf okr8 pA41
  · exact gf okr8 pA42
  · exact gf okr8 pA43
  · exact gf okr8 pA44
theorem room6 {W : World} : Whole W 6 := fun a b ha => by
  have h0 : inW a 0 20 5 := by unfold inW; rw [ha]; rfl
  have hk : 0 ≤ withinV b 0 5 ∧ withinV b 0 5 ≤ 5 := by
    unfold withinV
    have := Int.emod_nonneg b (b := 5 - 0 + 1) (by omega)
    have := Int.emod_lt_of_pos b (b := 5 - 0 + 1) (by omega)
    omega
  have hs := gf (W := W) okr7 (s1_6 b)
  unfold KSA6 at hs
  generalize withinV b 0 5 = k at hk hs
  refine .seq (gs okz (z0 a b) an) (.seq (gs ok0 (s0_6 a b) (ac h0 an)) (.seq (gf okr1 (pA45 b)) (.seq (gf okr2 (pA46 b)) (.seq (gf okr3 (pA47 b)) (.seq (gf okr4 (pA48 b)) (.seq (gf okr5 (pA49 b)) (.seq (gf okr6 (pA50 b)) (.seq hs ?_))))))))
  rcases (show k = 0 ∨ k = 1 ∨ k = 2 ∨ k = 3 ∨ k = 4 ∨ k = 5 by omega) with rfl | rfl | rfl | rfl | rfl | rfl
  · exact gf okr8 pA51
  · exact gf okr8 pA52
  · exact gf okr8 pA53
  · exact gf okr8 pA54
  · exact gf okr8 pA55
  · exact gf okr8 pA56
theorem room7 {W : World} : Whole W 7 := fun a b ha => by
  have h0 : inW a 0 20 6 := by unfold inW; rw [ha]; rfl
  have hk : 0 ≤ withinV b 0 6 ∧ withinV b 0 6 ≤ 6 := by
    unfold withinV
    have := Int.emod_nonneg b (b := 6 - 0 + 1) (by omega)
    have := Int.emod_lt_of_pos b (b := 6 - 0 + 1) (by omega)
    omega
  have hs := gf (W := W) okr7 (s1_7 b)
  unfold KSA7 at hs
  generalize withinV b 0 6 = k at hk hs
  refine .seq (gs okz (z0 a b) an) (.seq (gs ok0 (s0_7 a b) (ac h0 an)) (.seq (gf okr1 (pA57 b)) (.seq (gf okr2 (pA58 b)) (.seq (gf okr3 (pA59 b)) (.seq (gf okr4 (pA60 b)) (.seq (gf okr5 (pA61 b)) (.seq (gf okr6 (pA62 b)) (.seq hs ?_))))))))
  rcases (show k = 0 ∨ k = 1 ∨ k = 2 ∨ k = 3 ∨ k = 4 ∨ k = 5 ∨ k = 6 by omega) with rfl | rfl | rfl | rfl | rfl | rfl | rfl
  · exact gf okr8 pA63
  · exact gf okr8 pA64
  · exact gf okr8 pA65
  · exact gf okr8 pA66
  · exact gf okr8 pA67
  · exact gf okr8 pA68
  · exact gf okr8 pA69
theorem room8 {W : World} : Whole W 8 := fun a b ha => by
  have h0 : inW a 0 20 7 := by unfold inW; rw [ha]; rfl
  have hk : 0 ≤ withinV b 0 7 ∧ withinV b 0 7 ≤ 7 := by
    unfold withinV
    have := Int.emod_nonneg b (b := 7 - 0 + 1) (by omega)
    have := Int.emod_lt_of_pos b (b := 7 - 0 + 1) (by omega)
    omega
  have hs := gf (W := W) okr7 (s1_8 b)
  unfold KSA8 at hs
  generalize withinV b 0 7 = k at hk hs
  refine .seq (gs okz (z0 a b) an) (.seq (gs ok0 (s0_8 a b) (ac h0 an)) (.seq (gf okr1 (pA70 b)) (.seq (gf okr2 (pA71 b)) (.seq (gf okr3 (pA72 b)) (.seq (gf okr4 (pA73 b)) (.seq (gf okr5 (pA74 b)) (.seq (gf okr6 (pA75 b)) (.seq hs ?_))))))))
  rcases (show k = 0 ∨ k = 1 ∨ k = 2 ∨ k = 3 ∨ k = 4 ∨ k = 5 ∨ k = 6 ∨ k = 7 by omega) with rfl | rfl | rfl | rfl | rfl | rfl | rfl | rfl
  · exact gf okr8 pA76
  · exact gf okr8 pA77
  · exact gf okr8 pA78
  · exact gf okr8 pA79
  · exact gf okr8 pA80
  · exact gf okr8 pA81
  · exact gf okr8 pA82
  · exact gf okr8 pA83
theorem room9 {W : World} : Whole W 9 := fun a b ha => by
  have h0 : inW a 0 20 8 := by unfold inW; rw [ha]; rfl
  have hk : 0 ≤ withinV b 0 8 ∧ withinV b 0 8 ≤ 8 := by
    unfold withinV
    have := Int.emod_nonneg b (b := 8 - 0 + 1) (by omega)
    have := Int.emod_lt_of_pos b (b := 8 - 0 + 1) (by omega)
    omega
  have hs := gf (W := W) okr7 (s1_9 b)
  unfold KSA9 at hs
  generalize withinV b 0 8 = k at hk hs
  refine .seq (gs okz (z0 a b) an) (.seq (gs ok0 (s0_9 a b) (ac h0 an)) (.seq (gf okr1 (pA84 b)) (.seq (gf okr2 (pA85 b)) (.seq (gf okr3 (pA86 b)) (.seq (gf okr4 (pA87 b)) (.seq (gf okr5 (pA88 b)) (.seq (gf okr6 (pA89 b)) (.seq hs ?_))))))))
  rcases (show k = 0 ∨ k = 1 ∨ k = 2 ∨ k = 3 ∨ k = 4 ∨ k = 5 ∨ k = 6 ∨ k = 7 ∨ k = 8 by omega) with rfl | rfl | rfl | rfl | rfl | rfl | rfl | rfl | rfl
  · exact gf okr8 pA90
  · exact gf okr8 pA91
  · exact gf okr8 pA92
  · exact gf okr8 pA93
  · exact gf okr8 pA94
  · exact gf okr8 pA95
  · exact gf okr8 pA96
  · exact gf okr8 pA97
  · exact gf okr8 pA98
theorem room10 {W : World} : Whole W 10 := fun a b ha => by
  have h0 : inW a 0 20 9 := by unfold inW; rw [ha]; rfl
  have hk : 0 ≤ withinV b 0 9 ∧ withinV b 0 9 ≤ 9 := by
    unfold withinV
    have := Int.emod_nonneg b (b := 9 - 0 + 1) (by omega)
    have := Int.emod_lt_of_pos b (b := 9 - 0 + 1) (by omega)
    omega
  have hs := gf (W := W) okr7 (s1_10 b)
  unfold KSA10 at hs
  generalize withinV b 0 9 = k at hk hs
  refine .seq (gs okz (z0 a b) an) (.seq (gs ok0 (s0_10 a b) (ac h0 an)) (.seq (gf okr1 (pA99 b)) (.seq (gf okr2 (pA100 b)) (.seq (gf okr3 (pA101 b)) (.seq (gf okr4 (pA102 b)) (.seq (gf okr5 (pA103 b)) (.seq (gf okr6 (pA104 b)) (.seq hs ?_))))))))
  rcases (show k = 0 ∨ k = 1 ∨ k = 2 ∨ k = 3 ∨ k = 4 ∨ k = 5 ∨ k = 6 ∨ k = 7 ∨ k = 8 ∨ k = 9 by omega) with rfl | rfl | rfl | rfl | rfl | rfl | rfl | rfl | rfl | rfl
  · exact gf okr8 pA105
  · exact gf okr8 pA106
  · exact gf okr8 pA107
  · exact gf okr8 pA108
  · exact gf okr8 pA109
  · exact gf okr8 pA110
  · exact gf okr8 pA111
  · exact gf okr8 pA112
  · exact gf okr8 pA113
  · exact gf okr8 pA114
theorem room11 {W : World} : Whole W 11 := fun a b ha => by
  have h0 : inW a 0 20 10 := by unfold inW; rw [ha]; rfl
  have hk : 0 ≤ withinV b 0 10 ∧ withinV b 0 10 ≤ 10 := by
    unfold withinV
    have := Int.emod_nonneg b (b := 10 - 0 + 1) (by omega)
    have := Int.emod_lt_of_pos b (b := 10 - 0 + 1) (by omega)
    omega
  have hs := gf (W := W) okr7 (s1_11 b)
  unfold KSA11 at hs
  generalize withinV b 0 10 = k at hk hs
  refine .seq (gs okz (z0 a b) an) (.seq (gs ok0 (s0_11 a b) (ac h0 an)) (.seq (gf okr1 (pA115 b)) (.seq (gf okr2 (pA116 b)) (.seq (gf okr3 (pA117 b)) (.seq (gf okr4 (pA118 b)) (.seq (gf okr5 (pA119 b)) (.seq (gf okr6 (pA120 b)) (.seq hs ?_))))))))
  rcases (show k = 0 ∨ k = 1 ∨ k = 2 ∨ k = 3 ∨ k = 4 ∨ k = 5 ∨ k = 6 ∨ k = 7 ∨ k = 8 ∨ k = 9 ∨ k = 10 by omega) with rfl | rfl | rfl | rfl | rfl | rfl | rfl | rfl | rfl | rfl | rfl
  · exact gf okr8 pA121
  · exact gf okr8 pA122
  · exact gf okr8 pA123
  · exact gf okr8 pA124
  · exact gf okr8 pA125
  · exact gf okr8 pA126
  · exact gf okr8 pA127
  · exact gf okr8 pA128
  · exact gf okr8 pA129
  · exact gf okr8 pA130
  · exact gf okr8 pA131
theorem room12 {W : World} : Whole W 12 := fun a b ha => by
  have h0 : inW a 0 20 11 := by unfold inW; rw [ha]; rfl
  have hk : 0 ≤ withinV b 0 11 ∧ withinV b 0 11 ≤ 11 := by
    unfold withinV
    have := Int.emod_nonneg b (b := 11 - 0 + 1) (by omega)
    have := Int.emod_lt_of_pos b (b := 11 - 0 + 1) (by omega)
    omega
  have hs := gf (W := W) okr7 (s1_12 b)
  unfold KSA12 at hs
  generalize withinV b 0 11 = k at hk hs
  refine .seq (gs okz (z0 a b) an) (.seq (gs ok0 (s0_12 a b) (ac h0 an)) (.seq (gf okr1 (pA132 b)) (.seq (gf okr2 (pA133 b)) (.seq (gf okr3 (pA134 b)) (.seq (gf okr4 (pA135 b)) (.seq (gf okr5 (pA136 b)) (.seq (gf okr6 (pA137 b)) (.seq hs ?_))))))))
  rcases (show k = 0 ∨ k = 1 ∨ k = 2 ∨ k = 3 ∨ k = 4 ∨ k = 5 ∨ k = 6 ∨ k = 7 ∨ k = 8 ∨ k = 9 ∨ k = 10 ∨ k = 11 by omega) with rfl | rfl | rfl | rfl | rfl | rfl | rfl | rfl | rfl | rfl | rfl | rfl
  · exact gf okr8 pA138
  · exact gf okr8 pA139
  · exact gf okr8 pA140
  · exact gf okr8 pA141
  · exact gf okr8 pA142
  · exact gf okr8 pA143
  · exact gf okr8 pA144
  · exact gf okr8 pA145
  · exact gf okr8 pA146
  · exact gf okr8 pA147
  · exact gf okr8 pA148
  · exact gf okr8 pA149
theorem room13 {W : World} : Whole W 13 := fun a b ha => by
  have h0 : inW a 0 20 12 := by unfold inW; rw [ha]; rfl
  have hk : 0 ≤ withinV b 0 12 ∧ withinV b 0 12 ≤ 12 := by
    unfold withinV
    have := Int.emod_nonneg b (b := 12 - 0 + 1) (by omega)
    have := Int.emod_lt_of_pos b (b := 12 - 0 + 1) (by omega)
    omega
  have hs := gf (W := W) okr7 (s1_13 b)
  unfold KSB13 at hs
  generalize withinV b 0 12 = k at hk hs
  refine .seq (gs okz (z0 a b) an) (.seq (gs ok0 (s0_13 a b) (ac h0 an)) (.seq (gf okr1 (pB0 b)) (.seq (gf okr2 (pB1 b)) (.seq (gf okr3 (pB2 b)) (.seq (gf okr4 (pB3 b)) (.seq (gf okr5 (pB4 b)) (.seq (gf okr6 (pB5 b)) (.seq hs ?_))))))))
  rcases (show k = 0 ∨ k = 1 ∨ k = 2 ∨ k = 3 ∨ k = 4 ∨ k = 5 ∨ k = 6 ∨ k = 7 ∨ k = 8 ∨ k = 9 ∨ k = 10 ∨ k = 11 ∨ k = 12 by omega) with rfl | rfl | rfl | rfl | rfl | rfl | rfl | rfl | rfl | rfl | rfl | rfl | rfl
  · exact gf okr8 pB6
  · exact gf okr8 pB7
  · exact gf okr8 pB8
  · exact gf okr8 pB9
  · exact gf okr8 pB10
  · exact gf okr8 pB11
  · exact gf okr8 pB12
  · exact gf okr8 pB13
  · exact gf okr8 pB14
  · exact gf okr8 pB15
  · exact gf okr8 pB16
  · exact gf okr8 pB17
  · exact gf okr8 pB18
theorem room14 {W : World} : Whole W 14 := fun a b ha => by
  have h0 : inW a 0 20 13 := by unfold inW; rw [ha]; rfl
  have hk : 0 ≤ withinV b 0 13 ∧ withinV b 0 13 ≤ 13 := by
    unfold withinV
    have := Int.emod_nonneg b (b := 13 - 0 + 1) (by omega)
    have := Int.emod_lt_of_pos b (b := 13 - 0 + 1) (by omega)
    omega
  have hs := gf (W := W) okr7 (s1_14 b)
  unfold KSB14 at hs
  generalize withinV b 0 13 = k at hk hs
  refine .seq (gs okz (z0 a b) an) (.seq (gs ok0 (s0_14 a b) (ac h0 an)) (.seq (gf okr1 (pB19 b)) (.seq (gf okr2 (pB20 b)) (.seq (gf okr3 (pB21 b)) (.seq (gf okr4 (pB22 b)) (.seq (gf okr5 (pB23 b)) (.seq (gf okr6 (pB24 b)) (.seq hs ?_))))))))
  rcases (show k = 0 ∨ k = 1 ∨ k = 2 ∨ k = 3 ∨ k = 4 ∨ k = 5 ∨ k = 6 ∨ k = 7 ∨ k = 8 ∨ k = 9 ∨ k = 10 ∨ k = 11 ∨ k = 12 ∨ k = 13 by omega) with rfl | rfl | rfl | rfl | rfl | rfl | rfl | rfl | rfl | rfl | rfl | rfl | rfl | rfl
  · exact gf okr8 pB25
  · exact gf okr8 pB26
  · exact gf okr8 pB27
  · exact gf okr8 pB28
  · exact gf okr8 pB29
  · exact gf okr8 pB30
  · exact gf okr8 pB31
  · exact gf okr8 pB32
  · exact gf okr8 pB33
  · exact gf okr8 pB34
  · exact gf okr8 pB35
  · exact gf okr8 pB36
  · exact gf okr8 pB37
  · exact gf okr8 pB38
theorem room15 {W : World} : Whole W 15 := fun a b ha => by
  have h0 : inW a 0 20 14 := by unfold inW; rw [ha]; rfl
  have hk : 0 ≤ withinV b 0 14 ∧ withinV b 0 14 ≤ 14 := by
    unfold withinV
    have := Int.emod_nonneg b (b := 14 - 0 + 1) (by omega)
    have := Int.emod_lt_of_pos b (b := 14 - 0 + 1) (by omega)
    omega
  have hs := gf (W := W) okr7 (s1_15 b)
  unfold KSB15 at hs
  generalize withinV b 0 14 = k at hk hs
  refine .seq (gs okz (z0 a b) an) (.seq (gs ok0 (s0_15 a b) (ac h0 an)) (.seq (gf okr1 (pB39 b)) (.seq (gf okr2 (pB40 b)) (.seq (gf okr3 (pB41 b)) (.seq (gf okr4 (pB42 b)) (.seq (gf okr5 (pB43 b)) (.seq (gf okr6 (pB44 b)) (.seq hs ?_))))))))
  rcases (show k = 0 ∨ k = 1 ∨ k = 2 ∨ k = 3 ∨ k = 4 ∨ k = 5 ∨ k = 6 ∨ k = 7 ∨ k = 8 ∨ k = 9 ∨ k = 10 ∨ k = 11 ∨ k = 12 ∨ k = 13 ∨ k = 14 by omega) with rfl | rfl | rfl | rfl | rfl | rfl | rfl | rfl | rfl | rfl | rfl | rfl | rfl | rfl | rfl
  · exact gf okr8 pB45
  · exact gf okr8 pB46
  · exact gf okr8 pB47
  · exact gf okr8 pB48
  · exact gf okr8 pB49
  · exact gf okr8 pB50
  · exact gf okr8 pB51
  · exact gf okr8 pB52
  · exact gf okr8 pB53
  · exact gf okr8 pB54
  · exact gf okr8 pB55
  · exact gf okr8 pB56
  · exact gf okr8 pB57
  · exact gf okr8 pB58
  · exact gf okr8 pB59
theorem room16 {W : World} : Whole W 16 := fun a b ha => by
  have h0 : inW a 0 20 15 := by unfold inW; rw [ha]; rfl
  have hk : 0 ≤ withinV b 0 15 ∧ withinV b 0 15 ≤ 15 := by
    unfold withinV
    have := Int.emod_nonneg b (b := 15 - 0 + 1) (by omega)
    have := Int.emod_lt_of_pos b (b := 15 - 0 + 1) (by omega)
    omega
  have hs := gf (W := W) okr7 (s1_16 b)
  unfold KSB16 at hs
  generalize withinV b 0 15 = k at hk hs
  refine .seq (gs okz (z0 a b) an) (.seq (gs ok0 (s0_16 a b) (ac h0 an)) (.seq (gf okr1 (pB60 b)) (.seq (gf okr2 (pB61 b)) (.seq (gf okr3 (pB62 b)) (.seq (gf okr4 (pB63 b)) (.seq (gf okr5 (pB64 b)) (.seq (gf okr6 (pB65 b)) (.seq hs ?_))))))))
  rcases (show k = 0 ∨ k = 1 ∨ k = 2 ∨ k = 3 ∨ k = 4 ∨ k = 5 ∨ k = 6 ∨ k = 7 ∨ k = 8 ∨ k = 9 ∨ k = 10 ∨ k = 11 ∨ k = 12 ∨ k = 13 ∨ k = 14 ∨ k = 15 by omega) with rfl | rfl | rfl | rfl | rfl | rfl | rfl | rfl | rfl | rfl | rfl | rfl | rfl | rfl | rfl | rfl
  · exact gf okr8 pB66
  · exact gf okr8 pB67
  · exact gf okr8 pB68
  · exact gf okr8 pB69
  · exact gf okr8 pB70
  · exact gf okr8 pB71
  · exact gf okr8 pB72
  · exact gf okr8 pB73
  · exact gf okr8 pB74
  · exact gf okr8 pB75
  · exact gf okr8 pB76
  · exact gf okr8 pB77
  · exact gf okr8 pB78
  · exact gf okr8 pB79
  · exact gf okr8 pB80
  · exact gf okr8 pB81
theorem room17 {W : World} : Whole W 17 := fun a b ha => by
  have h0 : inW a 0 20 16 := by unfold inW; rw [ha]; rfl
  have hk : 0 ≤ withinV b 0 16 ∧ withinV b 0 16 ≤ 16 := by
    unfold withinV
    have := Int.emod_nonneg b (b := 16 - 0 + 1) (by omega)
    have := Int.emod_lt_of_pos b (b := 16 - 0 + 1) (by omega)
    omega
  have hs := gf (W := W) okr7 (s1_17 b)
  unfold KSB17 at hs
  generalize withinV b 0 16 = k at hk hs
  refine .seq (gs okz (z0 a b) an) (.seq (gs ok0 (s0_17 a b) (ac h0 an)) (.seq (gf okr1 (pB82 b)) (.seq (gf okr2 (pB83 b)) (.seq (gf okr3 (pB84 b)) (.seq (gf okr4 (pB85 b)) (.seq (gf okr5 (pB86 b)) (.seq (gf okr6 (pB87 b)) (.seq hs ?_))))))))
  rcases (show k = 0 ∨ k = 1 ∨ k = 2 ∨ k = 3 ∨ k = 4 ∨ k = 5 ∨ k = 6 ∨ k = 7 ∨ k = 8 ∨ k = 9 ∨ k = 10 ∨ k = 11 ∨ k = 12 ∨ k = 13 ∨ k = 14 ∨ k = 15 ∨ k = 16 by omega) with rfl | rfl | rfl | rfl | rfl | rfl | rfl | rfl | rfl | rfl | rfl | rfl | rfl | rfl | rfl | rfl | rfl
  · exact gf okr8 pB88
  · exact gf okr8 pB89
  · exact gf okr8 pB90
  · exact gf okr8 pB91
  · exact gf okr8 pB92
  · exact gf okr8 pB93
  · exact gf okr8 pB94
  · exact gf okr8 pB95
  · exact gf okr8 pB96
  · exact gf okr8 pB97
  · exact gf okr8 pB98
  · exact gf okr8 pB99
  · exact gf okr8 pB100
  · exact gf okr8 pB101
  · exact gf okr8 pB102
  · exact gf okr8 pB103
  · exact gf okr8 pB104
theorem room18 {W : World} : Whole W 18 := fun a b ha => by
  have h0 : inW a 0 20 17 := by unfold inW; rw [ha]; rfl
  have hk : 0 ≤ withinV b 0 17 ∧ withinV b 0 17 ≤ 17 := by
    unfold withinV
    have := Int.emod_nonneg b (b := 17 - 0 + 1) (by omega)
    have := Int.emod_lt_of_pos b (b := 17 - 0 + 1) (by omega)
    omega
  have hs := gf (W := W) okr7 (s1_18 b)
  unfold KSC18 at hs
  generalize withinV b 0 17 = k at hk hs
  refine .seq (gs okz (z0 a b) an) (.seq (gs ok0 (s0_18 a b) (ac h0 an)) (.seq (gf okr1 (pC0 b)) (.seq (gf okr2 (pC1 b)) (.seq (gf okr3 (pC2 b)) (.seq (gf okr4 (pC3 b)) (.seq (gf okr5 (pC4 b)) (.seq (gf okr6 (pC5 b)) (.seq hs ?_))))))))
  rcases (show k = 0 ∨ k = 1 ∨ k = 2 ∨ k = 3 ∨ k = 4 ∨ k = 5 ∨ k = 6 ∨ k = 7 ∨ k = 8 ∨ k = 9 ∨ k = 10 ∨ k = 11 ∨ k = 12 ∨ k = 13 ∨ k = 14 ∨ k = 15 ∨ k = 16 ∨ k = 17 by omega) with rfl | rfl | rfl | rfl | rfl | rfl | rfl | rfl | rfl | rfl | rfl | rfl | rfl | rfl | rfl | rfl | rfl | rfl
  · exact gf okr8 pC6
  · exact gf okr8 pC7
  · exact gf okr8 pC8
  · exact gf okr8 pC9
  · exact gf okr8 pC10
  · exact gf okr8 pC11
  · exact gf okr8 pC12
  · exact gf okr8 pC13
  · exact gf okr8 pC14
  · exact gf okr8 pC15
  · exact gf okr8 pC16
  · exact gf okr8 pC17
  · exact gf okr8 pC18
  · exact gf okr8 pC19
  · exact gf okr8 pC20
  · exact gf okr8 pC21
  · exact gf okr8 pC22
  · exact gf okr8 pC23
theorem room19 {W : World} : Whole W 19 := fun a b ha => by
  have h0 : inW a 0 20 18 := by unfold inW; rw [ha]; rfl
  have hk : 0 ≤ withinV b 0 18 ∧ withinV b 0 18 ≤ 18 := by
    unfold withinV
    have := Int.emod_nonneg b (b := 18 - 0 + 1) (by omega)
    have := Int.emod_lt_of_pos b (b := 18 - 0 + 1) (by omega)
    omega
  have hs := gf (W := W) okr7 (s1_19 b)
  unfold KSC19 at hs
  generalize withinV b 0 18 = k at hk hs
  refine .seq (gs okz (z0 a b) an) (.seq (gs ok0 (s0_19 a b) (ac h0 an)) (.seq (gf okr1 (pC24 b)) (.seq (gf okr2 (pC25 b)) (.seq (gf okr3 (pC26 b)) (.seq (gf okr4 (pC27 b)) (.seq (gf okr5 (pC28 b)) (.seq (gf okr6 (pC29 b)) (.seq hs ?_))))))))
  rcases (show k = 0 ∨ k = 1 ∨ k = 2 ∨ k = 3 ∨ k = 4 ∨ k = 5 ∨ k = 6 ∨ k = 7 ∨ k = 8 ∨ k = 9 ∨ k = 10 ∨ k = 11 ∨ k = 12 ∨ k = 13 ∨ k = 14 ∨ k = 15 ∨ k = 16 ∨ k = 17 ∨ k = 18 by omega) with rfl | rfl | rfl | rfl | rfl | rfl | rfl | rfl | rfl | rfl | rfl | rfl | rfl | rfl | rfl | rfl | rfl | rfl | rfl
  · exact gf okr8 pC30
  · exact gf okr8 pC31
  · exact gf okr8 pC32
  · exact gf okr8 pC33
  · exact gf okr8 pC34
  · exact gf okr8 pC35
  · exact gf okr8 pC36
  · exact gf okr8 pC37
  · exact gf okr8 pC38
  · exact gf okr8 pC39
  · exact gf okr8 pC40
  · exact gf okr8 pC41
  · exact gf okr8 pC42
  · exact gf okr8 pC43
  · exact gf okr8 pC44
  · exact gf okr8 pC45
  · exact gf okr8 pC46
  · exact gf okr8 pC47
  · exact gf okr8 pC48
theorem room20 {W : World} : Whole W 20 := fun a b ha => by
  have h0 : inW a 0 20 19 := by unfold inW; rw [ha]; rfl
  have hk : 0 ≤ withinV b 0 19 ∧ withinV b 0 19 ≤ 19 := by
    unfold withinV
    have := Int.emod_nonneg b (b := 19 - 0 + 1) (by omega)
    have := Int.emod_lt_of_pos b (b := 19 - 0 + 1) (by omega)
    omega
  have hs := gf (W := W) okr7 (s1_20 b)
  unfold KSC20 at hs
  generalize withinV b 0 19 = k at hk hs
  refine .seq (gs okz (z0 a b) an) (.seq (gs ok0 (s0_20 a b) (ac h0 an)) (.seq (gf okr1 (pC49 b)) (.seq (gf okr2 (pC50 b)) (.seq (gf okr3 (pC51 b)) (.seq (gf okr4 (pC52 b)) (.seq (gf okr5 (pC53 b)) (.seq (gf okr6 (pC54 b)) (.seq hs ?_))))))))
  rcases (show k = 0 ∨ k = 1 ∨ k = 2 ∨ k = 3 ∨ k = 4 ∨ k = 5 ∨ k = 6 ∨ k = 7 ∨ k = 8 ∨ k = 9 ∨ k = 10 ∨ k = 11 ∨ k = 12 ∨ k = 13 ∨ k = 14 ∨ k = 15 ∨ k = 16 ∨ k = 17 ∨ k = 18 ∨ k = 19 by omega) with rfl | rfl | rfl | rfl | rfl | rfl | rfl | rfl | rfl | rfl | rfl | rfl | rfl | rfl | rfl | rfl | rfl | rfl | rfl | rfl
  · exact gf okr8 pC55
  · exact gf okr8 pC56
  · exact gf okr8 pC57
  · exact gf okr8 pC58
  · exact gf okr8 pC59
  · exact gf okr8 pC60
  · exact gf okr8 pC61
  · exact gf okr8 pC62
  · exact gf okr8 pC63
  · exact gf okr8 pC64
  · exact gf okr8 pC65
  · exact gf okr8 pC66
  · exact gf okr8 pC67
  · exact gf okr8 pC68
  · exact gf okr8 pC69
  · exact gf okr8 pC70
  · exact gf okr8 pC71
  · exact gf okr8 pC72
  · exact gf okr8 pC73
  · exact gf okr8 pC74
theorem room21 {W : World} : Whole W 21 := fun a b ha => by
  have h0 : inW a 0 20 20 := by unfold inW; rw [ha]; rfl
  have hk : 0 ≤ withinV b 0 20 ∧ withinV b 0 20 ≤ 20 := by
    unfold withinV
    have := Int.emod_nonneg b (b := 20 - 0 + 1) (by omega)
    have := Int.emod_lt_of_pos b (b := 20 - 0 + 1) (by omega)
    omega
  have hs := gf (W := W) okr7 (s1_21 b)
  unfold KSC21 at hs
  generalize withinV b 0 20 = k at hk hs
  refine .seq (gs okz (z0 a b) an) (.seq (gs ok0 (s0_21 a b) (ac h0 an)) (.seq (gf okr1 (pC75 b)) (.seq (gf okr2 (pC76 b)) (.seq (gf okr3 (pC77 b)) (.seq (gf okr4 (pC78 b)) (.seq (gf okr5 (pC79 b)) (.seq (gf okr6 (pC80 b)) (.seq hs ?_))))))))
  rcases (show k = 0 ∨ k = 1 ∨ k = 2 ∨ k = 3 ∨ k = 4 ∨ k = 5 ∨ k = 6 ∨ k = 7 ∨ k = 8 ∨ k = 9 ∨ k = 10 ∨ k = 11 ∨ k = 12 ∨ k = 13 ∨ k = 14 ∨ k = 15 ∨ k = 16 ∨ k = 17 ∨ k = 18 ∨ k = 19 ∨ k = 20 by omega) with rfl | rfl | rfl | rfl | rfl | rfl | rfl | rfl | rfl | rfl | rfl | rfl | rfl | rfl | rfl | rfl | rfl | rfl | rfl | rfl | rfl
  · exact gf okr8 pC81
  · exact gf okr8 pC82
  · exact gf okr8 pC83
  · exact gf okr8 pC84
  · exact gf okr8 pC85
  · exact gf okr8 pC86
  · exact gf okr8 pC87
  · exact gf okr8 pC88
  · exact gf okr8 pC89
  · exact gf okr8 pC90
  · exact gf okr8 pC91
  · exact gf okr8 pC92
  · exact gf okr8 pC93
  · exact gf okr8 pC94
  · exact gf okr8 pC95
  · exact gf okr8 pC96
  · exact gf okr8 pC97
  · exact gf okr8 pC98
  · exact gf okr8 pC99
  · exact gf okr8 pC100
  · exact gf okr8 pC101
theorem whole {W : World} (a b : Int) : ∃ c, Try.f3.body = some c ∧ Goes Try.prog W c (hk G []) (tk NT (K0 a b)) .ret (hk G []) (tk NT [(4, .bool true)]) := by
  refine ⟨_, shape, ?_⟩
  have hn : 0 ≤ withinV a 0 20 ∧ withinV a 0 20 ≤ 20 := by
    unfold withinV
    have := Int.emod_nonneg a (b := 20 - 0 + 1) (by omega)
    have := Int.emod_lt_of_pos a (b := 20 - 0 + 1) (by omega)
    omega
  rcases (show withinV a 0 20 = 0 ∨ withinV a 0 20 = 1 ∨ withinV a 0 20 = 2 ∨ withinV a 0 20 = 3 ∨ withinV a 0 20 = 4 ∨ withinV a 0 20 = 5 ∨ withinV a 0 20 = 6 ∨ withinV a 0 20 = 7 ∨ withinV a 0 20 = 8 ∨ withinV a 0 20 = 9 ∨ withinV a 0 20 = 10 ∨ withinV a 0 20 = 11 ∨ withinV a 0 20 = 12 ∨ withinV a 0 20 = 13 ∨ withinV a 0 20 = 14 ∨ withinV a 0 20 = 15 ∨ withinV a 0 20 = 16 ∨ withinV a 0 20 = 17 ∨ withinV a 0 20 = 18 ∨ withinV a 0 20 = 19 ∨ withinV a 0 20 = 20 by omega) with h | h | h | h | h | h | h | h | h | h | h | h | h | h | h | h | h | h | h | h | h
  · exact room1 a b h
  · exact room2 a b h
  · exact room3 a b h
  · exact room4 a b h
  · exact room5 a b h
  · exact room6 a b h
  · exact room7 a b h
  · exact room8 a b h
  · exact room9 a b h
  · exact room10 a b h
  · exact room11 a b h
  · exact room12 a b h
  · exact room13 a b h
  · exact room14 a b h
  · exact room15 a b h
  · exact room16 a b h
  · exact room17 a b h
  · exact room18 a b h
  · exact room19 a b h
  · exact room20 a b h
  · exact room21 a b h
theorem walk (a b : Int) (_ : (Lit.int .i64 a).wf = true) (_ : (Lit.int .i64 b).wf = true) (W : World) : Calls Try.prog 3 #[.int .i64 a, .int .i64 b] W fun e W' => e = .returned (.bool true) ∧ Below W.heap.size W W' := by
  obtain ⟨c, hb, hg⟩ := whole (W := W) a b
  exact GoesK.calls (ps := []) (args := [.int .i64 a, .int .i64 b]) (args' := [.int .i64 a, .int .i64 b]) (K' := [(4, .bool true)]) (L' := []) (v := .bool true) (s' := ⟨hk G [], 0, none, []⟩) Try.func3 hb (Nat.le_of_ble_eq_true (by kernel_rfl)) (fun p hp => nomatch hp) (Nat.le_of_ble_eq_true (by kernel_rfl)) (.cons (.flat rfl) (.cons (.flat rfl) .nil)) hg (.inl rfl) (by kernel_rfl) rfl rfl
end RLaw
end Go.Proofs.Ytmnnnickodfibaa
