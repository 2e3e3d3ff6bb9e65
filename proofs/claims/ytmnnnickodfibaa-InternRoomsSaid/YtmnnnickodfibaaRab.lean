/- P11.1: a room that is full refuses what is new alone, and changes nothing; what is dropped makes room, at the least id: ways. -/
import Derived.Test.YtmnnnickodfibaaRaa
namespace Go.Proofs.Ytmnnnickodfibaa
open Go Go.Ev Go.RowKit
set_option maxRecDepth 100000
set_option linter.unusedVariables false
set_option linter.unusedSimpArgs false
namespace RLaw
theorem pA0 (b : Int) : pc [1, 1, 0] [G + 0] [0, 1, 5, 6] LA0 (KA0 b) = some (.normal, LA1, (KA1 b)) := by kernel_rfl
theorem pA1 (b : Int) : pc [1, 1, 1, 0] [G + 0] [0, 1, 5] LA1 (KA1 b) = some (.normal, LA1, (KA2 b)) := by kernel_rfl
theorem pA2 (b : Int) : pc [1, 1, 1, 1, 0] [G + 0, G + 3, G + 5] [0, 1, 5] LA1 (KA2 b) = some (.normal, LA2, (KA2 b)) := by kernel_rfl
theorem pA3 (b : Int) : pc [1, 1, 1, 1, 1, 0] [G + 0, G + 1, G + 2] [0, 1, 5, 10, 11] LA2 (KA2 b) = some (.normal, LA2, (KA3 b)) := by kernel_rfl
theorem pA4 (b : Int) : pc [1, 1, 1, 1, 1, 1, 0] [G + 0, G + 1, G + 2] [0, 1, 5, 10, 11, 12, 13] LA2 (KA3 b) = some (.normal, LA3, (KA4 b)) := by kernel_rfl
theorem pA5 (b : Int) : pc [1, 1, 1, 1, 1, 1, 1, 0] [G + 0, G + 1, G + 2] [0, 1, 5] LA3 (KA4 b) = some (.normal, LA3, (KA2 b)) := by kernel_rfl
theorem pA6 : pc [1, 1, 1, 1, 1, 1, 1, 1, 1] [] [4] LA3 KA5 = some (.ret, LA0, KA6) := by kernel_rfl
theorem pA7 (b : Int) : pc [1, 1, 0] [G + 0] [0, 1, 5, 6] LA0 (KA7 b) = some (.normal, LA4, (KA8 b)) := by kernel_rfl
theorem pA8 (b : Int) : pc [1, 1, 1, 0] [G + 0] [0, 1, 5] LA4 (KA8 b) = some (.normal, LA4, (KA9 b)) := by kernel_rfl
theorem pA9 (b : Int) : pc [1, 1, 1, 1, 0] [G + 0, G + 8, G + 10] [0, 1, 5] LA4 (KA9 b) = some (.normal, LA5, (KA9 b)) := by kernel_rfl
theorem pA10 (b : Int) : pc [1, 1, 1, 1, 1, 0] [G + 0, G + 1, G + 2] [0, 1, 5, 10, 11] LA5 (KA9 b) = some (.normal, LA5, (KA10 b)) := by kernel_rfl
theorem pA11 (b : Int) : pc [1, 1, 1, 1, 1, 1, 0] [G + 0, G + 1, G + 2] [0, 1, 5, 10, 11, 12, 13] LA5 (KA10 b) = some (.normal, LA6, (KA11 b)) := by kernel_rfl
theorem pA12 (b : Int) : pc [1, 1, 1, 1, 1, 1, 1, 0] [G + 0, G + 1, G + 2] [0, 1, 5] LA6 (KA11 b) = some (.normal, LA6, (KA9 b)) := by kernel_rfl
theorem pA13 : pc [1, 1, 1, 1, 1, 1, 1, 1, 1] [] [4] LA6 KA12 = some (.ret, LA0, KA6) := by kernel_rfl
theorem pA14 : pc [1, 1, 1, 1, 1, 1, 1, 1, 1] [] [4] LA6 KA13 = some (.ret, LA0, KA6) := by kernel_rfl
theorem pA15 (b : Int) : pc [1, 1, 0] [G + 0] [0, 1, 5, 6] LA0 (KA14 b) = some (.normal, LA7, (KA15 b)) := by kernel_rfl
theorem pA16 (b : Int) : pc [1, 1, 1, 0] [G + 0] [0, 1, 5] LA7 (KA15 b) = some (.normal, LA7, (KA16 b)) := by kernel_rfl
theorem pA17 (b : Int) : pc [1, 1, 1, 1, 0] [G + 0, G + 13, G + 15] [0, 1, 5] LA7 (KA16 b) = some (.normal, LA8, (KA16 b)) := by kernel_rfl
theorem pA18 (b : Int) : pc [1, 1, 1, 1, 1, 0] [G + 0, G + 1, G + 2] [0, 1, 5, 10, 11] LA8 (KA16 b) = some (.normal, LA8, (KA17 b)) := by kernel_rfl
theorem pA19 (b : Int) : pc [1, 1, 1, 1, 1, 1, 0] [G + 0, G + 1, G + 2] [0, 1, 5, 10, 11, 12, 13] LA8 (KA17 b) = some (.normal, LA9, (KA18 b)) := by kernel_rfl
theorem pA20 (b : Int) : pc [1, 1, 1, 1, 1, 1, 1, 0] [G + 0, G + 1, G + 2] [0, 1, 5] LA9 (KA18 b) = some (.normal, LA9, (KA16 b)) := by kernel_rfl
theorem pA21 : pc [1, 1, 1, 1, 1, 1, 1, 1, 1] [] [4] LA9 KA19 = some (.ret, LA0, KA6) := by kernel_rfl
theorem pA22 : pc [1, 1, 1, 1, 1, 1, 1, 1, 1] [] [4] LA9 KA20 = some (.ret, LA0, KA6) := by kernel_rfl
theorem pA23 : pc [1, 1, 1, 1, 1, 1, 1, 1, 1] [] [4] LA9 KA21 = some (.ret, LA0, KA6) := by kernel_rfl
theorem pA24 (b : Int) : pc [1, 1, 0] [G + 0] [0, 1, 5, 6] LA0 (KA22 b) = some (.normal, LA10, (KA23 b)) := by kernel_rfl
theorem pA25 (b : Int) : pc [1, 1, 1, 0] [G + 0] [0, 1, 5] LA10 (KA23 b) = some (.normal, LA10, (KA24 b)) := by kernel_rfl
theorem pA26 (b : Int) : pc [1, 1, 1, 1, 0] [G + 0, G + 18, G + 20] [0, 1, 5] LA10 (KA24 b) = some (.normal, LA11, (KA24 b)) := by kernel_rfl
theorem pA27 (b : Int) : pc [1, 1, 1, 1, 1, 0] [G + 0, G + 1, G + 2] [0, 1, 5, 10, 11] LA11 (KA24 b) = some (.normal, LA11, (KA25 b)) := by kernel_rfl
theorem pA28 (b : Int) : pc [1, 1, 1, 1, 1, 1, 0] [G + 0, G + 1, G + 2] [0, 1, 5, 10, 11, 12, 13] LA11 (KA25 b) = some (.normal, LA12, (KA26 b)) := by kernel_rfl
theorem pA29 (b : Int) : pc [1, 1, 1, 1, 1, 1, 1, 0] [G + 0, G + 1, G + 2] [0, 1, 5] LA12 (KA26 b) = some (.normal, LA12, (KA24 b)) := by kernel_rfl
theorem pA30 : pc [1, 1, 1, 1, 1, 1, 1, 1, 1] [] [4] LA12 KA27 = some (.ret, LA0, KA6) := by kernel_rfl
theorem pA31 : pc [1, 1, 1, 1, 1, 1, 1, 1, 1] [] [4] LA12 KA28 = some (.ret, LA0, KA6) := by kernel_rfl
theorem pA32 : pc [1, 1, 1, 1, 1, 1, 1, 1, 1] [] [4] LA12 KA29 = some (.ret, LA0, KA6) := by kernel_rfl
theorem pA33 : pc [1, 1, 1, 1, 1, 1, 1, 1, 1] [] [4] LA12 KA30 = some (.ret, LA0, KA6) := by kernel_rfl
theorem pA34 (b : Int) : pc [1, 1, 0] [G + 0] [0, 1, 5, 6] LA0 (KA31 b) = some (.normal, LA13, (KA32 b)) := by kernel_rfl
theorem pA35 (b : Int) : pc [1, 1, 1, 0] [G + 0] [0, 1, 5] LA13 (KA32 b) = some (.normal, LA13, (KA33 b)) := by kernel_rfl
theorem pA36 (b : Int) : pc [1, 1, 1, 1, 0] [G + 0, G + 23, G + 25] [0, 1, 5] LA13 (KA33 b) = some (.normal, LA14, (KA33 b)) := by kernel_rfl
theorem pA37 (b : Int) : pc [1, 1, 1, 1, 1, 0] [G + 0, G + 1, G + 2] [0, 1, 5, 10, 11] LA14 (KA33 b) = some (.normal, LA14, (KA34 b)) := by kernel_rfl
theorem pA38 (b : Int) : pc [1, 1, 1, 1, 1, 1, 0] [G + 0, G + 1, G + 2] [0, 1, 5, 10, 11, 12, 13] LA14 (KA34 b) = some (.normal, LA15, (KA35 b)) := by kernel_rfl
theorem pA39 (b : Int) : pc [1, 1, 1, 1, 1, 1, 1, 0] [G + 0, G + 1, G + 2] [0, 1, 5] LA15 (KA35 b) = some (.normal, LA15, (KA33 b)) := by kernel_rfl
theorem pA40 : pc [1, 1, 1, 1, 1, 1, 1, 1, 1] [] [4] LA15 KA36 = some (.ret, LA0, KA6) := by kernel_rfl
theorem pA41 : pc [1, 1, 1, 1, 1, 1, 1, 1, 1] [] [4] LA15 KA37 = some (.ret, LA0, KA6) := by kernel_rfl
theorem pA42 : pc [1, 1, 1, 1, 1, 1, 1, 1, 1] [] [4] LA15 KA38 = some (.ret, LA0, KA6) := by kernel_rfl
theorem pA43 : pc [1, 1, 1, 1, 1, 1, 1, 1, 1] [] [4] LA15 KA39 = some (.ret, LA0, KA6) := by kernel_rfl
theorem pA44 : pc [1, 1, 1, 1, 1, 1, 1, 1, 1] [] [4] LA15 KA40 = some (.ret, LA0, KA6) := by kernel_rfl
theorem pA45 (b : Int) : pc [1, 1, 0] [G + 0] [0, 1, 5, 6] LA0 (KA41 b) = some (.normal, LA16, (KA42 b)) := by kernel_rfl
theorem pA46 (b : Int) : pc [1, 1, 1, 0] [G + 0] [0, 1, 5] LA16 (KA42 b) = some (.normal, LA16, (KA43 b)) := by kernel_rfl
theorem pA47 (b : Int) : pc [1, 1, 1, 1, 0] [G + 0, G + 28, G + 30] [0, 1, 5] LA16 (KA43 b) = some (.normal, LA17, (KA43 b)) := by kernel_rfl
theorem pA48 (b : Int) : pc [1, 1, 1, 1, 1, 0] [G + 0, G + 1, G + 2] [0, 1, 5, 10, 11] LA17 (KA43 b) = some (.normal, LA17, (KA44 b)) := by kernel_rfl
theorem pA49 (b : Int) : pc [1, 1, 1, 1, 1, 1, 0] [G + 0, G + 1, G + 2] [0, 1, 5, 10, 11, 12, 13] LA17 (KA44 b) = some (.normal, LA18, (KA45 b)) := by kernel_rfl
theorem pA50 (b : Int) : pc [1, 1, 1, 1, 1, 1, 1, 0] [G + 0, G + 1, G + 2] [0, 1, 5] LA18 (KA45 b) = some (.normal, LA18, (KA43 b)) := by kernel_rfl
theorem pA51 : pc [1, 1, 1, 1, 1, 1, 1, 1, 1] [] [4] LA18 KA46 = some (.ret, LA0, KA6) := by kernel_rfl
theorem pA52 : pc [1, 1, 1, 1, 1, 1, 1, 1, 1] [] [4] LA18 KA47 = some (.ret, LA0, KA6) := by kernel_rfl
theorem pA53 : pc [1, 1, 1, 1, 1, 1, 1, 1, 1] [] [4] LA18 KA48 = some (.ret, LA0, KA6) := by kernel_rfl
theorem pA54 : pc [1, 1, 1, 1, 1, 1, 1, 1, 1] [] [4] LA18 KA49 = some (.ret, LA0, KA6) := by kernel_rfl
theorem pA55 : pc [1, 1, 1, 1, 1, 1, 1, 1, 1] [] [4] LA18 KA50 = some (.ret, LA0, KA6) := by kernel_rfl
theorem pA56 : pc [1, 1, 1, 1, 1, 1, 1, 1, 1] [] [4] LA18 KA51 = some (.ret, LA0, KA6) := by kernel_rfl
theorem pA57 (b : Int) : pc [1, 1, 0] [G + 0] [0, 1, 5, 6] LA0 (KA52 b) = some (.normal, LA19, (KA53 b)) := by kernel_rfl
theorem pA58 (b : Int) : pc [1, 1, 1, 0] [G + 0] [0, 1, 5] LA19 (KA53 b) = some (.normal, LA19, (KA54 b)) := by kernel_rfl
theorem pA59 (b : Int) : pc [1, 1, 1, 1, 0] [G + 0, G + 33, G + 35] [0, 1, 5] LA19 (KA54 b) = some (.normal, LA20, (KA54 b)) := by kernel_rfl
theorem pA60 (b : Int) : pc [1, 1, 1, 1, 1, 0] [G + 0, G + 1, G + 2] [0, 1, 5, 10, 11] LA20 (KA54 b) = some (.normal, LA20, (KA55 b)) := by kernel_rfl
theorem pA61 (b : Int) : pc [1, 1, 1, 1, 1, 1, 0] [G + 0, G + 1, G + 2] [0, 1, 5, 10, 11, 12, 13] LA20 (KA55 b) = some (.normal, LA21, (KA56 b)) := by kernel_rfl
theorem pA62 (b : Int) : pc [1, 1, 1, 1, 1, 1, 1, 0] [G + 0, G + 1, G + 2] [0, 1, 5] LA21 (KA56 b) = some (.normal, LA21, (KA54 b)) := by kernel_rfl
theorem pA63 : pc [1, 1, 1, 1, 1, 1, 1, 1, 1] [] [4] LA21 KA57 = some (.ret, LA0, KA6) := by kernel_rfl
theorem pA64 : pc [1, 1, 1, 1, 1, 1, 1, 1, 1] [] [4] LA21 KA58 = some (.ret, LA0, KA6) := by kernel_rfl
theorem pA65 : pc [1, 1, 1, 1, 1, 1, 1, 1, 1] [] [4] LA21 KA59 = some (.ret, LA0, KA6) := by kernel_rfl
theorem pA66 : pc [1, 1, 1, 1, 1, 1, 1, 1, 1] [] [4] LA21 KA60 = some (.ret, LA0, KA6) := by kernel_rfl
theorem pA67 : pc [1, 1, 1, 1, 1, 1, 1, 1, 1] [] [4] LA21 KA61 = some (.ret, LA0, KA6) := by kernel_rfl
theorem pA68 : pc [1, 1, 1, 1, 1, 1, 1, 1, 1] [] [4] LA21 KA62 = some (.ret, LA0, KA6) := by kernel_rfl
theorem pA69 : pc [1, 1, 1, 1, 1, 1, 1, 1, 1] [] [4] LA21 KA63 = some (.ret, LA0, KA6) := by kernel_rfl
theorem pA70 (b : Int) : pc [1, 1, 0] [G + 0] [0, 1, 5, 6] LA0 (KA64 b) = some (.normal, LA22, (KA65 b)) := by kernel_rfl
theorem pA71 (b : Int) : pc [1, 1, 1, 0] [G + 0] [0, 1, 5] LA22 (KA65 b) = some (.normal, LA22, (KA66 b)) := by kernel_rfl
theorem pA72 (b : Int) : pc [1, 1, 1, 1, 0] [G + 0, G + 38, G + 40] [0, 1, 5] LA22 (KA66 b) = some (.normal, LA23, (KA66 b)) := by kernel_rfl
theorem pA73 (b : Int) : pc [1, 1, 1, 1, 1, 0] [G + 0, G + 1, G + 2] [0, 1, 5, 10, 11] LA23 (KA66 b) = some (.normal, LA23, (KA67 b)) := by kernel_rfl
theorem pA74 (b : Int) : pc [1, 1, 1, 1, 1, 1, 0] [G + 0, G + 1, G + 2] [0, 1, 5, 10, 11, 12, 13] LA23 (KA67 b) = some (.normal, LA24, (KA68 b)) := by kernel_rfl
theorem pA75 (b : Int) : pc [1, 1, 1, 1, 1, 1, 1, 0] [G + 0, G + 1, G + 2] [0, 1, 5] LA24 (KA68 b) = some (.normal, LA24, (KA66 b)) := by kernel_rfl
theorem pA76 : pc [1, 1, 1, 1, 1, 1, 1, 1, 1] [] [4] LA24 KA69 = some (.ret, LA0, KA6) := by kernel_rfl
theorem pA77 : pc [1, 1, 1, 1, 1, 1, 1, 1, 1] [] [4] LA24 KA70 = some (.ret, LA0, KA6) := by kernel_rfl
theorem pA78 : pc [1, 1, 1, 1, 1, 1, 1, 1, 1] [] [4] LA24 KA71 = some (.ret, LA0, KA6) := by kernel_rfl
theorem pA79 : pc [1, 1, 1, 1, 1, 1, 1, 1, 1] [] [4] LA24 KA72 = some (.ret, LA0, KA6) := by kernel_rfl
theorem pA80 : pc [1, 1, 1, 1, 1, 1, 1, 1, 1] [] [4] LA24 KA73 = some (.ret, LA0, KA6) := by kernel_rfl
theorem pA81 : pc [1, 1, 1, 1, 1, 1, 1, 1, 1] [] [4] LA24 KA74 = some (.ret, LA0, KA6) := by kernel_rfl
theorem pA82 : pc [1, 1, 1, 1, 1, 1, 1, 1, 1] [] [4] LA24 KA75 = some (.ret, LA0, KA6) := by kernel_rfl
theorem pA83 : pc [1, 1, 1, 1, 1, 1, 1, 1, 1] [] [4] LA24 KA76 = some (.ret, LA0, KA6) := by kernel_rfl
theorem pA84 (b : Int) : pc [1, 1, 0] [G + 0] [0, 1, 5, 6] LA0 (KA77 b) = some (.normal, LA25, (KA78 b)) := by kernel_rfl
theorem pA85 (b : Int) : pc [1, 1, 1, 0] [G + 0] [0, 1, 5] LA25 (KA78 b) = some (.normal, LA25, (KA79 b)) := by kernel_rfl
theorem pA86 (b : Int) : pc [1, 1, 1, 1, 0] [G + 0, G + 43, G + 45] [0, 1, 5] LA25 (KA79 b) = some (.normal, LA26, (KA79 b)) := by kernel_rfl
theorem pA87 (b : Int) : pc [1, 1, 1, 1, 1, 0] [G + 0, G + 1, G + 2] [0, 1, 5, 10, 11] LA26 (KA79 b) = some (.normal, LA26, (KA80 b)) := by kernel_rfl
theorem pA88 (b : Int) : pc [1, 1, 1, 1, 1, 1, 0] [G + 0, G + 1, G + 2] [0, 1, 5, 10, 11, 12, 13] LA26 (KA80 b) = some (.normal, LA27, (KA81 b)) := by kernel_rfl
theorem pA89 (b : Int) : pc [1, 1, 1, 1, 1, 1, 1, 0] [G + 0, G + 1, G + 2] [0, 1, 5] LA27 (KA81 b) = some (.normal, LA27, (KA79 b)) := by kernel_rfl
theorem pA90 : pc [1, 1, 1, 1, 1, 1, 1, 1, 1] [] [4] LA27 KA82 = some (.ret, LA0, KA6) := by kernel_rfl
theorem pA91 : pc [1, 1, 1, 1, 1, 1, 1, 1, 1] [] [4] LA27 KA83 = some (.ret, LA0, KA6) := by kernel_rfl
theorem pA92 : pc [1, 1, 1, 1, 1, 1, 1, 1, 1] [] [4] LA27 KA84 = some (.ret, LA0, KA6) := by kernel_rfl
theorem pA93 : pc [1, 1, 1, 1, 1, 1, 1, 1, 1] [] [4] LA27 KA85 = some (.ret, LA0, KA6) := by kernel_rfl
theorem pA94 : pc [1, 1, 1, 1, 1, 1, 1, 1, 1] [] [4] LA27 KA86 = some (.ret, LA0, KA6) := by kernel_rfl
theorem pA95 : pc [1, 1, 1, 1, 1, 1, 1, 1, 1] [] [4] LA27 KA87 = some (.ret, LA0, KA6) := by kernel_rfl
theorem pA96 : pc [1, 1, 1, 1, 1, 1, 1, 1, 1] [] [4] LA27 KA88 = some (.ret, LA0, KA6) := by kernel_rfl
theorem pA97 : pc [1, 1, 1, 1, 1, 1, 1, 1, 1] [] [4] LA27 KA89 = some (.ret, LA0, KA6) := by kernel_rfl
theorem pA98 : pc [1, 1, 1, 1, 1, 1, 1, 1, 1] [] [4] LA27 KA90 = some (.ret, LA0, KA6) := by kernel_rfl
theorem pA99 (b : Int) : pc [1, 1, 0] [G + 0] [0, 1, 5, 6] LA0 (KA91 b) = some (.normal, LA28, (KA92 b)) := by kernel_rfl
theorem pA100 (b : Int) : pc [1, 1, 1, 0] [G + 0] [0, 1, 5] LA28 (KA92 b) = some (.normal, LA28, (KA93 b)) := by kernel_rfl
end RLaw
end Go.Proofs.Ytmnnnickodfibaa
