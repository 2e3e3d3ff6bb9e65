/- P11.1: a room that is full refuses what is new alone, and changes nothing; what is dropped makes room, at the least id: ways. -/
import Derived.Test.YtmnnnickodfibaaRca
namespace Go.Proofs.Ytmnnnickodfibaa
open Go Go.Ev Go.RowKit
set_option maxRecDepth 100000
set_option linter.unusedVariables false
set_option linter.unusedSimpArgs false
namespace RLaw
theorem pC48 : pc [1, 1, 1, 1, 1, 1, 1, 1, 1] [] [4] LC6 KC47 = some (.ret, LC0, KC6) := by kernel_rfl
theorem pC49 (b : Int) : pc [1, 1, 0] [G + 0] [0, 1, 5, 6] LC0 (KC48 b) = some (.normal, LC7, (KC49 b)) := by kernel_rfl
theorem pC50 (b : Int) : pc [1, 1, 1, 0] [G + 0] [0, 1, 5] LC7 (KC49 b) = some (.normal, LC7, (KC50 b)) := by kernel_rfl
theorem pC51 (b : Int) : pc [1, 1, 1, 1, 0] [G + 0, G + 98, G + 100] [0, 1, 5] LC7 (KC50 b) = some (.normal, LC8, (KC50 b)) := by kernel_rfl
theorem pC52 (b : Int) : pc [1, 1, 1, 1, 1, 0] [G + 0, G + 1, G + 2] [0, 1, 5, 10, 11] LC8 (KC50 b) = some (.normal, LC8, (KC51 b)) := by kernel_rfl
theorem pC53 (b : Int) : pc [1, 1, 1, 1, 1, 1, 0] [G + 0, G + 1, G + 2] [0, 1, 5, 10, 11, 12, 13] LC8 (KC51 b) = some (.normal, LC9, (KC52 b)) := by kernel_rfl
theorem pC54 (b : Int) : pc [1, 1, 1, 1, 1, 1, 1, 0] [G + 0, G + 1, G + 2] [0, 1, 5] LC9 (KC52 b) = some (.normal, LC9, (KC50 b)) := by kernel_rfl
theorem pC55 : pc [1, 1, 1, 1, 1, 1, 1, 1, 1] [] [4] LC9 KC53 = some (.ret, LC0, KC6) := by kernel_rfl
theorem pC56 : pc [1, 1, 1, 1, 1, 1, 1, 1, 1] [] [4] LC9 KC54 = some (.ret, LC0, KC6) := by kernel_rfl
theorem pC57 : pc [1, 1, 1, 1, 1, 1, 1, 1, 1] [] [4] LC9 KC55 = some (.ret, LC0, KC6) := by kernel_rfl
theorem pC58 : pc [1, 1, 1, 1, 1, 1, 1, 1, 1] [] [4] LC9 KC56 = some (.ret, LC0, KC6) := by kernel_rfl
theorem pC59 : pc [1, 1, 1, 1, 1, 1, 1, 1, 1] [] [4] LC9 KC57 = some (.ret, LC0, KC6) := by kernel_rfl
theorem pC60 : pc [1, 1, 1, 1, 1, 1, 1, 1, 1] [] [4] LC9 KC58 = some (.ret, LC0, KC6) := by kernel_rfl
theorem pC61 : pc [1, 1, 1, 1, 1, 1, 1, 1, 1] [] [4] LC9 KC59 = some (.ret, LC0, KC6) := by kernel_rfl
theorem pC62 : pc [1, 1, 1, 1, 1, 1, 1, 1, 1] [] [4] LC9 KC60 = some (.ret, LC0, KC6) := by kernel_rfl
theorem pC63 : pc [1, 1, 1, 1, 1, 1, 1, 1, 1] [] [4] LC9 KC61 = some (.ret, LC0, KC6) := by kernel_rfl
theorem pC64 : pc [1, 1, 1, 1, 1, 1, 1, 1, 1] [] [4] LC9 KC62 = some (.ret, LC0, KC6) := by kernel_rfl
theorem pC65 : pc [1, 1, 1, 1, 1, 1, 1, 1, 1] [] [4] LC9 KC63 = some (.ret, LC0, KC6) := by kernel_rfl
theorem pC66 : pc [1, 1, 1, 1, 1, 1, 1, 1, 1] [] [4] LC9 KC64 = some (.ret, LC0, KC6) := by kernel_rfl
theorem pC67 : pc [1, 1, 1, 1, 1, 1, 1, 1, 1] [] [4] LC9 KC65 = some (.ret, LC0, KC6) := by kernel_rfl
theorem pC68 : pc [1, 1, 1, 1, 1, 1, 1, 1, 1] [] [4] LC9 KC66 = some (.ret, LC0, KC6) := by kernel_rfl
theorem pC69 : pc [1, 1, 1, 1, 1, 1, 1, 1, 1] [] [4] LC9 KC67 = some (.ret, LC0, KC6) := by kernel_rfl
theorem pC70 : pc [1, 1, 1, 1, 1, 1, 1, 1, 1] [] [4] LC9 KC68 = some (.ret, LC0, KC6) := by kernel_rfl
theorem pC71 : pc [1, 1, 1, 1, 1, 1, 1, 1, 1] [] [4] LC9 KC69 = some (.ret, LC0, KC6) := by kernel_rfl
theorem pC72 : pc [1, 1, 1, 1, 1, 1, 1, 1, 1] [] [4] LC9 KC70 = some (.ret, LC0, KC6) := by kernel_rfl
theorem pC73 : pc [1, 1, 1, 1, 1, 1, 1, 1, 1] [] [4] LC9 KC71 = some (.ret, LC0, KC6) := by kernel_rfl
theorem pC74 : pc [1, 1, 1, 1, 1, 1, 1, 1, 1] [] [4] LC9 KC72 = some (.ret, LC0, KC6) := by kernel_rfl
theorem pC75 (b : Int) : pc [1, 1, 0] [G + 0] [0, 1, 5, 6] LC0 (KC73 b) = some (.normal, LC10, (KC74 b)) := by kernel_rfl
theorem pC76 (b : Int) : pc [1, 1, 1, 0] [G + 0] [0, 1, 5] LC10 (KC74 b) = some (.normal, LC10, (KC75 b)) := by kernel_rfl
theorem pC77 (b : Int) : pc [1, 1, 1, 1, 0] [G + 0, G + 103, G + 105] [0, 1, 5] LC10 (KC75 b) = some (.normal, LC11, (KC75 b)) := by kernel_rfl
theorem pC78 (b : Int) : pc [1, 1, 1, 1, 1, 0] [G + 0, G + 1, G + 2] [0, 1, 5, 10, 11] LC11 (KC75 b) = some (.normal, LC11, (KC76 b)) := by kernel_rfl
theorem pC79 (b : Int) : pc [1, 1, 1, 1, 1, 1, 0] [G + 0, G + 1, G + 2] [0, 1, 5, 10, 11, 12, 13] LC11 (KC76 b) = some (.normal, LC12, (KC77 b)) := by kernel_rfl
theorem pC80 (b : Int) : pc [1, 1, 1, 1, 1, 1, 1, 0] [G + 0, G + 1, G + 2] [0, 1, 5] LC12 (KC77 b) = some (.normal, LC12, (KC75 b)) := by kernel_rfl
theorem pC81 : pc [1, 1, 1, 1, 1, 1, 1, 1, 1] [] [4] LC12 KC78 = some (.ret, LC0, KC6) := by kernel_rfl
theorem pC82 : pc [1, 1, 1, 1, 1, 1, 1, 1, 1] [] [4] LC12 KC79 = some (.ret, LC0, KC6) := by kernel_rfl
theorem pC83 : pc [1, 1, 1, 1, 1, 1, 1, 1, 1] [] [4] LC12 KC80 = some (.ret, LC0, KC6) := by kernel_rfl
theorem pC84 : pc [1, 1, 1, 1, 1, 1, 1, 1, 1] [] [4] LC12 KC81 = some (.ret, LC0, KC6) := by kernel_rfl
theorem pC85 : pc [1, 1, 1, 1, 1, 1, 1, 1, 1] [] [4] LC12 KC82 = some (.ret, LC0, KC6) := by kernel_rfl
theorem pC86 : pc [1, 1, 1, 1, 1, 1, 1, 1, 1] [] [4] LC12 KC83 = some (.ret, LC0, KC6) := by kernel_rfl
theorem pC87 : pc [1, 1, 1, 1, 1, 1, 1, 1, 1] [] [4] LC12 KC84 = some (.ret, LC0, KC6) := by kernel_rfl
theorem pC88 : pc [1, 1, 1, 1, 1, 1, 1, 1, 1] [] [4] LC12 KC85 = some (.ret, LC0, KC6) := by kernel_rfl
theorem pC89 : pc [1, 1, 1, 1, 1, 1, 1, 1, 1] [] [4] LC12 KC86 = some (.ret, LC0, KC6) := by kernel_rfl
theorem pC90 : pc [1, 1, 1, 1, 1, 1, 1, 1, 1] [] [4] LC12 KC87 = some (.ret, LC0, KC6) := by kernel_rfl
theorem pC91 : pc [1, 1, 1, 1, 1, 1, 1, 1, 1] [] [4] LC12 KC88 = some (.ret, LC0, KC6) := by kernel_rfl
end RLaw
end Go.Proofs.Ytmnnnickodfibaa
