/- P11.1: a room that is full refuses what is new alone, and changes nothing; what is dropped makes room, at the least id: shapes. -/
import Derived.Test.YtmnnnickodfibaaBw
import Derived.Test.YtmnnnickodfibaaEvY
namespace Go.Proofs.Ytmnnnickodfibaa
open Go Go.Ev Go.RowKit
set_option maxRecDepth 100000
set_option linter.unusedVariables false
set_option linter.unusedSimpArgs false
namespace RLaw
noncomputable abbrev G : Nat := Try.prog.globals.size
noncomputable abbrev B : Code := bodyOf Try.f3
noncomputable abbrev NT : Nat := Try.f3.ntmps
noncomputable abbrev pc (p : List Nat) (m ks : List Nat) (L : List AObj) (K : List (Nat × Value)) : Option (AExit × List AObj × List (Nat × Value)) := pieceF Try.prog SR PTS 3 5000 G (nav p B) NT m ks L K
abbrev Gk (W : World) (p : List Nat) (L : List AObj) (K : List (Nat × Value)) (e : AExit) (L' : List AObj) (K' : List (Nat × Value)) : Prop := GoesK Try.prog W (nav p B) NT L K e L' K'
theorem gf {W : World} {p m ks : List Nat} {L L' : List AObj} {K K' : List (Nat × Value)} {e : AExit} (hok : okCode (nav p B) = true) (h : pc p m ks L K = some (e, L', K')) : Gk W p L K e L' K' :=
  pieceF_goes SR_ok PTS_ok good Try.func3 (show Try.f3.body = some B by kernel_rfl) hok h
def RD (p : List Nat) (m : List (Nat × Bool)) (ks : List Nat) (L : List AObj) (K : List (Nat × Value)) (π : List Ans) (e : AExit) (L' : List AObj) (K' : List (Nat × Value)) (cs : List Prop) : Prop :=
  pieceS Try.prog ER 3 5000 G (nav p B) NT m ks L K π = some (e, L', K', cs, [])
theorem an : ∀ p ∈ ([] : List Prop), p := fun _ h => nomatch h
theorem ac {a : Prop} {l : List Prop} (h : a) (hl : ∀ p ∈ l, p) : ∀ p ∈ a :: l, p := fun p hp => by
  rcases List.mem_cons.1 hp with rfl | hp
  · exact h
  · exact hl p hp
theorem gs {W : World} {p : List Nat} {m : List (Nat × Bool)} {ks : List Nat} {L L' : List AObj} {K K' : List (Nat × Value)} {π : List Ans} {e : AExit} {cs : List Prop} (hok : okCode (nav p B) = true) (h : RD p m ks L K π e L' K' cs) (hc : ∀ p ∈ cs, p) : Gk W p L K e L' K' :=
  pieceS_goes ER_sound good hok h hc an
abbrev nI (x : Int) : Value := .int .i64 x
def K0 (a b : Int) : List (Nat × Value) := [(0, nI a), (1, nI b)]
def inW (x lo hi v : Int) : Prop := nI (withinV x lo hi) = nI v
theorem okz : okCode (nav [0] B) = true := by kernel_rfl
theorem ok0 : okCode (nav [1, 0] B) = true := by kernel_rfl
theorem okr1 : okCode (nav [1, 1, 0] B) = true := by kernel_rfl
theorem okr2 : okCode (nav [1, 1, 1, 0] B) = true := by kernel_rfl
theorem okr3 : okCode (nav [1, 1, 1, 1, 0] B) = true := by kernel_rfl
theorem okr4 : okCode (nav [1, 1, 1, 1, 1, 0] B) = true := by kernel_rfl
theorem okr5 : okCode (nav [1, 1, 1, 1, 1, 1, 0] B) = true := by kernel_rfl
theorem okr6 : okCode (nav [1, 1, 1, 1, 1, 1, 1, 0] B) = true := by kernel_rfl
theorem okr7 : okCode (nav [1, 1, 1, 1, 1, 1, 1, 1, 0] B) = true := by kernel_rfl
theorem okr8 : okCode (nav [1, 1, 1, 1, 1, 1, 1, 1, 1] B) = true := by kernel_rfl
theorem shape : Try.f3.body = some (.seq (nav [0] B) (.seq (nav [1, 0] B) (.seq (nav [1, 1, 0] B) (.seq (nav [1, 1, 1, 0] B) (.seq (nav [1, 1, 1, 1, 0] B) (.seq (nav [1, 1, 1, 1, 1, 0] B) (.seq (nav [1, 1, 1, 1, 1, 1, 0] B) (.seq (nav [1, 1, 1, 1, 1, 1, 1, 0] B) (.seq (nav [1, 1, 1, 1, 1, 1, 1, 1, 0] B) (nav [1, 1, 1, 1, 1, 1, 1, 1, 1] B)))))))))) := by kernel_rfl
def Whole (W : World) (r : Int) : Prop := ∀ a b : Int, withinV a 0 20 = r - 1 → Goes Try.prog W (.seq (nav [0] B) (.seq (nav [1, 0] B) (.seq (nav [1, 1, 0] B) (.seq (nav [1, 1, 1, 0] B) (.seq (nav [1, 1, 1, 1, 0] B) (.seq (nav [1, 1, 1, 1, 1, 0] B) (.seq (nav [1, 1, 1, 1, 1, 1, 0] B) (.seq (nav [1, 1, 1, 1, 1, 1, 1, 0] B) (.seq (nav [1, 1, 1, 1, 1, 1, 1, 1, 0] B) (nav [1, 1, 1, 1, 1, 1, 1, 1, 1] B)))))))))) (hk G []) (tk NT (K0 a b)) .ret (hk G []) (tk NT [(4, .bool true)])
theorem z0 (a b : Int) : RD [0] [] [0, 1] [] (K0 a b) [] .normal [] (K0 a b) [] := by unfold RD; kernel_rfl
end RLaw
end Go.Proofs.Ytmnnnickodfibaa
