/- A BODY IN PIECES, more rules: a test, a block that is left farther, a scope; pieces by name. -/
import Derived.Test.YtmnnnickodfibaaEvW
namespace Go.Ev
open Go.RowKit
variable {P : Program}
section
variable {W0 : World} {c d : Code} {H H1 H2 : Array AObj} {t t1 t2 : Tr} {e : AExit} {id id' n : Nat} {x : Operand}
theorem Goes.of (h : c = d) (g : Goes P W0 d H t e H1 t1) : Goes P W0 c H t e H1 t1 := h ▸ g
theorem Goes.condT (h : opnd P t x = some (.bool true)) (g : Goes P W0 c H t e H1 t1) : Goes P W0 (.cond x c d) H t e H1 t1 := by
  intro a w Q hat hQ
  obtain ⟨ρ, hr, ht⟩ := hat.rel
  have := (opnd_rel h ht hr.glob).eq_of_flat rfl
  exact wp_cond_true this (g a w Q hat hQ)
theorem Goes.condF (h : opnd P t x = some (.bool false)) (g : Goes P W0 d H t e H1 t1) : Goes P W0 (.cond x c d) H t e H1 t1 := by
  intro a w Q hat hQ
  obtain ⟨ρ, hr, ht⟩ := hat.rel
  have := (opnd_rel h ht hr.glob).eq_of_flat rfl
  exact wp_cond_false this (g a w Q hat hQ)
theorem Goes.skip : Goes P W0 .skip H t .normal H t := fun _ _ _ hat hQ => wp_skip (hQ _ _ hat)
theorem Goes.exit : Goes P W0 (.exit id) H t (.exit id) H t := fun _ _ _ hat hQ => wp_exit (hQ _ _ hat)
theorem Goes.blockPass (hne : id' ≠ id) (h : Goes P W0 c H t (.exit id') H1 t1) : Goes P W0 (.block id c) H t (.exit id') H1 t1 :=
  fun a w Q hat hQ => wp_block (h a w _ hat fun a' w' hat' => by
    simp only [AExit.toExit, Exit.inBlock, if_neg hne]
    exact hQ a' w' hat')
end
/-- What the code of a place does, from one small heap to the other. -/
abbrev GoesK (P : Program) (W : World) (c : Code) (n : Nat) (L : List AObj) (K : List (Nat × Value)) (e : AExit) (L' : List AObj) (K' : List (Nat × Value)) : Prop :=
  Goes P W c (hk P.globals.size L) (tk n K) e (hk P.globals.size L') (tk n K')
end Go.Ev
