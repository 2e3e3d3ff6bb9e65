/- P8.1: chapter 8's runs, each length, and bytes that lack: the closed law, piece by piece. -/
import Derived.Test.YtddlejbcnjmfmaaRows
import Derived.Test.YtddlejbcnjmfmaaEvW
namespace Go.Proofs.Ytddlejbcnjmfmaa
open Go Go.Ev Go.RowKit
set_option maxRecDepth 100000
theorem goodN : Ev.Good Try.prog := ⟨by kernel_rfl, by kernel_rfl, by kernel_rfl⟩
namespace NlriN
noncomputable abbrev G : Nat := Try.prog.globals.size
noncomputable abbrev B : Code := bodyOf Try.f11
abbrev pX : List Nat := [1, 0, 1, 0, 0]
def K (n : Nat) : List (Nat × Value) := [(1, .int .i64 ((n : Int) - 1))]
noncomputable abbrev pc (p : List Nat) (m ks : List Nat) (L : List AObj) (K : List (Nat × Value)) : Option (AExit × List AObj × List (Nat × Value)) := piece Try.prog noEnv 11 5000 G (nav p B) 44 m ks L K
def XS (a k : Nat) : Prop := (List.range k).map (fun i => pc pX [] [1] [] (K (a + i))) = (List.range k).map fun i => some (.normal, [], K (a + i + 1))
theorem x0 : XS 0 4 := by unfold XS; kernel_rfl
theorem x4 : XS 4 4 := by unfold XS; kernel_rfl
theorem x8 : XS 8 4 := by unfold XS; kernel_rfl
theorem x12 : XS 12 4 := by unfold XS; kernel_rfl
theorem x16 : XS 16 4 := by unfold XS; kernel_rfl
theorem x20 : XS 20 4 := by unfold XS; kernel_rfl
theorem x24 : XS 24 4 := by unfold XS; kernel_rfl
theorem x28 : XS 28 4 := by unfold XS; kernel_rfl
theorem x32 : XS 32 4 := by unfold XS; kernel_rfl
theorem xx : pc (pX ++ [0]) [] [] [] (K 36) = some (.exit 0, [], []) := by kernel_rfl
theorem b0 : pc [0] [] [] [] [] = some (.normal, [], []) := by kernel_rfl
theorem b1 : pc [1, 0, 0] [] [1] [] [] = some (.normal, [], K 0) := by kernel_rfl
theorem b2 : pc [1, 1] [] [0] [] [] = some (.ret, [], [(0, .bool true)]) := by kernel_rfl
theorem shape : Try.f11.body = some (.seq (nav [0] B) (.seq (.seq (nav [1, 0, 0] B) (.block 0 (.loop (nav pX B)))) (nav [1, 1] B))) := by kernel_rfl
theorem shapeX : nav pX B = .seq (nav (pX ++ [0]) B) (nav (pX ++ [1]) B) := by kernel_rfl
section
variable {W : World}
abbrev Gs (W : World) (p : List Nat) (L : List AObj) (K : List (Nat × Value)) (e : AExit) (L' : List AObj) (K' : List (Nat × Value)) : Prop := Goes Try.prog W (nav p B) (hk G L) (tk 44 K) e (hk G L') (tk 44 K')
theorem gs {p m ks : List Nat} {L L' : List AObj} {K K' : List (Nat × Value)} {e : AExit} (hok : okCode (nav p B) = true) (h : pc p m ks L K = some (e, L', K')) : Gs W p L K e L' K' :=
  piece_goes noEnv_sound goodN hok h
theorem okX : okCode (nav pX B) = true := by kernel_rfl
theorem goX (n : Nat) (hn : n < 36) : Gs W pX [] (K n) .normal [] (K (n + 1)) := by
  have go : ∀ a k, XS a k → a ≤ n → n < a + k → Gs W pX [] (K n) .normal [] (K (n + 1)) := by
    intro a k h h1 h2
    have := map_range h (n - a) (by omega)
    rw [show a + (n - a) = n by omega] at this
    exact gs okX this
  by_cases h0 : n < 4
  · exact go 0 4 x0 (by omega) (by omega)
  by_cases h4 : n < 8
  · exact go 4 4 x4 (by omega) (by omega)
  by_cases h8 : n < 12
  · exact go 8 4 x8 (by omega) (by omega)
  by_cases h12 : n < 16
  · exact go 12 4 x12 (by omega) (by omega)
  by_cases h16 : n < 20
  · exact go 16 4 x16 (by omega) (by omega)
  by_cases h20 : n < 24
  · exact go 20 4 x20 (by omega) (by omega)
  by_cases h24 : n < 28
  · exact go 24 4 x24 (by omega) (by omega)
  by_cases h28 : n < 32
  · exact go 28 4 x28 (by omega) (by omega)
  by_cases h32 : n < 36
  · exact go 32 4 x32 (by omega) (by omega)
  omega
end
theorem walk (W : World) : Calls Try.prog 11 #[] W fun e W' => e = .returned (.bool true) ∧ Below W.heap.size W W' := by
  refine Goes.calls (H := hk G []) (t := tk 44 [(0, .bool true)]) (e := .ret) (s' := ⟨hk G [], 0, none, []⟩) Try.func11 shape (by show 44 ≤ 8190; omega) ?_ (.inl rfl) (by kernel_rfl) rfl rfl
  refine .seq (gs (by kernel_rfl) b0) (.seq (.seq (gs (by kernel_rfl) b1) (.blockExit (GoesL.loop (n := 1 + 36) ?_))) (gs (by kernel_rfl) b2))
  refine GoesL.many (SH := fun _ => hk G []) (ST := fun n => tk 44 (K n)) 36 0 (fun n hn => ?_) (.exit (n := 0) ?_)
  · simp only [Nat.zero_add]; exact goX n hn
  · show Goes Try.prog W (nav pX B) (hk G []) (tk 44 (K 36)) (.exit 0) (hk G []) (tk 44 [])
    rw [shapeX]
    exact .seqExit (gs (by kernel_rfl) xx)
end NlriN
end Go.Proofs.Ytddlejbcnjmfmaa
