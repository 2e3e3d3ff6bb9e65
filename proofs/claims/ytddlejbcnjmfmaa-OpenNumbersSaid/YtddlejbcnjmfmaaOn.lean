/- P10.1: chapter 10's runs, each bound, and one for each Note: the closed law, piece by piece. -/
import Derived.Test.YtddlejbcnjmfmaaRs
import Derived.Test.YtddlejbcnjmfmaaEvW
namespace Go.Proofs.Ytddlejbcnjmfmaa
open Go Go.Ev Go.RowKit
set_option maxRecDepth 100000
namespace OpenN
noncomputable abbrev G : Nat := Try.prog.globals.size
noncomputable abbrev B : Code := bodyOf Try.f14
abbrev NT : Nat := 105
noncomputable def E : Env := rowEnv (pureEnv [(50, OpenRead.sameG)]) 52 .u8 60 (.bool true)
theorem E_sound : E.Sound Try.prog := rowEnv_sound (pureEnv_sound (P := Try.prog) (l := [(50, OpenRead.sameG)]) ⟨OpenRead.same_sum, trivial⟩) OpenRead.read_sum
abbrev pX : List Nat := [1, 0, 1, 0, 0]
abbrev pX2 : List Nat := [1, 1, 1, 0, 1, 0, 0]
def i64 (n : Nat) : Value := .int .i64 (n : Int)
def row8 : AObj := { cells := #[.int .i64 (-1), .int .i64 0, .int .i64 1, .int .i64 2, .int .i64 3, .int .i64 4, .int .i64 65535, .int .i64 65536], esz := 1, st := 1, prev := [] }
def good10 : AObj := { cells := #[.int .u8 4, .int .u8 0, .int .u8 1, .int .u8 0, .int .u8 3, .int .u8 0, .int .u8 0, .int .u8 0, .int .u8 1, .int .u8 0], esz := 1, st := 1, prev := [] }
noncomputable def KX (j : Nat) : List (Nat × Value) := [(13, .slice (some ⟨G, 0, none⟩) 8 0), (14, .int .i64 8), (15, i64 j)]
noncomputable def K3 : List (Nat × Value) := [(3, .slice (some ⟨G, 0, none⟩) 10 0)]
noncomputable def K4 (n : Nat) : List (Nat × Value) := [(3, .slice (some ⟨G, 0, none⟩) 10 0), (4, i64 n)]
noncomputable abbrev pc (p : List Nat) (m ks : List Nat) (L : List AObj) (K : List (Nat × Value)) : Option (AExit × List AObj × List (Nat × Value)) := piece Try.prog E 14 5000 G (nav p B) NT m ks L K
theorem x : (List.range 8).map (fun j => pc pX [G] [13, 14, 15] [row8] (KX j)) = (List.range 8).map fun j => some (.normal, [row8], KX (j + 1)) := by kernel_rfl
theorem xx : pc pX [] [] [row8] (KX 8) = some (.exit 0, [], []) := by kernel_rfl
theorem y0 : pc pX2 [G] [3, 4] [good10] (K4 0) = some (.normal, [good10], K4 1) := by kernel_rfl
theorem y1 : pc pX2 [G] [3, 4] [good10] (K4 1) = some (.normal, [good10], K4 2) := by kernel_rfl
theorem y2 : pc pX2 [G] [3, 4] [good10] (K4 2) = some (.normal, [good10], K4 3) := by kernel_rfl
theorem y3 : pc pX2 [G] [3, 4] [good10] (K4 3) = some (.normal, [good10], K4 4) := by kernel_rfl
theorem y4 : pc pX2 [G] [3, 4] [good10] (K4 4) = some (.normal, [good10], K4 5) := by kernel_rfl
theorem y5 : pc pX2 [G] [3, 4] [good10] (K4 5) = some (.normal, [good10], K4 6) := by kernel_rfl
theorem y6 : pc pX2 [G] [3, 4] [good10] (K4 6) = some (.normal, [good10], K4 7) := by kernel_rfl
theorem y7 : pc pX2 [G] [3, 4] [good10] (K4 7) = some (.normal, [good10], K4 8) := by kernel_rfl
theorem y8 : pc pX2 [G] [3, 4] [good10] (K4 8) = some (.normal, [good10], K4 9) := by kernel_rfl
theorem y9 : pc pX2 [G] [3, 4] [good10] (K4 9) = some (.normal, [good10], K4 10) := by kernel_rfl
theorem yx : pc pX2 [] [] [good10] (K4 10) = some (.exit 2, [], []) := by kernel_rfl
theorem b0 : pc [0] [] [] [] [] = some (.normal, [], []) := by kernel_rfl
theorem b1 : pc [1, 0, 0] [G] [13, 14, 15] [] [] = some (.normal, [row8], KX 0) := by kernel_rfl
theorem b2 : pc [1, 1, 0] [G + 15] [3] [] [] = some (.normal, [good10], K3) := by kernel_rfl
theorem b3 : pc [1, 1, 1, 0, 0] [G] [3, 4] [good10] K3 = some (.normal, [good10], K4 0) := by kernel_rfl
theorem b4 : pc [1, 1, 1, 1] [] [0] [] [] = some (.ret, [], [(0, .bool true)]) := by kernel_rfl
theorem shape : Try.f14.body = some (.seq (nav [0] B) (.seq (.seq (nav [1, 0, 0] B) (.block 0 (.loop (nav pX B)))) (.seq (nav [1, 1, 0] B) (.seq (.seq (nav [1, 1, 1, 0, 0] B) (.block 2 (.loop (nav pX2 B)))) (nav [1, 1, 1, 1] B))))) := by kernel_rfl
section
variable {W : World}
abbrev Gs (W : World) (p : List Nat) (L : List AObj) (K : List (Nat × Value)) (e : AExit) (L' : List AObj) (K' : List (Nat × Value)) : Prop := Goes Try.prog W (nav p B) (hk G L) (tk NT K) e (hk G L') (tk NT K')
theorem gs {p m ks : List Nat} {L L' : List AObj} {K K' : List (Nat × Value)} {e : AExit} (hok : okCode (nav p B) = true) (h : pc p m ks L K = some (e, L', K')) : Gs W p L K e L' K' :=
  piece_goes E_sound good hok h
theorem okX : okCode (nav pX B) = true := by kernel_rfl
theorem okX2 : okCode (nav pX2 B) = true := by kernel_rfl
theorem goX2 (n : Nat) (hn : n < 10) : Gs W pX2 [good10] (K4 n) .normal [good10] (K4 (n + 1)) := by
  obtain h | h | h | h | h | h | h | h | h | h : n = 0 ∨ n = 1 ∨ n = 2 ∨ n = 3 ∨ n = 4 ∨ n = 5 ∨ n = 6 ∨ n = 7 ∨ n = 8 ∨ n = 9 := by omega
  all_goals subst h
  · exact gs okX2 y0
  · exact gs okX2 y1
  · exact gs okX2 y2
  · exact gs okX2 y3
  · exact gs okX2 y4
  · exact gs okX2 y5
  · exact gs okX2 y6
  · exact gs okX2 y7
  · exact gs okX2 y8
  · exact gs okX2 y9
end
theorem walk (W : World) : Calls Try.prog 14 #[] W fun e W' => e = .returned (.bool true) ∧ Below W.heap.size W W' := by
  refine Goes.calls (H := hk G []) (t := tk NT [(0, .bool true)]) (e := .ret) (s' := ⟨hk G [], 0, none, []⟩) Try.func14 shape (by show NT ≤ 8190; decide) ?_ (.inl rfl) (by kernel_rfl) rfl rfl
  refine .seq (gs (by kernel_rfl) b0) (.seq (.seq (gs (by kernel_rfl) b1) (.blockExit (GoesL.loop (n := 1 + 8) ?_))) (.seq (gs (by kernel_rfl) b2) (.seq (.seq (gs (by kernel_rfl) b3) (.blockExit (GoesL.loop (n := 1 + 10) ?_))) (gs (by kernel_rfl) b4))))
  · refine GoesL.many (SH := fun _ => hk G [row8]) (ST := fun n => tk NT (KX n)) 8 0 (fun n hn => ?_) (.exit (n := 0) ?_)
    · simp only [Nat.zero_add]; exact gs okX (map_range x n hn)
    · exact gs okX xx
  · refine GoesL.many (SH := fun _ => hk G [good10]) (ST := fun n => tk NT (K4 n)) 10 0 (fun n hn => ?_) (.exit (n := 0) ?_)
    · simp only [Nat.zero_add]; exact goX2 n hn
    · exact gs okX2 yx
end OpenN
end Go.Proofs.Ytddlejbcnjmfmaa
