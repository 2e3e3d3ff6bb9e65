/- P5.1: chapter 5's runs, each kind at each length, and marks that are turned: the closed law, piece by piece. -/
import Derived.Test.YtddlejbcnjmfmaaSs
import Derived.Test.YtddlejbcnjmfmaaEvW
namespace Go.Proofs.Ytddlejbcnjmfmaa
open Go Go.Ev Go.RowKit
set_option maxRecDepth 100000
namespace FrameN
noncomputable abbrev G : Nat := Try.prog.globals.size
noncomputable abbrev B : Code := bodyOf Try.f7
abbrev NT : Nat := 115
noncomputable def E : Env := rowEnv noEnv 35 .u8 1000000 (.bool true)
theorem E_sound : E.Sound Try.prog := rowEnv_sound noEnv_sound Split.split_sum
abbrev pX : List Nat := [1, 0, 1, 0, 0]
abbrev pY : List Nat := pX ++ [1, 0, 0, 1, 0, 0]
abbrev pX2 : List Nat := [1, 1, 1, 0, 1, 0, 0]
abbrev pY2 : List Nat := pX2 ++ [1, 0, 0, 1, 0, 0]
def i64 (n : Nat) : Value := .int .i64 (n : Int)
def row11 : AObj := { cells := #[.int .i64 0, .int .i64 1, .int .i64 2, .int .i64 3, .int .i64 4, .int .i64 9, .int .i64 10, .int .i64 11, .int .i64 4076, .int .i64 4077, .int .i64 4078], esz := 1, st := 1, prev := [] }
def row8 : AObj := { cells := #[.int .u8 0, .int .u8 1, .int .u8 5, .int .u8 16, .int .u8 18, .int .u8 19, .int .u8 20, .int .u8 255], esz := 1, st := 1, prev := [] }
def whole : AObj := { cells := #[.int .u8 255, .int .u8 255, .int .u8 255, .int .u8 255, .int .u8 255, .int .u8 255, .int .u8 255, .int .u8 255, .int .u8 255, .int .u8 255, .int .u8 255, .int .u8 255, .int .u8 255, .int .u8 255, .int .u8 255, .int .u8 255, .int .u8 0, .int .u8 19, .int .u8 4], esz := 1, st := 1, prev := [] }
def K1 (n : Nat) : List (Nat × Value) := [(1, .int .i64 ((n : Int) - 1))]
noncomputable def KY (n j : Nat) : List (Nat × Value) := [(1, .int .i64 ((n : Int) - 1)), (18, .slice (some ⟨G, 0, none⟩) 11 0), (19, .int .i64 11), (20, i64 j)]
noncomputable def K8 : List (Nat × Value) := [(8, .slice (some ⟨G, 0, none⟩) 19 0)]
noncomputable def K2 (n : Nat) : List (Nat × Value) := [(8, .slice (some ⟨G, 0, none⟩) 19 0), (10, i64 n)]
noncomputable def KY2 (n j : Nat) : List (Nat × Value) := [(8, .slice (some ⟨G, 0, none⟩) 19 0), (10, i64 n), (83, .slice (some ⟨G + 1, 0, none⟩) 8 0), (84, .int .i64 8), (85, i64 j)]
noncomputable abbrev pc (p : List Nat) (m ks : List Nat) (L : List AObj) (K : List (Nat × Value)) : Option (AExit × List AObj × List (Nat × Value)) := piece Try.prog E 7 5000 G (nav p B) NT m ks L K
def YS (n a k : Nat) : Prop := (List.range k).map (fun j => pc pY [G] [1, 18, 19, 20] [row11] (KY n (a + j))) = (List.range k).map fun j => some (.normal, [row11], KY n (a + j + 1))
def ZS (n : Nat) : Prop := (List.range 8).map (fun j => pc pY2 [G, G + 1] [8, 10, 83, 84, 85] [whole, row8] (KY2 n j)) = (List.range 8).map fun j => some (.normal, [whole, row8], KY2 n (j + 1))
theorem y0 : YS 0 0 8 := by unfold YS; kernel_rfl
theorem y0_8 : YS 0 8 1 := by unfold YS; kernel_rfl
theorem y0_9 : YS 0 9 1 := by unfold YS; kernel_rfl
theorem y0_10 : YS 0 10 1 := by unfold YS; kernel_rfl
theorem y1 : YS 1 0 8 := by unfold YS; kernel_rfl
theorem y1_8 : YS 1 8 1 := by unfold YS; kernel_rfl
theorem y1_9 : YS 1 9 1 := by unfold YS; kernel_rfl
theorem y1_10 : YS 1 10 1 := by unfold YS; kernel_rfl
theorem y2 : YS 2 0 8 := by unfold YS; kernel_rfl
theorem y2_8 : YS 2 8 1 := by unfold YS; kernel_rfl
theorem y2_9 : YS 2 9 1 := by unfold YS; kernel_rfl
theorem y2_10 : YS 2 10 1 := by unfold YS; kernel_rfl
theorem y3 : YS 3 0 8 := by unfold YS; kernel_rfl
theorem y3_8 : YS 3 8 1 := by unfold YS; kernel_rfl
theorem y3_9 : YS 3 9 1 := by unfold YS; kernel_rfl
theorem y3_10 : YS 3 10 1 := by unfold YS; kernel_rfl
theorem y4 : YS 4 0 8 := by unfold YS; kernel_rfl
theorem y4_8 : YS 4 8 1 := by unfold YS; kernel_rfl
theorem y4_9 : YS 4 9 1 := by unfold YS; kernel_rfl
theorem y4_10 : YS 4 10 1 := by unfold YS; kernel_rfl
theorem y5 : YS 5 0 8 := by unfold YS; kernel_rfl
theorem y5_8 : YS 5 8 1 := by unfold YS; kernel_rfl
theorem y5_9 : YS 5 9 1 := by unfold YS; kernel_rfl
theorem y5_10 : YS 5 10 1 := by unfold YS; kernel_rfl
theorem y6 : YS 6 0 8 := by unfold YS; kernel_rfl
theorem y6_8 : YS 6 8 1 := by unfold YS; kernel_rfl
theorem y6_9 : YS 6 9 1 := by unfold YS; kernel_rfl
theorem y6_10 : YS 6 10 1 := by unfold YS; kernel_rfl
theorem y7 : YS 7 0 8 := by unfold YS; kernel_rfl
theorem y7_8 : YS 7 8 1 := by unfold YS; kernel_rfl
theorem y7_9 : YS 7 9 1 := by unfold YS; kernel_rfl
theorem y7_10 : YS 7 10 1 := by unfold YS; kernel_rfl
theorem z0 : ZS 0 := by unfold ZS; kernel_rfl
theorem z1 : ZS 1 := by unfold ZS; kernel_rfl
theorem z2 : ZS 2 := by unfold ZS; kernel_rfl
theorem z3 : ZS 3 := by unfold ZS; kernel_rfl
theorem z4 : ZS 4 := by unfold ZS; kernel_rfl
theorem z5 : ZS 5 := by unfold ZS; kernel_rfl
theorem z6 : ZS 6 := by unfold ZS; kernel_rfl
theorem z7 : ZS 7 := by unfold ZS; kernel_rfl
theorem z8 : ZS 8 := by unfold ZS; kernel_rfl
theorem z9 : ZS 9 := by unfold ZS; kernel_rfl
theorem z10 : ZS 10 := by unfold ZS; kernel_rfl
theorem z11 : ZS 11 := by unfold ZS; kernel_rfl
theorem z12 : ZS 12 := by unfold ZS; kernel_rfl
theorem z13 : ZS 13 := by unfold ZS; kernel_rfl
theorem z14 : ZS 14 := by unfold ZS; kernel_rfl
theorem z15 : ZS 15 := by unfold ZS; kernel_rfl
theorem z16 : ZS 16 := by unfold ZS; kernel_rfl
theorem z17 : ZS 17 := by unfold ZS; kernel_rfl
theorem z18 : ZS 18 := by unfold ZS; kernel_rfl
theorem yx : (List.range 8).map (fun n => pc pY [] [1] [row11] (KY n 11)) = (List.range 8).map fun n => some (.exit 2, [], K1 n) := by kernel_rfl
theorem x0 : (List.range 8).map (fun n => pc (pX ++ [0]) [] [1] [] (K1 n)) = (List.range 8).map fun n => some (.normal, [], K1 n) := by kernel_rfl
theorem x1 : (List.range 8).map (fun n => pc (pX ++ [1, 0, 0, 0]) [G] [1, 18, 19, 20] [] (K1 n)) = (List.range 8).map fun n => some (.normal, [row11], KY n 0) := by kernel_rfl
theorem x2 : (List.range 8).map (fun n => pc (pX ++ [1, 1]) [] [1] [] (K1 n)) = (List.range 8).map fun n => some (.normal, [], K1 (n + 1)) := by kernel_rfl
theorem xx : pc (pX ++ [0]) [] [] [] (K1 8) = some (.exit 0, [], []) := by kernel_rfl
theorem zx : (List.range 19).map (fun n => pc pY2 [G] [8, 10] [whole, row8] (KY2 n 8)) = (List.range 19).map fun n => some (.exit 6, [whole], K2 n) := by kernel_rfl
theorem w0 : (List.range 19).map (fun n => pc (pX2 ++ [0]) [G] [8, 10] [whole] (K2 n)) = (List.range 19).map fun n => some (.normal, [whole], K2 n) := by kernel_rfl
theorem w1 : (List.range 19).map (fun n => pc (pX2 ++ [1, 0, 0, 0]) [G, G + 1] [8, 10, 83, 84, 85] [whole] (K2 n)) = (List.range 19).map fun n => some (.normal, [whole, row8], KY2 n 0) := by kernel_rfl
theorem w2 : (List.range 19).map (fun n => pc (pX2 ++ [1, 1]) [G] [8, 10] [whole] (K2 n)) = (List.range 19).map fun n => some (.normal, [whole], K2 (n + 1)) := by kernel_rfl
theorem wx : pc (pX2 ++ [0]) [G] [8] [whole] (K2 19) = some (.exit 4, [whole], K8) := by kernel_rfl
theorem b0 : pc [0] [] [] [] [] = some (.normal, [], []) := by kernel_rfl
theorem b1 : pc [1, 0, 0] [] [1] [] [] = some (.normal, [], K1 0) := by kernel_rfl
theorem b2 : pc [1, 1, 0] [G + 33] [8] [] [] = some (.normal, [whole], K8) := by kernel_rfl
theorem b3 : pc [1, 1, 1, 0, 0] [G] [8, 10] [whole] K8 = some (.normal, [whole], K2 0) := by kernel_rfl
theorem b4 : pc [1, 1, 1, 1] [] [0] [whole] K8 = some (.ret, [], [(0, .bool true)]) := by kernel_rfl
theorem shape : Try.f7.body = some (.seq (nav [0] B) (.seq (.seq (nav [1, 0, 0] B) (.block 0 (.loop (nav pX B)))) (.seq (nav [1, 1, 0] B) (.seq (.seq (nav [1, 1, 1, 0, 0] B) (.block 4 (.loop (nav pX2 B)))) (nav [1, 1, 1, 1] B))))) := by kernel_rfl
theorem shapeX : nav pX B = .seq (nav (pX ++ [0]) B) (.seq (.block 1 (.seq (nav (pX ++ [1, 0, 0, 0]) B) (.block 2 (.loop (nav pY B))))) (nav (pX ++ [1, 1]) B)) := by kernel_rfl
theorem shapeX2 : nav pX2 B = .seq (nav (pX2 ++ [0]) B) (.seq (.block 5 (.seq (nav (pX2 ++ [1, 0, 0, 0]) B) (.block 6 (.loop (nav pY2 B))))) (nav (pX2 ++ [1, 1]) B)) := by kernel_rfl
section
variable {W : World}
abbrev Gs (W : World) (p : List Nat) (L : List AObj) (K : List (Nat × Value)) (e : AExit) (L' : List AObj) (K' : List (Nat × Value)) : Prop := Goes Try.prog W (nav p B) (hk G L) (tk NT K) e (hk G L') (tk NT K')
theorem gs {p m ks : List Nat} {L L' : List AObj} {K K' : List (Nat × Value)} {e : AExit} (hok : okCode (nav p B) = true) (h : pc p m ks L K = some (e, L', K')) : Gs W p L K e L' K' :=
  piece_goes E_sound good hok h
theorem okY : okCode (nav pY B) = true := by kernel_rfl
theorem okY2 : okCode (nav pY2 B) = true := by kernel_rfl
theorem ys8 (n : Nat) (hn : n < 8) : YS n 0 8 := by
  obtain h | h | h | h | h | h | h | h : n = 0 ∨ n = 1 ∨ n = 2 ∨ n = 3 ∨ n = 4 ∨ n = 5 ∨ n = 6 ∨ n = 7 := by omega
  all_goals subst h
  · exact y0
  · exact y1
  · exact y2
  · exact y3
  · exact y4
  · exact y5
  · exact y6
  · exact y7
theorem ys_8 (n : Nat) (hn : n < 8) : YS n 8 1 := by
  obtain h | h | h | h | h | h | h | h : n = 0 ∨ n = 1 ∨ n = 2 ∨ n = 3 ∨ n = 4 ∨ n = 5 ∨ n = 6 ∨ n = 7 := by omega
  all_goals subst h
  · exact y0_8
  · exact y1_8
  · exact y2_8
  · exact y3_8
  · exact y4_8
  · exact y5_8
  · exact y6_8
  · exact y7_8
theorem ys_9 (n : Nat) (hn : n < 8) : YS n 9 1 := by
  obtain h | h | h | h | h | h | h | h : n = 0 ∨ n = 1 ∨ n = 2 ∨ n = 3 ∨ n = 4 ∨ n = 5 ∨ n = 6 ∨ n = 7 := by omega
  all_goals subst h
  · exact y0_9
  · exact y1_9
  · exact y2_9
  · exact y3_9
  · exact y4_9
  · exact y5_9
  · exact y6_9
  · exact y7_9
theorem ys_10 (n : Nat) (hn : n < 8) : YS n 10 1 := by
  obtain h | h | h | h | h | h | h | h : n = 0 ∨ n = 1 ∨ n = 2 ∨ n = 3 ∨ n = 4 ∨ n = 5 ∨ n = 6 ∨ n = 7 := by omega
  all_goals subst h
  · exact y0_10
  · exact y1_10
  · exact y2_10
  · exact y3_10
  · exact y4_10
  · exact y5_10
  · exact y6_10
  · exact y7_10
theorem zs (n : Nat) (hn : n < 19) : ZS n := by
  obtain h | h | h | h | h | h | h | h | h | h | h | h | h | h | h | h | h | h | h : n = 0 ∨ n = 1 ∨ n = 2 ∨ n = 3 ∨ n = 4 ∨ n = 5 ∨ n = 6 ∨ n = 7 ∨ n = 8 ∨ n = 9 ∨ n = 10 ∨ n = 11 ∨ n = 12 ∨ n = 13 ∨ n = 14 ∨ n = 15 ∨ n = 16 ∨ n = 17 ∨ n = 18 := by omega
  all_goals subst h
  · exact z0
  · exact z1
  · exact z2
  · exact z3
  · exact z4
  · exact z5
  · exact z6
  · exact z7
  · exact z8
  · exact z9
  · exact z10
  · exact z11
  · exact z12
  · exact z13
  · exact z14
  · exact z15
  · exact z16
  · exact z17
  · exact z18
theorem goY (n : Nat) (hn : n < 8) (j : Nat) (hj : j < 11) : Gs W pY [row11] (KY n j) .normal [row11] (KY n (j + 1)) := by
  have go : ∀ a k, YS n a k → a ≤ j → j < a + k → Gs W pY [row11] (KY n j) .normal [row11] (KY n (j + 1)) := by
    intro a k h h1 h2
    have := map_range h (j - a) (by omega)
    rw [show a + (j - a) = j by omega] at this
    exact gs okY this
  by_cases h0 : j < 8
  · exact go 0 8 (ys8 n hn) (by omega) (by omega)
  by_cases h1 : j < 9
  · exact go 8 1 (ys_8 n hn) (by omega) (by omega)
  by_cases h2 : j < 10
  · exact go 9 1 (ys_9 n hn) (by omega) (by omega)
  · exact go 10 1 (ys_10 n hn) (by omega) (by omega)
theorem goX (n : Nat) (hn : n < 8) : Gs W pX [] (K1 n) .normal [] (K1 (n + 1)) := by
  unfold Gs
  rw [shapeX]
  refine .seq (gs (by kernel_rfl) (map_range x0 n hn)) (.seq (.block (.seq (gs (by kernel_rfl) (map_range x1 n hn)) (.blockExit (GoesL.loop (n := 1 + 11) ?_)))) (gs (by kernel_rfl) (map_range x2 n hn)))
  refine GoesL.many (SH := fun _ => hk G [row11]) (ST := fun j => tk NT (KY n j)) 11 0 (fun j hj => ?_) (.exit (n := 0) ?_)
  · simp only [Nat.zero_add]; exact goY n hn j hj
  · exact gs okY (map_range yx n hn)
theorem goX2 (n : Nat) (hn : n < 19) : Gs W pX2 [whole] (K2 n) .normal [whole] (K2 (n + 1)) := by
  unfold Gs
  rw [shapeX2]
  refine .seq (gs (by kernel_rfl) (map_range w0 n hn)) (.seq (.block (.seq (gs (by kernel_rfl) (map_range w1 n hn)) (.blockExit (GoesL.loop (n := 1 + 8) ?_)))) (gs (by kernel_rfl) (map_range w2 n hn)))
  refine GoesL.many (SH := fun _ => hk G [whole, row8]) (ST := fun j => tk NT (KY2 n j)) 8 0 (fun j hj => ?_) (.exit (n := 0) ?_)
  · simp only [Nat.zero_add]
    exact gs okY2 (map_range (zs n hn) j hj)
  · exact gs okY2 (map_range zx n hn)
end
theorem walk (W : World) : Calls Try.prog 7 #[] W fun e W' => e = .returned (.bool true) ∧ Below W.heap.size W W' := by
  refine Goes.calls (H := hk G []) (t := tk NT [(0, .bool true)]) (e := .ret) (s' := ⟨hk G [], 0, none, []⟩) Try.func7 shape (by show 115 ≤ 8190; omega) ?_ (.inl rfl) (by kernel_rfl) rfl rfl
  refine .seq (gs (by kernel_rfl) b0) (.seq (.seq (gs (by kernel_rfl) b1) (.blockExit (GoesL.loop (n := 1 + 8) ?_))) (.seq (gs (by kernel_rfl) b2) (.seq (.seq (gs (by kernel_rfl) b3) (.blockExit (GoesL.loop (n := 1 + 19) ?_))) (gs (by kernel_rfl) b4))))
  · refine GoesL.many (SH := fun _ => hk G []) (ST := fun n => tk NT (K1 n)) 8 0 (fun n hn => ?_) (.exit (n := 0) ?_)
    · simp only [Nat.zero_add]; exact goX n hn
    · show Goes Try.prog W (nav pX B) (hk G []) (tk NT (K1 8)) (.exit 0) (hk G []) (tk NT [])
      rw [shapeX]
      exact .seqExit (gs (by kernel_rfl) xx)
  · refine GoesL.many (SH := fun _ => hk G [whole]) (ST := fun n => tk NT (K2 n)) 19 0 (fun n hn => ?_) (.exit (n := 0) ?_)
    · simp only [Nat.zero_add]; exact goX2 n hn
    · show Goes Try.prog W (nav pX2 B) (hk G [whole]) (tk NT (K2 19)) (.exit 4) (hk G [whole]) (tk NT K8)
      rw [shapeX2]
      exact .seqExit (gs (by kernel_rfl) wx)
end FrameN
end Go.Proofs.Ytddlejbcnjmfmaa
