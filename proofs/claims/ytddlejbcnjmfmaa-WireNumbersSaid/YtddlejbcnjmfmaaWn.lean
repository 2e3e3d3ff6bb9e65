/- P4.1: chapter 4's runs, and each read where bytes lack: the closed law, piece by piece. -/
import Derived.Test.YtddlejbcnjmfmaaRows
import Derived.Test.YtddlejbcnjmfmaaEvW
namespace Go.Proofs.Ytddlejbcnjmfmaa
open Go Go.Ev Go.RowKit
set_option maxRecDepth 100000
theorem good2 : Ev.Good Try.prog := ⟨by kernel_rfl, by kernel_rfl, by kernel_rfl⟩
namespace WireN
noncomputable abbrev G : Nat := Try.prog.globals.size
noncomputable abbrev B : Code := bodyOf Try.f3
abbrev pX : List Nat := [1, 0, 1, 0, 0]
abbrev pY : List Nat := [1, 0, 1, 0, 0, 1, 0, 0, 1, 0, 0]
abbrev pZ : List Nat := [1, 0, 1, 0, 0, 1, 0, 0, 1, 0, 0, 1, 0, 0, 1, 0, 0]
def i64 (n : Nat) : Value := .int .i64 (n : Int)
def rowO (n : Nat) : AObj := { cells := #[.int .i64 (-1), .int .i64 0, .int .i64 1, i64 n, i64 (n + 1), .int .i64 1099511627776], esz := 1, st := 1, prev := [] }
def K1 (n : Nat) : List (Nat × Value) := [(1, i64 n)]
def K2 (n k : Nat) : List (Nat × Value) := [(1, i64 n), (2, i64 k)]
noncomputable def KZ (n k j : Nat) : List (Nat × Value) := [(1, i64 n), (2, i64 k), (19, .slice (some ⟨G, 0, none⟩) 6 0), (20, .int .i64 6), (21, i64 j)]
noncomputable abbrev pc (p : List Nat) (m ks : List Nat) (L : List AObj) (K : List (Nat × Value)) : Option (AExit × List AObj × List (Nat × Value)) := piece Try.prog noEnv 3 5000 G (nav p B) 67 m ks L K
def ZS (n : Nat) : Prop := (List.range 24).map (fun i => pc pZ [G] [1, 2, 19, 20, 21] [rowO n] (KZ n (1 + i / 6) (i % 6))) = (List.range 24).map fun i => some (.normal, [rowO n], KZ n (1 + i / 6) (i % 6 + 1))
theorem z0 : ZS 0 := by unfold ZS; kernel_rfl
theorem z1 : ZS 1 := by unfold ZS; kernel_rfl
theorem z2 : ZS 2 := by unfold ZS; kernel_rfl
theorem z3 : ZS 3 := by unfold ZS; kernel_rfl
theorem z4 : ZS 4 := by unfold ZS; kernel_rfl
theorem z5 : ZS 5 := by unfold ZS; kernel_rfl
theorem zx : (List.range 24).map (fun i => pc pZ [] [1, 2] [rowO (i / 4)] (KZ (i / 4) (1 + i % 4) 6)) = (List.range 24).map fun i => some (.exit 4, [], K2 (i / 4) (1 + i % 4)) := by kernel_rfl
theorem y0 : (List.range 24).map (fun i => pc (pY ++ [0]) [] [1, 2] [] (K2 (i / 4) (1 + i % 4))) = (List.range 24).map fun i => some (.normal, [], K2 (i / 4) (1 + i % 4)) := by kernel_rfl
theorem y1 : (List.range 24).map (fun i => pc (pY ++ [1, 0, 0, 0]) [G] [1, 2, 19, 20, 21] [] (K2 (i / 4) (1 + i % 4))) = (List.range 24).map fun i => some (.normal, [rowO (i / 4)], KZ (i / 4) (1 + i % 4) 0) := by kernel_rfl
theorem y2 : (List.range 24).map (fun i => pc (pY ++ [1, 1]) [] [1, 2] [] (K2 (i / 4) (1 + i % 4))) = (List.range 24).map fun i => some (.normal, [], K2 (i / 4) (1 + i % 4 + 1)) := by kernel_rfl
theorem yx : (List.range 6).map (fun i => pc (pY ++ [0]) [] [1] [] (K2 i 5)) = (List.range 6).map fun i => some (.exit 2, [], K1 i) := by kernel_rfl
theorem x0 : (List.range 6).map (fun i => pc (pX ++ [0]) [] [1] [] (K1 i)) = (List.range 6).map fun i => some (.normal, [], K1 i) := by kernel_rfl
theorem x1 : (List.range 6).map (fun i => pc (pX ++ [1, 0, 0, 0]) [] [1, 2] [] (K1 i)) = (List.range 6).map fun i => some (.normal, [], K2 i 1) := by kernel_rfl
theorem x2 : (List.range 6).map (fun i => pc (pX ++ [1, 1]) [] [1] [] (K1 i)) = (List.range 6).map fun i => some (.normal, [], K1 (i + 1)) := by kernel_rfl
theorem xx : pc (pX ++ [0]) [] [] [] (K1 6) = some (.exit 0, [], []) := by kernel_rfl
theorem b0 : pc [0] [] [] [] [] = some (.normal, [], []) := by kernel_rfl
theorem b1 : pc [1, 0, 0] [] [1] [] [] = some (.normal, [], K1 0) := by kernel_rfl
theorem b2 : pc [1, 1] [] [0] [] [] = some (.ret, [], [(0, .bool true)]) := by kernel_rfl
theorem shape : Try.f3.body = some (.seq (nav [0] B) (.seq (.seq (nav [1, 0, 0] B) (.block 0 (.loop (nav pX B)))) (nav [1, 1] B))) := by kernel_rfl
theorem shapeX : nav pX B = .seq (nav (pX ++ [0]) B) (.seq (.block 1 (.seq (nav (pX ++ [1, 0, 0, 0]) B) (.block 2 (.loop (nav pY B))))) (nav (pX ++ [1, 1]) B)) := by kernel_rfl
theorem shapeY : nav pY B = .seq (nav (pY ++ [0]) B) (.seq (.block 3 (.seq (nav (pY ++ [1, 0, 0, 0]) B) (.block 4 (.loop (nav pZ B))))) (nav (pY ++ [1, 1]) B)) := by kernel_rfl
section
variable {W : World}
abbrev Gs (W : World) (p : List Nat) (L : List AObj) (K : List (Nat × Value)) (e : AExit) (L' : List AObj) (K' : List (Nat × Value)) : Prop := Goes Try.prog W (nav p B) (hk G L) (tk 67 K) e (hk G L') (tk 67 K')
theorem gs {p m ks : List Nat} {L L' : List AObj} {K K' : List (Nat × Value)} {e : AExit} (hok : okCode (nav p B) = true) (h : pc p m ks L K = some (e, L', K')) : Gs W p L K e L' K' :=
  piece_goes noEnv_sound good2 hok h
theorem okZ : okCode (nav pZ B) = true := by kernel_rfl
theorem zs (n : Nat) (hn : n < 6) : ZS n := by
  obtain h | h | h | h | h | h : n = 0 ∨ n = 1 ∨ n = 2 ∨ n = 3 ∨ n = 4 ∨ n = 5 := by omega
  all_goals subst h
  · exact z0
  · exact z1
  · exact z2
  · exact z3
  · exact z4
  · exact z5
theorem goZ (n k : Nat) (hn : n < 6) (hk4 : k < 4) (j : Nat) (hj : j < 6) : Gs W pZ [rowO n] (KZ n (1 + k) j) .normal [rowO n] (KZ n (1 + k) (j + 1)) := by
  have := map_range (zs n hn) (6 * k + j) (by omega)
  rw [show (6 * k + j) / 6 = k by omega, show (6 * k + j) % 6 = j by omega] at this
  exact gs okZ this
theorem goZx (n k : Nat) (hn : n < 6) (hk4 : k < 4) : Gs W pZ [rowO n] (KZ n (1 + k) 6) (.exit 4) [] (K2 n (1 + k)) := by
  have := map_range zx (4 * n + k) (by omega)
  rw [show (4 * n + k) / 4 = n by omega, show (4 * n + k) % 4 = k by omega] at this
  exact gs okZ this
theorem loopZ (n k : Nat) (hn : n < 6) (hk4 : k < 4) : Goes Try.prog W (.block 4 (.loop (nav pZ B))) (hk G [rowO n]) (tk 67 (KZ n (1 + k) 0)) .normal (hk G []) (tk 67 (K2 n (1 + k))) := by
  refine .blockExit (GoesL.loop (n := 1 + 6) ?_)
  refine GoesL.many (SH := fun _ => hk G [rowO n]) (ST := fun j => tk 67 (KZ n (1 + k) j)) 6 0 (fun j hj => ?_) (.exit (n := 0) ?_)
  · simp only [Nat.zero_add]; exact goZ n k hn hk4 j hj
  · exact goZx n k hn hk4
theorem goY (n k : Nat) (hn : n < 6) (hk4 : k < 4) : Gs W pY [] (K2 n (1 + k)) .normal [] (K2 n (1 + k + 1)) := by
  unfold Gs
  rw [shapeY]
  have i1 := map_range y0 (4 * n + k) (by omega)
  have i2 := map_range y1 (4 * n + k) (by omega)
  have i3 := map_range y2 (4 * n + k) (by omega)
  rw [show (4 * n + k) / 4 = n by omega, show (4 * n + k) % 4 = k by omega] at i1 i2 i3
  exact .seq (gs (by kernel_rfl) i1) (.seq (.block (.seq (gs (by kernel_rfl) i2) (loopZ n k hn hk4))) (gs (by kernel_rfl) i3))
theorem goYx (n : Nat) (hn : n < 6) : Gs W pY [] (K2 n 5) (.exit 2) [] (K1 n) := by
  unfold Gs
  rw [shapeY]
  exact .seqExit (gs (by kernel_rfl) (map_range yx n hn))
theorem goX (n : Nat) (hn : n < 6) : Gs W pX [] (K1 n) .normal [] (K1 (n + 1)) := by
  unfold Gs
  rw [shapeX]
  refine .seq (gs (by kernel_rfl) (map_range x0 n hn)) (.seq (.block (.seq (gs (by kernel_rfl) (map_range x1 n hn)) (.blockExit (GoesL.loop (n := 1 + 4) ?_)))) (gs (by kernel_rfl) (map_range x2 n hn)))
  refine GoesL.many (SH := fun _ => hk G []) (ST := fun k => tk 67 (K2 n (1 + k))) 4 0 (fun k hk4 => ?_) (.exit (n := 0) ?_)
  · simp only [Nat.zero_add]; exact goY n k hn hk4
  · exact goYx n hn
end
theorem walk (W : World) : Calls Try.prog 3 #[] W fun e W' => e = .returned (.bool true) ∧ Below W.heap.size W W' := by
  refine Goes.calls (H := hk G []) (t := tk 67 [(0, .bool true)]) (e := .ret) (s' := ⟨hk G [], 0, none, []⟩) Try.func3 shape (by show 67 ≤ 8190; omega) ?_ (.inl rfl) (by kernel_rfl) rfl rfl
  refine .seq (gs (by kernel_rfl) b0) (.seq (.seq (gs (by kernel_rfl) b1) (.blockExit (GoesL.loop (n := 1 + 6) ?_))) (gs (by kernel_rfl) b2))
  refine GoesL.many (SH := fun _ => hk G []) (ST := fun n => tk 67 (K1 n)) 6 0 (fun n hn => ?_) (.exit (n := 0) ?_)
  · simp only [Nat.zero_add]; exact goX n hn
  · show Goes Try.prog W (nav pX B) (hk G []) (tk 67 (K1 6)) (.exit 0) (hk G []) (tk 67 [])
    rw [shapeX]
    exact .seqExit (gs (by kernel_rfl) xx)
end WireN
end Go.Proofs.Ytddlejbcnjmfmaa
