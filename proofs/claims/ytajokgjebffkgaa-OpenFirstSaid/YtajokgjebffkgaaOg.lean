/- OpenFirst: the other ways, and the walk. -/
import Derived.Test.YtajokgjebffkgaaOf
namespace Go.Proofs.Ytajokgjebffkgaa
open Go Go.Ev Go.RowKit
set_option maxRecDepth 100000
namespace OpenFirst
theorem s4_0 (w : Int) (z : Nat → Int) : SRow w z 0 4 := by unfold SRow; kernel_rfl
theorem s4_1 (w : Int) (z : Nat → Int) : SRow w z 1 4 := by unfold SRow; kernel_rfl
theorem s4_2 (w : Int) (z : Nat → Int) : SRow w z 2 4 := by unfold SRow; kernel_rfl
theorem s4_3 (w : Int) (z : Nat → Int) : SRow w z 3 4 := by unfold SRow; kernel_rfl
theorem s4_4 (w : Int) (z : Nat → Int) : SRow w z 4 4 := by unfold SRow; kernel_rfl
theorem s4_5 (w : Int) (z : Nat → Int) : SRow w z 5 4 := by unfold SRow; kernel_rfl
theorem s4_6 (w : Int) (z : Nat → Int) : SRow w z 6 4 := by unfold SRow; kernel_rfl
theorem s4_7 (w : Int) (z : Nat → Int) : SRow w z 7 4 := by unfold SRow; kernel_rfl
theorem s4_8 (w : Int) (z : Nat → Int) : SRow w z 8 4 := by unfold SRow; kernel_rfl
theorem s4_9 (w : Int) (z : Nat → Int) : SRow w z 9 4 := by unfold SRow; kernel_rfl
theorem s4_10 (w : Int) (z : Nat → Int) : SRow w z 10 4 := by unfold SRow; kernel_rfl
theorem s4_11 (w : Int) (z : Nat → Int) : SRow w z 11 4 := by unfold SRow; kernel_rfl
theorem s4_12 (w : Int) (z : Nat → Int) : SRow w z 12 4 := by unfold SRow; kernel_rfl
theorem s4_13 (w : Int) (z : Nat → Int) : SRow w z 13 4 := by unfold SRow; kernel_rfl
theorem s4_14 (w : Int) (z : Nat → Int) : SRow w z 14 4 := by unfold SRow; kernel_rfl
theorem s4_15 (w : Int) (z : Nat → Int) : SRow w z 15 4 := by unfold SRow; kernel_rfl
theorem s4_16 (w : Int) (z : Nat → Int) : SRow w z 16 4 := by unfold SRow; kernel_rfl
theorem s4_17 (w : Int) (z : Nat → Int) : SRow w z 17 4 := by unfold SRow; kernel_rfl
theorem s4_18 (w : Int) (z : Nat → Int) : SRow w z 18 4 := by unfold SRow; kernel_rfl
theorem s4_19 (w : Int) (z : Nat → Int) : SRow w z 19 4 := by unfold SRow; kernel_rfl
theorem s4_20 (w : Int) (z : Nat → Int) : SRow w z 20 4 := by unfold SRow; kernel_rfl
theorem s5_0 (w : Int) (z : Nat → Int) : SRow w z 0 5 := by unfold SRow; kernel_rfl
theorem s5_1 (w : Int) (z : Nat → Int) : SRow w z 1 5 := by unfold SRow; kernel_rfl
theorem s5_2 (w : Int) (z : Nat → Int) : SRow w z 2 5 := by unfold SRow; kernel_rfl
theorem s5_3 (w : Int) (z : Nat → Int) : SRow w z 3 5 := by unfold SRow; kernel_rfl
theorem s5_4 (w : Int) (z : Nat → Int) : SRow w z 4 5 := by unfold SRow; kernel_rfl
theorem s5_5 (w : Int) (z : Nat → Int) : SRow w z 5 5 := by unfold SRow; kernel_rfl
theorem s5_6 (w : Int) (z : Nat → Int) : SRow w z 6 5 := by unfold SRow; kernel_rfl
theorem s5_7 (w : Int) (z : Nat → Int) : SRow w z 7 5 := by unfold SRow; kernel_rfl
theorem s5_8 (w : Int) (z : Nat → Int) : SRow w z 8 5 := by unfold SRow; kernel_rfl
theorem s5_9 (w : Int) (z : Nat → Int) : SRow w z 9 5 := by unfold SRow; kernel_rfl
theorem s5_10 (w : Int) (z : Nat → Int) : SRow w z 10 5 := by unfold SRow; kernel_rfl
theorem s5_11 (w : Int) (z : Nat → Int) : SRow w z 11 5 := by unfold SRow; kernel_rfl
theorem s5_12 (w : Int) (z : Nat → Int) : SRow w z 12 5 := by unfold SRow; kernel_rfl
theorem s5_13 (w : Int) (z : Nat → Int) : SRow w z 13 5 := by unfold SRow; kernel_rfl
theorem s5_14 (w : Int) (z : Nat → Int) : SRow w z 14 5 := by unfold SRow; kernel_rfl
theorem s5_15 (w : Int) (z : Nat → Int) : SRow w z 15 5 := by unfold SRow; kernel_rfl
theorem s5_16 (w : Int) (z : Nat → Int) : SRow w z 16 5 := by unfold SRow; kernel_rfl
theorem s5_17 (w : Int) (z : Nat → Int) : SRow w z 17 5 := by unfold SRow; kernel_rfl
theorem s5_18 (w : Int) (z : Nat → Int) : SRow w z 18 5 := by unfold SRow; kernel_rfl
theorem s5_19 (w : Int) (z : Nat → Int) : SRow w z 19 5 := by unfold SRow; kernel_rfl
theorem s5_20 (w : Int) (z : Nat → Int) : SRow w z 20 5 := by unfold SRow; kernel_rfl
theorem s6_0 (w : Int) (z : Nat → Int) : SRow w z 0 6 := by unfold SRow; kernel_rfl
theorem s6_1 (w : Int) (z : Nat → Int) : SRow w z 1 6 := by unfold SRow; kernel_rfl
theorem s6_2 (w : Int) (z : Nat → Int) : SRow w z 2 6 := by unfold SRow; kernel_rfl
theorem s6_3 (w : Int) (z : Nat → Int) : SRow w z 3 6 := by unfold SRow; kernel_rfl
theorem s6_4 (w : Int) (z : Nat → Int) : SRow w z 4 6 := by unfold SRow; kernel_rfl
theorem s6_5 (w : Int) (z : Nat → Int) : SRow w z 5 6 := by unfold SRow; kernel_rfl
theorem s6_6 (w : Int) (z : Nat → Int) : SRow w z 6 6 := by unfold SRow; kernel_rfl
theorem s6_7 (w : Int) (z : Nat → Int) : SRow w z 7 6 := by unfold SRow; kernel_rfl
theorem s6_8 (w : Int) (z : Nat → Int) : SRow w z 8 6 := by unfold SRow; kernel_rfl
theorem s6_9 (w : Int) (z : Nat → Int) : SRow w z 9 6 := by unfold SRow; kernel_rfl
theorem s6_10 (w : Int) (z : Nat → Int) : SRow w z 10 6 := by unfold SRow; kernel_rfl
theorem s6_11 (w : Int) (z : Nat → Int) : SRow w z 11 6 := by unfold SRow; kernel_rfl
theorem s6_12 (w : Int) (z : Nat → Int) : SRow w z 12 6 := by unfold SRow; kernel_rfl
theorem s6_13 (w : Int) (z : Nat → Int) : SRow w z 13 6 := by unfold SRow; kernel_rfl
theorem s6_14 (w : Int) (z : Nat → Int) : SRow w z 14 6 := by unfold SRow; kernel_rfl
theorem s6_15 (w : Int) (z : Nat → Int) : SRow w z 15 6 := by unfold SRow; kernel_rfl
theorem s6_16 (w : Int) (z : Nat → Int) : SRow w z 16 6 := by unfold SRow; kernel_rfl
theorem s6_17 (w : Int) (z : Nat → Int) : SRow w z 17 6 := by unfold SRow; kernel_rfl
theorem s6_18 (w : Int) (z : Nat → Int) : SRow w z 18 6 := by unfold SRow; kernel_rfl
theorem s6_19 (w : Int) (z : Nat → Int) : SRow w z 19 6 := by unfold SRow; kernel_rfl
theorem s6_20 (w : Int) (z : Nat → Int) : SRow w z 20 6 := by unfold SRow; kernel_rfl
theorem nrows (w : Int) : ∀ k : Nat, k ≤ 6 → NRow w k
  | 0, _ => n0 w
  | 1, _ => n1 w
  | 2, _ => n2 w
  | 3, _ => n3 w
  | 4, _ => n4 w
  | 5, _ => n5 w
  | 6, _ => n6 w
  | k + 7, h => absurd h (by omega)
theorem lrows (w : Int) (z : Nat → Int) (rest : List Value) (n : Nat) : ∀ k : Nat, k ≤ 6 → LRow w z rest n k
  | 0, _ => l0 w z rest n
  | 1, _ => l1 w z rest n
  | 2, _ => l2 w z rest n
  | 3, _ => l3 w z rest n
  | 4, _ => l4 w z rest n
  | 5, _ => l5 w z rest n
  | 6, _ => l6 w z rest n
  | k + 7, h => absurd h (by omega)
theorem srows0 (w : Int) (z : Nat → Int) : ∀ L : Nat, L ≤ 20 → SRow w z L 0
  | 0, _ => s0_0 w z
  | 1, _ => s0_1 w z
  | 2, _ => s0_2 w z
  | 3, _ => s0_3 w z
  | 4, _ => s0_4 w z
  | 5, _ => s0_5 w z
  | 6, _ => s0_6 w z
  | 7, _ => s0_7 w z
  | 8, _ => s0_8 w z
  | 9, _ => s0_9 w z
  | 10, _ => s0_10 w z
  | 11, _ => s0_11 w z
  | 12, _ => s0_12 w z
  | 13, _ => s0_13 w z
  | 14, _ => s0_14 w z
  | 15, _ => s0_15 w z
  | 16, _ => s0_16 w z
  | 17, _ => s0_17 w z
  | 18, _ => s0_18 w z
  | 19, _ => s0_19 w z
  | 20, _ => s0_20 w z
  | L + 21, h => absurd h (by omega)
theorem srows1 (w : Int) (z : Nat → Int) : ∀ L : Nat, L ≤ 20 → SRow w z L 1
  | 0, _ => s1_0 w z
  | 1, _ => s1_1 w z
  | 2, _ => s1_2 w z
  | 3, _ => s1_3 w z
  | 4, _ => s1_4 w z
  | 5, _ => s1_5 w z
  | 6, _ => s1_6 w z
  | 7, _ => s1_7 w z
  | 8, _ => s1_8 w z
  | 9, _ => s1_9 w z
  | 10, _ => s1_10 w z
  | 11, _ => s1_11 w z
  | 12, _ => s1_12 w z
  | 13, _ => s1_13 w z
  | 14, _ => s1_14 w z
  | 15, _ => s1_15 w z
  | 16, _ => s1_16 w z
  | 17, _ => s1_17 w z
  | 18, _ => s1_18 w z
  | 19, _ => s1_19 w z
  | 20, _ => s1_20 w z
  | L + 21, h => absurd h (by omega)
theorem srows2 (w : Int) (z : Nat → Int) : ∀ L : Nat, L ≤ 20 → SRow w z L 2
  | 0, _ => s2_0 w z
  | 1, _ => s2_1 w z
  | 2, _ => s2_2 w z
  | 3, _ => s2_3 w z
  | 4, _ => s2_4 w z
  | 5, _ => s2_5 w z
  | 6, _ => s2_6 w z
  | 7, _ => s2_7 w z
  | 8, _ => s2_8 w z
  | 9, _ => s2_9 w z
  | 10, _ => s2_10 w z
  | 11, _ => s2_11 w z
  | 12, _ => s2_12 w z
  | 13, _ => s2_13 w z
  | 14, _ => s2_14 w z
  | 15, _ => s2_15 w z
  | 16, _ => s2_16 w z
  | 17, _ => s2_17 w z
  | 18, _ => s2_18 w z
  | 19, _ => s2_19 w z
  | 20, _ => s2_20 w z
  | L + 21, h => absurd h (by omega)
theorem srows3 (w : Int) (z : Nat → Int) : ∀ L : Nat, L ≤ 20 → SRow w z L 3
  | 0, _ => s3_0 w z
  | 1, _ => s3_1 w z
  | 2, _ => s3_2 w z
  | 3, _ => s3_3 w z
  | 4, _ => s3_4 w z
  | 5, _ => s3_5 w z
  | 6, _ => s3_6 w z
  | 7, _ => s3_7 w z
  | 8, _ => s3_8 w z
  | 9, _ => s3_9 w z
  | 10, _ => s3_10 w z
  | 11, _ => s3_11 w z
  | 12, _ => s3_12 w z
  | 13, _ => s3_13 w z
  | 14, _ => s3_14 w z
  | 15, _ => s3_15 w z
  | 16, _ => s3_16 w z
  | 17, _ => s3_17 w z
  | 18, _ => s3_18 w z
  | 19, _ => s3_19 w z
  | 20, _ => s3_20 w z
  | L + 21, h => absurd h (by omega)
theorem srows4 (w : Int) (z : Nat → Int) : ∀ L : Nat, L ≤ 20 → SRow w z L 4
  | 0, _ => s4_0 w z
  | 1, _ => s4_1 w z
  | 2, _ => s4_2 w z
  | 3, _ => s4_3 w z
  | 4, _ => s4_4 w z
  | 5, _ => s4_5 w z
  | 6, _ => s4_6 w z
  | 7, _ => s4_7 w z
  | 8, _ => s4_8 w z
  | 9, _ => s4_9 w z
  | 10, _ => s4_10 w z
  | 11, _ => s4_11 w z
  | 12, _ => s4_12 w z
  | 13, _ => s4_13 w z
  | 14, _ => s4_14 w z
  | 15, _ => s4_15 w z
  | 16, _ => s4_16 w z
  | 17, _ => s4_17 w z
  | 18, _ => s4_18 w z
  | 19, _ => s4_19 w z
  | 20, _ => s4_20 w z
  | L + 21, h => absurd h (by omega)
theorem srows5 (w : Int) (z : Nat → Int) : ∀ L : Nat, L ≤ 20 → SRow w z L 5
  | 0, _ => s5_0 w z
  | 1, _ => s5_1 w z
  | 2, _ => s5_2 w z
  | 3, _ => s5_3 w z
  | 4, _ => s5_4 w z
  | 5, _ => s5_5 w z
  | 6, _ => s5_6 w z
  | 7, _ => s5_7 w z
  | 8, _ => s5_8 w z
  | 9, _ => s5_9 w z
  | 10, _ => s5_10 w z
  | 11, _ => s5_11 w z
  | 12, _ => s5_12 w z
  | 13, _ => s5_13 w z
  | 14, _ => s5_14 w z
  | 15, _ => s5_15 w z
  | 16, _ => s5_16 w z
  | 17, _ => s5_17 w z
  | 18, _ => s5_18 w z
  | 19, _ => s5_19 w z
  | 20, _ => s5_20 w z
  | L + 21, h => absurd h (by omega)
theorem srows6 (w : Int) (z : Nat → Int) : ∀ L : Nat, L ≤ 20 → SRow w z L 6
  | 0, _ => s6_0 w z
  | 1, _ => s6_1 w z
  | 2, _ => s6_2 w z
  | 3, _ => s6_3 w z
  | 4, _ => s6_4 w z
  | 5, _ => s6_5 w z
  | 6, _ => s6_6 w z
  | 7, _ => s6_7 w z
  | 8, _ => s6_8 w z
  | 9, _ => s6_9 w z
  | 10, _ => s6_10 w z
  | 11, _ => s6_11 w z
  | 12, _ => s6_12 w z
  | 13, _ => s6_13 w z
  | 14, _ => s6_14 w z
  | 15, _ => s6_15 w z
  | 16, _ => s6_16 w z
  | 17, _ => s6_17 w z
  | 18, _ => s6_18 w z
  | 19, _ => s6_19 w z
  | 20, _ => s6_20 w z
  | L + 21, h => absurd h (by omega)
theorem srows (w : Int) (z : Nat → Int) (L : Nat) (hL : L ≤ 20) : ∀ k : Nat, k ≤ 6 → SRow w z L k
  | 0, _ => srows0 w z L hL
  | 1, _ => srows1 w z L hL
  | 2, _ => srows2 w z L hL
  | 3, _ => srows3 w z L hL
  | 4, _ => srows4 w z L hL
  | 5, _ => srows5 w z L hL
  | 6, _ => srows6 w z L hL
  | k + 7, h => absurd h (by omega)
theorem walk (w : Int) (v : Value) (_ : (Lit.int .i64 w).wf = true) (W : World) (hv : IntsArg W .u8 v) :
    Calls Try.prog 7 #[.int .i64 w, v] W fun e W' => e = .returned (.bool true) ∧ Below W.heap.size W W' := by
  have b1 := Int.emod_nonneg w (show (7 : Int) ≠ 0 by decide)
  have b2 := Int.emod_lt_of_pos w (show (0 : Int) < 7 by decide)
  have hw : withinV w 0 6 = w % 7 := by unfold withinV; rw [Int.zero_add]; rfl
  obtain ⟨k, hk⟩ : ∃ k : Nat, w % 7 = k := ⟨(w % 7).toNat, by omega⟩
  have hk6 : k ≤ 6 := by omega
  have hC : wC w k := by unfold wC; rw [hw, hk]
  rcases hv with rfl | ⟨a, len, cap, zs, l, rfl, hlen, hcap, _, hfit, ha, hr, hs⟩
  · exact calls_of_run E1_sound good Try.func7 rfl (nrows w k hk6) (by simp only [List.forall_mem_cons]; exact ⟨hC, by simp⟩) rfl rfl W
  · by_cases hL : len ≤ 20
    · have hrow := srows w (fun i => zs.getD i 0) len hL k hk6
      rw [mkI_all, hlen] at hfit
      exact calls_of_row1 E1_sound good Try.func7 rfl hrow (by simp only [List.forall_mem_cons]; exact ⟨hC, by simp⟩) rfl W hfit rfl rfl hcap ha hr hs
    · have hrow := lrows w (fun i => zs.getD i 0) ((zs.drop 21).map (Value.int .u8)) len k hk6
      have hsz : (⟨mkI .u8 (fun i => zs.getD i 0) 21 ++ (zs.drop 21).map (Value.int .u8)⟩ : Array Value).size = len := by
        rw [← mkI_of zs 21 (by omega)]; simp [hlen]
      rw [mkI_of zs 21 (by omega)] at hfit
      refine calls_of_row1 E1_sound good Try.func7 rfl hrow ?_ rfl W hfit rfl rfl hcap ha hr hs
      simp only [List.forall_mem_cons]
      refine ⟨?_, decide_eq_true (by omega), hC, by simp⟩
      unfold capB
      rw [hsz]
      exact decide_eq_true ⟨by decide, by rw [Nat.sub_zero, Nat.div_one]; omega⟩
end OpenFirst
end Go.Proofs.Ytajokgjebffkgaa
