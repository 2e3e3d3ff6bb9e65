/- P10.1: any bytes, sixty at the most, are read as the document says. -/
import Derived.Test.YtddlejbcnjmfmaaRf
import Derived.Test.YtddlejbcnjmfmaaEvU
namespace Go.Proofs.Ytddlejbcnjmfmaa
open Go Go.Ev Go.RowKit
set_option maxRecDepth 100000
namespace OpenRead
theorem fits_wrap (x : Int) : fitsU .u32 (wrapF .u32 x) = true := by
  have h1 := Int.emod_nonneg x (show (4294967296 : Int) ≠ 0 by decide)
  have h2 := Int.emod_lt_of_pos x (show (0 : Int) < 4294967296 by decide)
  simp only [wrapF]
  obtain ⟨m, hm⟩ : ∃ m : Nat, x % 4294967296 = m := ⟨(x % 4294967296).toNat, by omega⟩
  rw [hm]
  show Nat.ble m 4294967295 = true
  exact Nat.ble_eq_true_of_le (by omega)
theorem ff_true (n x : Int) : ff n x = true := by unfold ff; rw [fits_wrap, fits_wrap]; rfl
theorem wrap32 {x : Nat} (h : x < 4294967296) : wrapF .u32 (x : Int) = x := by simp only [wrapF]; omega
theorem sN_nat {n x : Nat} (hn : n < 16777216) (hx : x < 256) : sN (n : Int) (x : Int) = ((n * 256 + x : Nat) : Int) := by
  unfold sN
  rw [show (n : Int) * ((2 ^ 8 : Nat) : Int) = ((n * 256 : Nat) : Int) by rw [Int.natCast_mul], wrap32 (by omega), wrap32 (by omega), Int.toNat_natCast, Int.toNat_natCast]
  have := Nat.shiftLeft_add_eq_or_of_lt (i := 8) (b := x) hx n
  rw [Nat.shiftLeft_eq] at this
  exact congrArg (fun y : Nat => (y : Int)) this.symm
theorem sN_zero {x : Nat} (hx : x < 256) : sN 0 (x : Int) = (x : Int) := by
  have := sN_nat (n := 0) (by decide) hx
  rw [Nat.zero_mul, Nat.zero_add] at this
  exact this
theorem calls_s {cells : List Value} {π : List Ans} {cs : List Prop} {len cap : Nat} {ad : Addr} {l : Ev.Loc} (h2 : SRow cells len π cs) (g : ∀ p ∈ cs, p) (W : World)
    (hfit : RowFits W cells l) (hcap : len ≤ cap) (ha : ad = ⟨l.blk, l.shift, none⟩) (hr : l.room = l.shift + cap) (hs : l.size = len) :
    Calls Try.prog 52 ⟨[] ++ .slice (some ad) len cap :: []⟩ W fun e W' => e = .returned (.bool true) ∧ Below W.heap.size W W' :=
  calls_of_row1 (pre := []) (post := []) noEnv_sound good Try.func52 rfl h2 g rfl W hfit rfl rfl hcap ha hr hs
theorem empty_run : runNone Try.prog noEnv 200 52 Try.prog.globals.size = true := by kernel_rfl
theorem v1_nat {y : Nat → Nat} (hy : ∀ i, y i < 256) (k : Nat) : v1 (fun i => ((y i : Nat) : Int)) k = ((y k : Nat) : Int) := by
  unfold v1
  have := hy k
  rw [sN_zero (hy k), wrap64 (by omega) (by omega)]
theorem row_walk (W : World) {ad : Addr} {len cap : Nat} {zs : List Int} {l : Ev.Loc} (hlen : zs.length = len) (hcap : len ≤ cap) (hwf : ∀ n ∈ zs, (Lit.int .u8 n).wf = true) (hfit : RowFits W (zs.map (Value.int .u8)) l)
    (ha : ad = ⟨l.blk, l.shift, none⟩) (hr : l.room = l.shift + cap) (hs : l.size = len) (h60 : len ≤ 60) :
    Calls Try.prog 52 ⟨[.slice (some ad) len cap]⟩ W fun e W' => e = .returned (.bool true) ∧ Below W.heap.size W W' := by
  by_cases h10 : len < 10
  · refine calls_s (short (zs.map (Value.int .u8)) len) ?_ W hfit hcap ha hr hs
    have : decide (((len : Nat) : Int) < 10) = true := decide_eq_true (by omega)
    simp [this]
  obtain ⟨y, hyz, hy⟩ : ∃ y : Nat → Nat, (fun i => zs.getD i 0) = (fun i => ((y i : Nat) : Int)) ∧ ∀ i, y i < 256 := by
    have each : ∀ i, 0 ≤ zs.getD i 0 ∧ zs.getD i 0 < 256 := by
      intro i
      by_cases hi : i < zs.length
      · have hm : zs.getD i 0 ∈ zs := by
          rw [List.getD_eq_getElem?_getD, List.getElem?_eq_getElem hi]; exact List.getElem_mem hi
        have := hwf _ hm
        simp [Lit.wf, IntKind.min, IntKind.max, IntKind.signed, IntKind.bits] at this
        simp only [List.getD_eq_getElem?_getD] at *
        omega
      · rw [List.getD_eq_getElem?_getD, List.getElem?_eq_none (by omega)]; simp
    refine ⟨fun i => (zs.getD i 0).toNat, funext fun i => ?_, fun i => ?_⟩
    · have := each i
      show zs.getD i 0 = (((zs.getD i 0).toNat : Nat) : Int)
      omega
    · have := each i
      show (zs.getD i 0).toNat < 256
      omega
  rw [mkI_all, hlen, hyz] at hfit
  have w0 := v1_nat hy 0
  have w9 := v1_nat hy 9
  have hy9 := hy 9
  by_cases hv : y 0 = 4
  case neg =>
    have vT : verC (fun i => ((y i : Nat) : Int)) true := by unfold verC; rw [w0, decide_eq_false (by omega)]; rfl
    have fin : ∀ p ∈ cV (fun i => ((y i : Nat) : Int)), p := by
      simp only [cV, List.forall_mem_cons, ff_true]
      simp [vT]
    by_cases h11 : len = 10
    · subst h11; exact calls_s (tenV _) fin W hfit hcap ha hr hs
    · exact calls_s (rowsV _ len (by omega) h60) fin W hfit hcap ha hr hs
  have vF : verC (fun i => ((y i : Nat) : Int)) false := by unfold verC; rw [w0, decide_eq_true (by omega)]; rfl
  have wl : wrapF .i64 ((len : Int) - 10) = ((len - 10 : Nat) : Int) := by rw [wrap64 (by omega) (by omega)]; omega
  by_cases ho : y 9 = len - 10
  case neg =>
    have oT : optC (fun i => ((y i : Nat) : Int)) len true := by unfold optC; rw [w9, wl, decide_eq_false (by omega)]; rfl
    have fin : ∀ p ∈ cO (fun i => ((y i : Nat) : Int)) len, p := by
      simp only [cO, bodyC, List.forall_mem_cons, ff_true]
      simp [vF, oT]
    by_cases h11 : len = 10
    · subst h11; exact calls_s (tenO _) fin W hfit hcap ha hr hs
    · exact calls_s (rowsO _ len (by omega) h60) fin W hfit hcap ha hr hs
  have oF : optC (fun i => ((y i : Nat) : Int)) len false := by unfold optC; rw [w9, wl, decide_eq_true (by omega)]; rfl
  by_cases h11 : len = 10
  case neg =>
    have mT : moreC (fun i => ((y i : Nat) : Int)) true := by unfold moreC; rw [w9]; exact decide_eq_true (by omega)
    refine calls_s (rowsP _ len (by omega) h60) ?_ W hfit hcap ha hr hs
    simp only [cP, bodyC, List.forall_mem_cons, ff_true]
    simp [vF, oF, mT]
  subst h11
  have m0 : moreC (fun i => ((y i : Nat) : Int)) false := by unfold moreC; rw [w9]; exact decide_eq_false (by omega)
  have p1 := hy 1
  have p2 := hy 2
  have p3 := hy 3
  have p4 := hy 4
  have p5 := hy 5
  have p6 := hy 6
  have p7 := hy 7
  have p8 := hy 8
  obtain ⟨A, hA⟩ : ∃ A : Nat, A = y 1 * 256 + y 2 := ⟨_, rfl⟩
  obtain ⟨H, hH⟩ : ∃ H : Nat, H = y 3 * 256 + y 4 := ⟨_, rfl⟩
  obtain ⟨I, hI⟩ : ∃ I : Nat, I = ((y 5 * 256 + y 6) * 256 + y 7) * 256 + y 8 := ⟨_, rfl⟩
  have tA : Value.int .u32 (two (fun i => ((y i : Nat) : Int)) 1) = Value.int .u32 (A : Nat) := by
    unfold two; simp only; rw [sN_zero p1, sN_nat (by omega) p2, hA]
  have tH : Value.int .u32 (two (fun i => ((y i : Nat) : Int)) 3) = Value.int .u32 (H : Nat) := by
    unfold two; simp only; rw [sN_zero p3, sN_nat (by omega) p4, hH]
  have tI : Value.int .u32 (id4 (fun i => ((y i : Nat) : Int))) = Value.int .u32 (I : Nat) := by
    unfold id4; simp only; rw [sN_zero p5, sN_nat (by omega) p6, sN_nat (by omega) p7, sN_nat (by omega) p8, hI]
  have wA : wrapF .i64 (A : Int) = A := wrap64 (by omega) (by omega)
  have wH : wrapF .i64 (H : Int) = H := wrap64 (by omega) (by omega)
  have hle : decide ((H : Int) ≤ 65535) = true := decide_eq_true (by omega)
  have refl1 : decide ((I : Int) = (I : Int)) = true := decide_eq_true rfl
  have refl2 : decide ((H : Int) = (H : Int)) = true := decide_eq_true rfl
  have refl3 : decide ((A : Int) = (A : Int)) = true := decide_eq_true rfl
  by_cases hh0 : H = 0
  · have f0 : decide ((H : Int) = 0) = true := decide_eq_true (by omega)
    have f1 : decide ((H : Int) = 1) = false := decide_eq_false (by omega)
    have f2 : decide ((H : Int) = 2) = false := decide_eq_false (by omega)
    by_cases hi : I = 0
    · have i0 : decide ((I : Int) = 0) = true := decide_eq_true (by omega)
      refine calls_s (tenJ (fun i => ((y i : Nat) : Int)) (A : Nat) (H : Nat) (I : Nat)) ?_ W hfit hcap ha hr hs
      simp only [kJ, List.forall_mem_cons, ff_true, tA, tH, tI, wA, wH, f0, f1, f2, i0]
      simp [vF, oF, m0]
    · have i0 : decide ((I : Int) = 0) = false := decide_eq_false (by omega)
      by_cases hA0 : A = 0
      · have a0 : decide ((A : Int) = 0) = true := decide_eq_true (by omega)
        refine calls_s (tenB (fun i => ((y i : Nat) : Int)) (A : Nat) (H : Nat) (I : Nat)) ?_ W hfit hcap ha hr hs
        simp only [kB, List.forall_mem_cons, ff_true, tA, tH, tI, wA, wH, f0, f1, f2, i0, a0]
        simp [vF, oF, m0]
      · have a0 : decide ((A : Int) = 0) = false := decide_eq_false (by omega)
        refine calls_s (tenF (fun i => ((y i : Nat) : Int)) (A : Nat) (H : Nat) (I : Nat)) ?_ W hfit hcap ha hr hs
        simp only [kF, List.forall_mem_cons, ff_true, tA, tH, tI, wA, wH, f0, f1, f2, i0, a0, refl1, refl2, refl3]
        simp [vF, oF, m0]
  have f0 : decide ((H : Int) = 0) = false := decide_eq_false (by omega)
  by_cases hh1 : H = 1
  · have f1 : decide ((H : Int) = 1) = true := decide_eq_true (by omega)
    have f3 : decide ((H : Int) ≥ 3) = false := decide_eq_false (by omega)
    refine calls_s (tenK (fun i => ((y i : Nat) : Int)) (A : Nat) (H : Nat) (I : Nat)) ?_ W hfit hcap ha hr hs
    simp only [kK, List.forall_mem_cons, ff_true, tA, tH, tI, wA, wH, f0, f1, f3]
    simp [vF, oF, m0]
  have f1 : decide ((H : Int) = 1) = false := decide_eq_false (by omega)
  by_cases hh2 : H = 2
  · have f2 : decide ((H : Int) = 2) = true := decide_eq_true (by omega)
    have f3 : decide ((H : Int) ≥ 3) = false := decide_eq_false (by omega)
    refine calls_s (tenH (fun i => ((y i : Nat) : Int)) (A : Nat) (H : Nat) (I : Nat)) ?_ W hfit hcap ha hr hs
    simp only [kH, List.forall_mem_cons, ff_true, tA, tH, tI, wA, wH, f0, f1, f2, f3]
    simp [vF, oF, m0]
  have f2 : decide ((H : Int) = 2) = false := decide_eq_false (by omega)
  have f3 : decide ((H : Int) ≥ 3) = true := decide_eq_true (by omega)
  by_cases hi : I = 0
  · have i0 : decide ((I : Int) = 0) = true := decide_eq_true (by omega)
    refine calls_s (tenI (fun i => ((y i : Nat) : Int)) (A : Nat) (H : Nat) (I : Nat)) ?_ W hfit hcap ha hr hs
    simp only [kI, List.forall_mem_cons, ff_true, tA, tH, tI, wA, wH, f0, f1, f2, f3, hle, i0]
    simp [vF, oF, m0]
  have i0 : decide ((I : Int) = 0) = false := decide_eq_false (by omega)
  by_cases hA0 : A = 0
  · have a0 : decide ((A : Int) = 0) = true := decide_eq_true (by omega)
    refine calls_s (tenA (fun i => ((y i : Nat) : Int)) (A : Nat) (H : Nat) (I : Nat)) ?_ W hfit hcap ha hr hs
    simp only [kA, List.forall_mem_cons, ff_true, tA, tH, tI, wA, wH, f0, f1, f2, f3, hle, i0, a0]
    simp [vF, oF, m0]
  have a0 : decide ((A : Int) = 0) = false := decide_eq_false (by omega)
  refine calls_s (tenG (fun i => ((y i : Nat) : Int)) (A : Nat) (H : Nat) (I : Nat)) ?_ W hfit hcap ha hr hs
  simp only [kG, List.forall_mem_cons, ff_true, tA, tH, tI, wA, wH, f0, f1, f2, f3, hle, i0, a0, refl1, refl2, refl3]
  simp [vF, oF, m0]
theorem read_sum : RowSum Try.prog 52 .u8 60 (.bool true) where
  flat := rfl
  calls := by
    refine ⟨_, _, Try.func52, by kernel_rfl, rfl, fun W v hv hl => ?_⟩
    rcases hv with hv | ⟨x, rfl⟩
    · rcases hv with rfl | ⟨a, len, cap, zs, l, rfl, hlen, hcap, hwf, hfit, ha, hr, hs⟩
      · exact calls_of_run noEnv_sound good Try.func52 rfl none_run (by simp) rfl rfl W
      · exact row_walk W hlen hcap hwf hfit ha hr hs hl
    · exact calls_of_none noEnv_sound good Try.func52 rfl empty_run W x
end OpenRead
end Go.Proofs.Ytddlejbcnjmfmaa
