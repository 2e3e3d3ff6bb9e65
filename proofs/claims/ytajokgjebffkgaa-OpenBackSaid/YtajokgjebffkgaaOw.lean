/- OpenBack: the walk. -/
import Derived.Test.YtajokgjebffkgaaOe
namespace Go.Proofs.Ytajokgjebffkgaa
open Go Go.Ev Go.RowKit
set_option maxRecDepth 100000
namespace OpenBack
theorem fits_wrap (x : Int) : fitsU .u32 (wrapF .u32 x) = true := by
  have h1 := Int.emod_nonneg x (show (4294967296 : Int) ≠ 0 by decide)
  have h2 := Int.emod_lt_of_pos x (show (0 : Int) < 4294967296 by decide)
  simp only [wrapF]
  obtain ⟨m, hm⟩ : ∃ m : Nat, x % 4294967296 = m := ⟨(x % 4294967296).toNat, by omega⟩
  rw [hm]
  show Nat.ble m 4294967295 = true
  exact Nat.ble_eq_true_of_le (by omega)
theorem ff_true (n x : Int) : ff n x = true := by unfold ff; rw [fits_wrap, fits_wrap]; rfl
theorem wrap32 {x : Nat} (h : x < 4294967296) : wrapF .u32 (x : Int) = x := by simp only [wrapF]; omega
theorem fdiv_nat (x k : Nat) : (x : Int).fdiv ((k : Nat) : Int) = ((x / k : Nat) : Int) := by
  rw [Int.fdiv_eq_ediv_of_nonneg _ (by omega)]; exact (Int.natCast_ediv x k).symm
theorem b8_nat (x k : Nat) : b8 (x : Int) k = ((x / 2 ^ (8 * k) % 256 : Nat) : Int) := by
  unfold b8; rw [fdiv_nat]; simp only [wrapF]; omega
theorem sN_nat {n x : Nat} (hn : n < 16777216) (hx : x < 256) : sN (n : Int) (x : Int) = ((n * 256 + x : Nat) : Int) := by
  unfold sN
  rw [show (n : Int) * ((2 ^ 8 : Nat) : Int) = ((n * 256 : Nat) : Int) by rw [Int.natCast_mul], wrap32 (by omega), wrap32 (by omega), Int.toNat_natCast, Int.toNat_natCast]
  have := Nat.shiftLeft_add_eq_or_of_lt (i := 8) (b := x) hx n
  rw [Nat.shiftLeft_eq] at this
  exact congrArg (fun y : Nat => (y : Int)) this.symm
theorem sN_zero {x : Nat} (hx : x < 256) : sN 0 (x : Int) = (x : Int) := by
  have := sN_nat (n := 0) (by decide) hx
  rw [Nat.zero_mul, Nat.zero_add] at this
  exact this
theorem t2_nat {n : Nat} (h : n < 65536) : t2 (n : Int) = n := by
  unfold t2 t1
  rw [wrap32 (by omega), b8_nat, b8_nat, sN_zero (Nat.mod_lt _ (by decide)), sN_nat (by have := Nat.mod_lt (n / 2 ^ (8 * 1)) (show 0 < 256 by decide); omega) (Nat.mod_lt _ (by decide))]
  simp only [Nat.mul_one, Nat.mul_zero, Nat.pow_zero, Nat.div_one, show (2 : Nat) ^ 8 = 256 from rfl]
  congr 1; omega
theorem s4_nat {n : Nat} (h : n < 4294967296) : s4 (n : Int) = n := by
  unfold s4 s3 s2 s1
  have m : ∀ y : Nat, y % 256 < 256 := fun y => Nat.mod_lt _ (by decide)
  rw [b8_nat, b8_nat, b8_nat, b8_nat, sN_zero (m _)]
  rw [sN_nat (by have := m (n / 2 ^ (8 * 3)); omega) (m _)]
  rw [sN_nat (by have := m (n / 2 ^ (8 * 3)); have := m (n / 2 ^ (8 * 2)); omega) (m _)]
  rw [sN_nat (by have := m (n / 2 ^ (8 * 3)); have := m (n / 2 ^ (8 * 2)); have := m (n / 2 ^ (8 * 1)); omega) (m _)]
  simp only [Nat.mul_one, Nat.mul_zero, Nat.pow_zero, Nat.div_one, show (2 : Nat) ^ (8 * 3) = 16777216 from rfl, show (2 : Nat) ^ (8 * 2) = 65536 from rfl, show (2 : Nat) ^ 8 = 256 from rfl]
  congr 1; omega
theorem cb_nat {n : Nat} (h : n < 256) : cbC (n : Int) := by
  unfold cbC
  rw [wrap64 (x := (n : Int)) (by omega) (by omega), wrap32 (by omega), b8_nat]
  simp only [Nat.mul_zero, Nat.pow_zero, Nat.div_one]
  rw [wrap64 (by omega) (by omega)]
  exact decide_eq_true (by omega)
theorem str_refl (z : Nat → Int) (L : Nat) : strC z L := by unfold strC; exact beq_self_eq_true _
theorem calls_n {w1 w2 i c s k : Int} {π : List Ans} {cs : List Prop} (h1 : NRow w1 w2 i c s k π cs) (g : ∀ p ∈ cs, p) (W : World) :
    Calls Try.prog 9 ⟨[.int .i64 w1, .int .i64 w2, .int .u32 i, .int .u8 c, .int .u8 s, .slice none 0 0, .int .i64 k]⟩ W fun e W' => e = .returned (.bool true) ∧ Below W.heap.size W W' :=
  calls_of_run E1_sound good Try.func9 rfl h1 g rfl rfl W
theorem calls_s {w1 w2 i c s k : Int} {cells : List Value} {π : List Ans} {cs : List Prop} {len cap : Nat} {ad : Addr} {l : Ev.Loc} (h2 : SRow w1 w2 i c s k cells len π cs) (g : ∀ p ∈ cs, p) (W : World)
    (hfit : RowFits W cells l) (hcap : len ≤ cap) (ha : ad = ⟨l.blk, l.shift, none⟩) (hr : l.room = l.shift + cap) (hs : l.size = len) :
    Calls Try.prog 9 ⟨pre w1 w2 i c s ++ .slice (some ad) len cap :: [.int .i64 k]⟩ W fun e W' => e = .returned (.bool true) ∧ Below W.heap.size W W' :=
  calls_of_row1 (pre := pre w1 w2 i c s) (post := [.int .i64 k]) E1_sound good Try.func9 rfl h2 g rfl W hfit rfl rfl hcap ha hr hs
theorem walk (w1 w2 i c s : Int) (v : Value) (k : Int) (_ : (Lit.int .i64 w1).wf = true) (_ : (Lit.int .i64 w2).wf = true) (wi : (Lit.int .u32 i).wf = true) (wc : (Lit.int .u8 c).wf = true) (ws : (Lit.int .u8 s).wf = true) (_ : (Lit.int .i64 k).wf = true) (W : World) (hv : IntsArg W .u8 v) :
    Calls Try.prog 9 #[.int .i64 w1, .int .i64 w2, .int .u32 i, .int .u8 c, .int .u8 s, v, .int .i64 k] W fun e W' => e = .returned (.bool true) ∧ Below W.heap.size W W' := by
  have hi : 0 ≤ i ∧ i < 4294967296 := by simp [Lit.wf, IntKind.min, IntKind.max, IntKind.signed, IntKind.bits] at wi; omega
  have hc : 0 ≤ c ∧ c < 256 := by simp [Lit.wf, IntKind.min, IntKind.max, IntKind.signed, IntKind.bits] at wc; omega
  have hs8 : 0 ≤ s ∧ s < 256 := by simp [Lit.wf, IntKind.min, IntKind.max, IntKind.signed, IntKind.bits] at ws; omega
  obtain ⟨i, rfl⟩ : ∃ x : Nat, i = x := ⟨i.toNat, by omega⟩
  obtain ⟨c, rfl⟩ : ∃ x : Nat, c = x := ⟨c.toNat, by omega⟩
  obtain ⟨s, rfl⟩ : ∃ x : Nat, s = x := ⟨s.toNat, by omega⟩
  have m1 := Int.emod_nonneg w1 (show (65535 : Int) ≠ 0 by decide)
  have m2 := Int.emod_lt_of_pos w1 (show (0 : Int) < 65535 by decide)
  have m3 := Int.emod_nonneg w2 (show (65533 : Int) ≠ 0 by decide)
  have m4 := Int.emod_lt_of_pos w2 (show (0 : Int) < 65533 by decide)
  have m5 := Int.emod_nonneg k (show (10 : Int) ≠ 0 by decide)
  have m6 := Int.emod_lt_of_pos k (show (0 : Int) < 10 by decide)
  have h1 : withinV w1 0 65534 = w1 % 65535 := by unfold withinV; rw [Int.zero_add]; rfl
  have h2 : withinV w2 0 65532 = w2 % 65533 := by unfold withinV; rw [Int.zero_add]; rfl
  have h3 : withinV k 0 9 = k % 10 := by unfold withinV; rw [Int.zero_add]; rfl
  obtain ⟨A, hA⟩ : ∃ x : Nat, w1 % 65535 = x := ⟨(w1 % 65535).toNat, by omega⟩
  obtain ⟨B, hB⟩ : ∃ x : Nat, w2 % 65533 = x := ⟨(w2 % 65533).toNat, by omega⟩
  obtain ⟨Q, hQ⟩ : ∃ x : Nat, k % 10 = x := ⟨(k % 10).toNat, by omega⟩
  rw [hA] at h1; rw [hB] at h2; rw [hQ] at h3
  have e1 : wrapF .i64 (1 + (A : Int)) = ((1 + A : Nat) : Int) := by rw [wrap64 (by omega) (by omega)]; omega
  have e2 : wrapF .i64 (3 + (B : Int)) = ((3 + B : Nat) : Int) := by rw [wrap64 (by omega) (by omega)]; omega
  have f1 : (fitsU .u32 (i : Int) && fitsU .u32 1) = true := by
    have : fitsU .u32 (i : Int) = true := Nat.ble_eq_true_of_le (show i ≤ 4294967295 by omega)
    rw [this]; rfl
  have hd : (i ||| 1) < 4294967296 := Nat.or_lt_two_pow (n := 32) (by omega) (by decide)
  have hd0 : (i ||| 1) ≠ 0 := by
    intro h0
    have : (i ||| 1).testBit 0 = true := by rw [Nat.testBit_or]; simp
    rw [h0] at this; simp at this
  have e3 : (((i : Int).toNat ||| Int.toNat 1 : Nat) : Int) = ((i ||| 1 : Nat) : Int) := by rw [Int.toNat_natCast]; rfl
  have wa : wrapF .i64 ((1 + A : Nat) : Int) = ((1 + A : Nat) : Int) := wrap64 (by omega) (by omega)
  have wh : wrapF .i64 ((3 + B : Nat) : Int) = ((3 + B : Nat) : Int) := wrap64 (by omega) (by omega)
  have ta : t2 ((1 + A : Nat) : Int) = ((1 + A : Nat) : Int) := t2_nat (by omega)
  have th : t2 ((3 + B : Nat) : Int) = ((3 + B : Nat) : Int) := t2_nat (by omega)
  have td : s4 ((i ||| 1 : Nat) : Int) = ((i ||| 1 : Nat) : Int) := s4_nat hd
  have d1 : decide (((1 + A : Nat) : Int) < 1) = false := decide_eq_false (by omega)
  have d2 : decide (((1 + A : Nat) : Int) > 65535) = false := decide_eq_false (by omega)
  have d3 : decide (((1 + A : Nat) : Int) = 0) = false := decide_eq_false (by omega)
  have d4 : decide (((3 + B : Nat) : Int) = 0) = false := decide_eq_false (by omega)
  have d5 : decide (((3 + B : Nat) : Int) ≥ 3) = true := decide_eq_true (by omega)
  have d6 : decide (((3 + B : Nat) : Int) ≤ 65535) = true := decide_eq_true (by omega)
  have d7 : decide (((i ||| 1 : Nat) : Int) = 0) = false := decide_eq_false (by omega)
  have q1 : decide ((0 : Int) ≤ (Q : Int) ∧ (Q : Int) ≤ ((10 : Nat) : Int)) = true := decide_eq_true (by omega)
  have q2 : decide ((((Q : Int).toNat - 0 : Nat) : Int) < 10) = true := decide_eq_true (by omega)
  have bc : cbC (c : Int) := cb_nat (by omega)
  have bs : cbC (s : Int) := cb_nat (by omega)
  have eqs : (!(((1 + A : Nat) : Int) == ((1 + A : Nat) : Int) && (((3 + B : Nat) : Int) == ((3 + B : Nat) : Int) && (((i ||| 1 : Nat) : Int) == ((i ||| 1 : Nat) : Int) && true)))) = false := by simp only [beq_self_eq_true, Bool.and_self, Bool.not_true]
  rcases hv with rfl | ⟨ad, len, cap, zs, l, rfl, hlen, hcap, _, hfit, ha, hr, hs⟩
  · refine calls_n (n0 w1 w2 i c s k A B ((1 + A : Nat) : Int) ((3 + B : Nat) : Int) ((i ||| 1 : Nat) : Int) Q) ?_ W
    simp only [cN0, List.forall_mem_cons, h1, h2, h3, e1, e2, e3, f1, wa, wh, ta, th, td, d1, d2, d3, d4, d5, d6, d7, q1, q2, eqs, ff_true]
    simp [bc, bs]
  · by_cases hL : len ≤ 100
    · rw [mkI_all, hlen] at hfit
      rcases Nat.eq_zero_or_pos len with h0 | h0
      · subst h0
        refine calls_s (r0 w1 w2 i c s k A B ((1 + A : Nat) : Int) ((3 + B : Nat) : Int) ((i ||| 1 : Nat) : Int) Q _) ?_ W hfit hcap ha hr hs
        simp only [cR0, List.forall_mem_cons, h1, h2, h3, e1, e2, e3, f1, wa, wh, ta, th, td, d1, d2, d3, d4, d5, d6, d7, q1, q2, eqs, ff_true]
        simp [bc, bs]
      · refine calls_s (rows w1 w2 i c s k A B ((1 + A : Nat) : Int) ((3 + B : Nat) : Int) ((i ||| 1 : Nat) : Int) Q _ len h0 hL) ?_ W hfit hcap ha hr hs
        simp only [cR3, List.forall_mem_cons, h1, h2, h3, e1, e2, e3, f1, wa, wh, ta, th, td, d1, d2, d3, d4, d5, d6, d7, q1, q2, eqs, ff_true]
        simp [bc, bs, str_refl]
    · have hsz : (⟨mkI .u8 (fun i => zs.getD i 0) 101 ++ (zs.drop 101).map (Value.int .u8)⟩ : Array Value).size = len := by
        rw [← mkI_of zs 101 (by omega)]; simp [hlen]
      rw [mkI_of zs 101 (by omega)] at hfit
      refine calls_s (l0 w1 w2 i c s k A B ((1 + A : Nat) : Int) ((3 + B : Nat) : Int) ((i ||| 1 : Nat) : Int) Q _ _ len) ?_ W hfit hcap ha hr hs
      have c1 : capB (fun i => zs.getD i 0) ((zs.drop 101).map (Value.int .u8)) = true := by
        unfold capB
        rw [hsz]
        exact decide_eq_true ⟨by decide, by rw [Nat.sub_zero, Nat.div_one]; omega⟩
      have c2 : decide (((len : Nat) : Int) > 100) = true := decide_eq_true (by omega)
      simp only [cL0, List.forall_mem_cons, h1, h2, h3, e1, e2, e3, f1, wa, wh, ta, th, td, d1, d2, d3, d4, d5, d6, d7, q1, q2, eqs, ff_true, c1, c2]
      simp [bc, bs, str_refl]
end OpenBack
end Go.Proofs.Ytajokgjebffkgaa
