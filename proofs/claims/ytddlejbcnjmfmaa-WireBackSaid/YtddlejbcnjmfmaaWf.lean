/- P4.1: what is written is read: the conditions of a round that reads. -/
import Derived.Test.YtddlejbcnjmfmaaWt
namespace Go.Proofs.Ytddlejbcnjmfmaa
open Go Go.Ev Go.RowKit
set_option maxRecDepth 100000
set_option linter.unusedVariables false
set_option linter.unusedSimpArgs false
namespace WireBk
/-- What a round that reads finds: 'nb' bytes behind the seven of a number. -/
structure RdF (n T o i nb : Nat) (x y0 y1 y2 y3 y4 y5 y6 : Int) (A C : Array Value) (B0 : List Value) : Prop where
  size : C.size = T
  room : o + 7 + nb ≤ T
  most : T ≤ 100000
  small : nb ≤ 50
  lt : i < n
  word : 0 + i * 3 + 1 + 1 ≤ A.size ∧ A.extract (0 + i * 3 + 1) (0 + i * 3 + 1 + 1) = #[.int .i64 x]
  b0 : C.extract o (o + 1) = #[.int .u8 y0]
  b1 : C.extract (o + 1) (o + 1 + 1) = #[.int .u8 y1]
  b2 : C.extract (o + 2) (o + 2 + 1) = #[.int .u8 y2]
  b3 : C.extract (o + 3) (o + 3 + 1) = #[.int .u8 y3]
  b4 : C.extract (o + 4) (o + 4 + 1) = #[.int .u8 y4]
  b5 : C.extract (o + 5) (o + 5 + 1) = #[.int .u8 y5]
  b6 : C.extract (o + 6) (o + 6 + 1) = #[.int .u8 y6]
  v0 : y0 = x % 256
  v1 : y1 = x / 256 % 256
  v2 : y2 = x % 256
  v3 : y3 = x / 16777216 % 256
  v4 : y4 = x / 65536 % 256
  v5 : y5 = x / 256 % 256
  v6 : y6 = x % 256
theorem ext_c {C : Array Value} {p a : Nat} {v : Array Value} (h : C.extract p (p + 1) = v) (ha : a = p) (hs : p + 1 ≤ C.size) : a + 1 ≤ C.size ∧ C.extract a (a + 1) = v := by subst ha; exact ⟨hs, h⟩
theorem S5 : Try.prog.types[5].size = 1 := by kernel_rfl
theorem S31 : Try.prog.types[31].size = 3 := by kernel_rfl
theorem w64 {x : Int} (h1 : -9223372036854775808 ≤ x) (h2 : x < 9223372036854775808) : wrapF .i64 x = x := by simp only [wrapF]; split <;> omega
theorem fits32 (z : Int) : fitsU .u32 (wrapF .u32 z) = true := by
  simp only [wrapF]
  obtain ⟨m, hm⟩ : ∃ m : Nat, z % 4294967296 = (m : Int) := ⟨(z % 4294967296).toNat, by omega⟩
  rw [hm]
  show Nat.ble m 4294967295 = true
  exact Nat.ble_eq_true_of_le (by omega)
section
variable (o nb T : Nat)
theorem E1 (h : o ≤ 100000) : wrapF .i64 (Int.ofNat o + 1) = ((o + 1 : Nat) : Int) := by rw [w64 (by show -9223372036854775808 ≤ (o : Int) + 1; omega) (by show (o : Int) + 1 < _; omega)]; rfl
theorem E2 (h : o ≤ 100000) : wrapF .i64 (((o + 1 : Nat) : Int) + 2) = ((o + 3 : Nat) : Int) := by rw [w64 (by omega) (by omega)]; omega
theorem E3 (h : o ≤ 100000) : wrapF .i64 (((o + 3 : Nat) : Int) + 4) = ((o + 7 : Nat) : Int) := by rw [w64 (by omega) (by omega)]; omega
theorem E4 (h : o ≤ 100000) (h2 : nb ≤ 50) : wrapF .i64 (((o + 7 : Nat) : Int) + (nb : Int)) = ((o + 7 + nb : Nat) : Int) := by rw [w64 (by omega) (by omega)]; omega
theorem D1 (h : o ≤ 100000) : wrapF .i64 (((o + 1 : Nat) : Int) - 1) = ((o : Nat) : Int) := by rw [w64 (by omega) (by omega)]; omega
theorem D2 (h : o ≤ 100000) : wrapF .i64 (((o + 3 : Nat) : Int) - 2) = ((o + 1 : Nat) : Int) := by rw [w64 (by omega) (by omega)]; omega
theorem D3 (h : o ≤ 100000) : wrapF .i64 (((o + 7 : Nat) : Int) - 4) = ((o + 3 : Nat) : Int) := by rw [w64 (by omega) (by omega)]; omega
theorem D4 (h : o ≤ 100000) (h2 : nb ≤ 50) : wrapF .i64 (((o + 7 + nb : Nat) : Int) - (nb : Int)) = ((o + 7 : Nat) : Int) := by rw [w64 (by omega) (by omega)]; omega
theorem T0 (h : T ≤ 100000) (h2 : o ≤ T) : wrapF .i64 ((T : Int) - Int.ofNat o) = ((T - o : Nat) : Int) := by rw [w64 (by show -9223372036854775808 ≤ (T : Int) - (o : Int); omega) (by show (T : Int) - (o : Int) < _; omega)]; show (T : Int) - (o : Int) = _; omega
theorem TQ (h : T ≤ 100000) (h2 : o ≤ T) : wrapF .i64 ((T : Int) - ((o : Nat) : Int)) = ((T - o : Nat) : Int) := by rw [w64 (by omega) (by omega)]; omega
end
theorem k1 : wrapF .i64 (0 + 1) = 1 := by decide
theorem k2 : wrapF .i64 (1 + 1) = 2 := by decide
theorem k3 : wrapF .i64 (2 + 1) = 3 := by decide
theorem k4 : wrapF .i64 (3 + 1) = 4 := by decide
theorem f_c4 {n T o i nb : Nat} {x y0 y1 y2 y3 y4 y5 y6 : Int} {A C : Array Value} {B0 : List Value} {cs ds : Array Value} {l k : List UInt8} (h : RdF n T o i nb x y0 y1 y2 y3 y4 y5 y6 A C B0) : c4 n T o i nb x y0 y1 y2 y3 y4 y5 y6 A C B0 cs ds l k := by
  have a1 := E1 o (by have := h.room; have := h.most; omega)
  have a2 := E2 o (by have := h.room; have := h.most; omega)
  have a3 := E3 o (by have := h.room; have := h.most; omega)
  have a4 := E4 o nb (by have := h.room; have := h.most; omega) h.small
  have d1 := D1 o (by have := h.room; have := h.most; omega)
  have d2 := D2 o (by have := h.room; have := h.most; omega)
  have d3 := D3 o (by have := h.room; have := h.most; omega)
  have d4 := D4 o nb (by have := h.room; have := h.most; omega) h.small
  have t0 := T0 o T h.most (by have := h.room; omega)
  have t1 := TQ (o + 1) T h.most (by have := h.room; omega)
  have t2 := TQ (o + 3) T h.most (by have := h.room; omega)
  have t3 := TQ (o + 7) T h.most (by have := h.room; omega)
  have hs := h.size
  have hr := h.room
  have hl := h.lt
  have hsm := h.small
  unfold c4
  simp only [a1, a2, a3, a4, d1, d2, d3, d4, t0, t1, t2, t3, k1, k2, k3, k4, S5, S31, cObj, aObj, Int.toNat_natCast, decide_eq_true_eq, decide_eq_false_iff_not, beq_eq_false_iff_ne, ne_eq]
  omega
theorem f_c6 {n T o i nb : Nat} {x y0 y1 y2 y3 y4 y5 y6 : Int} {A C : Array Value} {B0 : List Value} {cs ds : Array Value} {l k : List UInt8} (h : RdF n T o i nb x y0 y1 y2 y3 y4 y5 y6 A C B0) : c6 n T o i nb x y0 y1 y2 y3 y4 y5 y6 A C B0 cs ds l k := by
  have a1 := E1 o (by have := h.room; have := h.most; omega)
  have a2 := E2 o (by have := h.room; have := h.most; omega)
  have a3 := E3 o (by have := h.room; have := h.most; omega)
  have a4 := E4 o nb (by have := h.room; have := h.most; omega) h.small
  have d1 := D1 o (by have := h.room; have := h.most; omega)
  have d2 := D2 o (by have := h.room; have := h.most; omega)
  have d3 := D3 o (by have := h.room; have := h.most; omega)
  have d4 := D4 o nb (by have := h.room; have := h.most; omega) h.small
  have t0 := T0 o T h.most (by have := h.room; omega)
  have t1 := TQ (o + 1) T h.most (by have := h.room; omega)
  have t2 := TQ (o + 3) T h.most (by have := h.room; omega)
  have t3 := TQ (o + 7) T h.most (by have := h.room; omega)
  have hs := h.size
  have hr := h.room
  have hl := h.lt
  have hsm := h.small
  unfold c6
  simp only [a1, a2, a3, a4, d1, d2, d3, d4, t0, t1, t2, t3, k1, k2, k3, k4, S5, S31, cObj, aObj, Int.toNat_natCast, decide_eq_true_eq, decide_eq_false_iff_not, beq_eq_false_iff_ne, ne_eq]
  omega
theorem f_c7 {n T o i nb : Nat} {x y0 y1 y2 y3 y4 y5 y6 : Int} {A C : Array Value} {B0 : List Value} {cs ds : Array Value} {l k : List UInt8} (h : RdF n T o i nb x y0 y1 y2 y3 y4 y5 y6 A C B0) : c7 n T o i nb x y0 y1 y2 y3 y4 y5 y6 A C B0 cs ds l k := by
  have a1 := E1 o (by have := h.room; have := h.most; omega)
  have a2 := E2 o (by have := h.room; have := h.most; omega)
  have a3 := E3 o (by have := h.room; have := h.most; omega)
  have a4 := E4 o nb (by have := h.room; have := h.most; omega) h.small
  have d1 := D1 o (by have := h.room; have := h.most; omega)
  have d2 := D2 o (by have := h.room; have := h.most; omega)
  have d3 := D3 o (by have := h.room; have := h.most; omega)
  have d4 := D4 o nb (by have := h.room; have := h.most; omega) h.small
  have t0 := T0 o T h.most (by have := h.room; omega)
  have t1 := TQ (o + 1) T h.most (by have := h.room; omega)
  have t2 := TQ (o + 3) T h.most (by have := h.room; omega)
  have t3 := TQ (o + 7) T h.most (by have := h.room; omega)
  have hs := h.size
  have hr := h.room
  have hl := h.lt
  have hsm := h.small
  unfold c7
  simp only [a1, a2, a3, a4, d1, d2, d3, d4, t0, t1, t2, t3, k1, k2, k3, k4, S5, S31, cObj, aObj, Int.toNat_natCast, decide_eq_true_eq, decide_eq_false_iff_not, beq_eq_false_iff_ne, ne_eq]
  omega
theorem f_c8 {n T o i nb : Nat} {x y0 y1 y2 y3 y4 y5 y6 : Int} {A C : Array Value} {B0 : List Value} {cs ds : Array Value} {l k : List UInt8} (h : RdF n T o i nb x y0 y1 y2 y3 y4 y5 y6 A C B0) : c8 n T o i nb x y0 y1 y2 y3 y4 y5 y6 A C B0 cs ds l k := by
  have a1 := E1 o (by have := h.room; have := h.most; omega)
  have a2 := E2 o (by have := h.room; have := h.most; omega)
  have a3 := E3 o (by have := h.room; have := h.most; omega)
  have a4 := E4 o nb (by have := h.room; have := h.most; omega) h.small
  have d1 := D1 o (by have := h.room; have := h.most; omega)
  have d2 := D2 o (by have := h.room; have := h.most; omega)
  have d3 := D3 o (by have := h.room; have := h.most; omega)
  have d4 := D4 o nb (by have := h.room; have := h.most; omega) h.small
  have t0 := T0 o T h.most (by have := h.room; omega)
  have t1 := TQ (o + 1) T h.most (by have := h.room; omega)
  have t2 := TQ (o + 3) T h.most (by have := h.room; omega)
  have t3 := TQ (o + 7) T h.most (by have := h.room; omega)
  have hs := h.size
  have hr := h.room
  have hl := h.lt
  have hsm := h.small
  unfold c8
  simp only [a1, a2, a3, a4, d1, d2, d3, d4, t0, t1, t2, t3, k1, k2, k3, k4, S5, S31, cObj, aObj, Int.toNat_natCast, decide_eq_true_eq, decide_eq_false_iff_not, beq_eq_false_iff_ne, ne_eq]
  omega
theorem f_c10 {n T o i nb : Nat} {x y0 y1 y2 y3 y4 y5 y6 : Int} {A C : Array Value} {B0 : List Value} {cs ds : Array Value} {l k : List UInt8} (h : RdF n T o i nb x y0 y1 y2 y3 y4 y5 y6 A C B0) : c10 n T o i nb x y0 y1 y2 y3 y4 y5 y6 A C B0 cs ds l k := by
  have a1 := E1 o (by have := h.room; have := h.most; omega)
  have a2 := E2 o (by have := h.room; have := h.most; omega)
  have a3 := E3 o (by have := h.room; have := h.most; omega)
  have a4 := E4 o nb (by have := h.room; have := h.most; omega) h.small
  have d1 := D1 o (by have := h.room; have := h.most; omega)
  have d2 := D2 o (by have := h.room; have := h.most; omega)
  have d3 := D3 o (by have := h.room; have := h.most; omega)
  have d4 := D4 o nb (by have := h.room; have := h.most; omega) h.small
  have t0 := T0 o T h.most (by have := h.room; omega)
  have t1 := TQ (o + 1) T h.most (by have := h.room; omega)
  have t2 := TQ (o + 3) T h.most (by have := h.room; omega)
  have t3 := TQ (o + 7) T h.most (by have := h.room; omega)
  have hs := h.size
  have hr := h.room
  have hl := h.lt
  have hsm := h.small
  unfold c10
  simp only [a1, a2, a3, a4, d1, d2, d3, d4, t0, t1, t2, t3, k1, k2, k3, k4, S5, S31, cObj, aObj, Int.toNat_natCast, decide_eq_true_eq, decide_eq_false_iff_not, beq_eq_false_iff_ne, ne_eq]
  omega
theorem f_c14 {n T o i nb : Nat} {x y0 y1 y2 y3 y4 y5 y6 : Int} {A C : Array Value} {B0 : List Value} {cs ds : Array Value} {l k : List UInt8} (h : RdF n T o i nb x y0 y1 y2 y3 y4 y5 y6 A C B0) : c14 n T o i nb x y0 y1 y2 y3 y4 y5 y6 A C B0 cs ds l k := by
  have a1 := E1 o (by have := h.room; have := h.most; omega)
  have a2 := E2 o (by have := h.room; have := h.most; omega)
  have a3 := E3 o (by have := h.room; have := h.most; omega)
  have a4 := E4 o nb (by have := h.room; have := h.most; omega) h.small
  have d1 := D1 o (by have := h.room; have := h.most; omega)
  have d2 := D2 o (by have := h.room; have := h.most; omega)
  have d3 := D3 o (by have := h.room; have := h.most; omega)
  have d4 := D4 o nb (by have := h.room; have := h.most; omega) h.small
  have t0 := T0 o T h.most (by have := h.room; omega)
  have t1 := TQ (o + 1) T h.most (by have := h.room; omega)
  have t2 := TQ (o + 3) T h.most (by have := h.room; omega)
  have t3 := TQ (o + 7) T h.most (by have := h.room; omega)
  have hs := h.size
  have hr := h.room
  have hl := h.lt
  have hsm := h.small
  unfold c14
  simp only [a1, a2, a3, a4, d1, d2, d3, d4, t0, t1, t2, t3, k1, k2, k3, k4, S5, S31, cObj, aObj, Int.toNat_natCast, decide_eq_true_eq, decide_eq_false_iff_not, beq_eq_false_iff_ne, ne_eq]
  omega
theorem f_c15 {n T o i nb : Nat} {x y0 y1 y2 y3 y4 y5 y6 : Int} {A C : Array Value} {B0 : List Value} {cs ds : Array Value} {l k : List UInt8} : c15 n T o i nb x y0 y1 y2 y3 y4 y5 y6 A C B0 cs ds l k := by unfold c15; rw [fits32, fits32]; rfl
theorem f_c16 {n T o i nb : Nat} {x y0 y1 y2 y3 y4 y5 y6 : Int} {A C : Array Value} {B0 : List Value} {cs ds : Array Value} {l k : List UInt8} (h : RdF n T o i nb x y0 y1 y2 y3 y4 y5 y6 A C B0) : c16 n T o i nb x y0 y1 y2 y3 y4 y5 y6 A C B0 cs ds l k := by
  have a1 := E1 o (by have := h.room; have := h.most; omega)
  have a2 := E2 o (by have := h.room; have := h.most; omega)
  have a3 := E3 o (by have := h.room; have := h.most; omega)
  have a4 := E4 o nb (by have := h.room; have := h.most; omega) h.small
  have d1 := D1 o (by have := h.room; have := h.most; omega)
  have d2 := D2 o (by have := h.room; have := h.most; omega)
  have d3 := D3 o (by have := h.room; have := h.most; omega)
  have d4 := D4 o nb (by have := h.room; have := h.most; omega) h.small
  have t0 := T0 o T h.most (by have := h.room; omega)
  have t1 := TQ (o + 1) T h.most (by have := h.room; omega)
  have t2 := TQ (o + 3) T h.most (by have := h.room; omega)
  have t3 := TQ (o + 7) T h.most (by have := h.room; omega)
  have hs := h.size
  have hr := h.room
  have hl := h.lt
  have hsm := h.small
  unfold c16
  simp only [a1, a2, a3, a4, d1, d2, d3, d4, t0, t1, t2, t3, k1, k2, k3, k4, S5, S31, cObj, aObj, Int.toNat_natCast, decide_eq_true_eq, decide_eq_false_iff_not, beq_eq_false_iff_ne, ne_eq]
  exact ext_c h.b6 (by omega) (by omega)
theorem f_c17 {n T o i nb : Nat} {x y0 y1 y2 y3 y4 y5 y6 : Int} {A C : Array Value} {B0 : List Value} {cs ds : Array Value} {l k : List UInt8} (h : RdF n T o i nb x y0 y1 y2 y3 y4 y5 y6 A C B0) : c17 n T o i nb x y0 y1 y2 y3 y4 y5 y6 A C B0 cs ds l k := by
  have a1 := E1 o (by have := h.room; have := h.most; omega)
  have a2 := E2 o (by have := h.room; have := h.most; omega)
  have a3 := E3 o (by have := h.room; have := h.most; omega)
  have a4 := E4 o nb (by have := h.room; have := h.most; omega) h.small
  have d1 := D1 o (by have := h.room; have := h.most; omega)
  have d2 := D2 o (by have := h.room; have := h.most; omega)
  have d3 := D3 o (by have := h.room; have := h.most; omega)
  have d4 := D4 o nb (by have := h.room; have := h.most; omega) h.small
  have t0 := T0 o T h.most (by have := h.room; omega)
  have t1 := TQ (o + 1) T h.most (by have := h.room; omega)
  have t2 := TQ (o + 3) T h.most (by have := h.room; omega)
  have t3 := TQ (o + 7) T h.most (by have := h.room; omega)
  have hs := h.size
  have hr := h.room
  have hl := h.lt
  have hsm := h.small
  unfold c17
  simp only [a1, a2, a3, a4, d1, d2, d3, d4, t0, t1, t2, t3, k1, k2, k3, k4, S5, S31, cObj, aObj, Int.toNat_natCast, decide_eq_true_eq, decide_eq_false_iff_not, beq_eq_false_iff_ne, ne_eq]
  omega
theorem f_c18 {n T o i nb : Nat} {x y0 y1 y2 y3 y4 y5 y6 : Int} {A C : Array Value} {B0 : List Value} {cs ds : Array Value} {l k : List UInt8} (h : RdF n T o i nb x y0 y1 y2 y3 y4 y5 y6 A C B0) : c18 n T o i nb x y0 y1 y2 y3 y4 y5 y6 A C B0 cs ds l k := by
  have a1 := E1 o (by have := h.room; have := h.most; omega)
  have a2 := E2 o (by have := h.room; have := h.most; omega)
  have a3 := E3 o (by have := h.room; have := h.most; omega)
  have a4 := E4 o nb (by have := h.room; have := h.most; omega) h.small
  have d1 := D1 o (by have := h.room; have := h.most; omega)
  have d2 := D2 o (by have := h.room; have := h.most; omega)
  have d3 := D3 o (by have := h.room; have := h.most; omega)
  have d4 := D4 o nb (by have := h.room; have := h.most; omega) h.small
  have t0 := T0 o T h.most (by have := h.room; omega)
  have t1 := TQ (o + 1) T h.most (by have := h.room; omega)
  have t2 := TQ (o + 3) T h.most (by have := h.room; omega)
  have t3 := TQ (o + 7) T h.most (by have := h.room; omega)
  have hs := h.size
  have hr := h.room
  have hl := h.lt
  have hsm := h.small
  unfold c18
  simp only [a1, a2, a3, a4, d1, d2, d3, d4, t0, t1, t2, t3, k1, k2, k3, k4, S5, S31, cObj, aObj, Int.toNat_natCast, decide_eq_true_eq, decide_eq_false_iff_not, beq_eq_false_iff_ne, ne_eq]
  omega
theorem f_c19 {n T o i nb : Nat} {x y0 y1 y2 y3 y4 y5 y6 : Int} {A C : Array Value} {B0 : List Value} {cs ds : Array Value} {l k : List UInt8} : c19 n T o i nb x y0 y1 y2 y3 y4 y5 y6 A C B0 cs ds l k := by unfold c19; rw [fits32, fits32]; rfl
theorem f_c20 {n T o i nb : Nat} {x y0 y1 y2 y3 y4 y5 y6 : Int} {A C : Array Value} {B0 : List Value} {cs ds : Array Value} {l k : List UInt8} (h : RdF n T o i nb x y0 y1 y2 y3 y4 y5 y6 A C B0) : c20 n T o i nb x y0 y1 y2 y3 y4 y5 y6 A C B0 cs ds l k := by
  have a1 := E1 o (by have := h.room; have := h.most; omega)
  have a2 := E2 o (by have := h.room; have := h.most; omega)
  have a3 := E3 o (by have := h.room; have := h.most; omega)
  have a4 := E4 o nb (by have := h.room; have := h.most; omega) h.small
  have d1 := D1 o (by have := h.room; have := h.most; omega)
  have d2 := D2 o (by have := h.room; have := h.most; omega)
  have d3 := D3 o (by have := h.room; have := h.most; omega)
  have d4 := D4 o nb (by have := h.room; have := h.most; omega) h.small
  have t0 := T0 o T h.most (by have := h.room; omega)
  have t1 := TQ (o + 1) T h.most (by have := h.room; omega)
  have t2 := TQ (o + 3) T h.most (by have := h.room; omega)
  have t3 := TQ (o + 7) T h.most (by have := h.room; omega)
  have hs := h.size
  have hr := h.room
  have hl := h.lt
  have hsm := h.small
  unfold c20
  simp only [a1, a2, a3, a4, d1, d2, d3, d4, t0, t1, t2, t3, k1, k2, k3, k4, S5, S31, cObj, aObj, Int.toNat_natCast, decide_eq_true_eq, decide_eq_false_iff_not, beq_eq_false_iff_ne, ne_eq]
  exact ext_c h.b5 (by omega) (by omega)
theorem f_c21 {n T o i nb : Nat} {x y0 y1 y2 y3 y4 y5 y6 : Int} {A C : Array Value} {B0 : List Value} {cs ds : Array Value} {l k : List UInt8} (h : RdF n T o i nb x y0 y1 y2 y3 y4 y5 y6 A C B0) : c21 n T o i nb x y0 y1 y2 y3 y4 y5 y6 A C B0 cs ds l k := by
  have a1 := E1 o (by have := h.room; have := h.most; omega)
  have a2 := E2 o (by have := h.room; have := h.most; omega)
  have a3 := E3 o (by have := h.room; have := h.most; omega)
  have a4 := E4 o nb (by have := h.room; have := h.most; omega) h.small
  have d1 := D1 o (by have := h.room; have := h.most; omega)
  have d2 := D2 o (by have := h.room; have := h.most; omega)
  have d3 := D3 o (by have := h.room; have := h.most; omega)
  have d4 := D4 o nb (by have := h.room; have := h.most; omega) h.small
  have t0 := T0 o T h.most (by have := h.room; omega)
  have t1 := TQ (o + 1) T h.most (by have := h.room; omega)
  have t2 := TQ (o + 3) T h.most (by have := h.room; omega)
  have t3 := TQ (o + 7) T h.most (by have := h.room; omega)
  have hs := h.size
  have hr := h.room
  have hl := h.lt
  have hsm := h.small
  unfold c21
  simp only [a1, a2, a3, a4, d1, d2, d3, d4, t0, t1, t2, t3, k1, k2, k3, k4, S5, S31, cObj, aObj, Int.toNat_natCast, decide_eq_true_eq, decide_eq_false_iff_not, beq_eq_false_iff_ne, ne_eq]
  omega
theorem f_c22 {n T o i nb : Nat} {x y0 y1 y2 y3 y4 y5 y6 : Int} {A C : Array Value} {B0 : List Value} {cs ds : Array Value} {l k : List UInt8} (h : RdF n T o i nb x y0 y1 y2 y3 y4 y5 y6 A C B0) : c22 n T o i nb x y0 y1 y2 y3 y4 y5 y6 A C B0 cs ds l k := by
  have a1 := E1 o (by have := h.room; have := h.most; omega)
  have a2 := E2 o (by have := h.room; have := h.most; omega)
  have a3 := E3 o (by have := h.room; have := h.most; omega)
  have a4 := E4 o nb (by have := h.room; have := h.most; omega) h.small
  have d1 := D1 o (by have := h.room; have := h.most; omega)
  have d2 := D2 o (by have := h.room; have := h.most; omega)
  have d3 := D3 o (by have := h.room; have := h.most; omega)
  have d4 := D4 o nb (by have := h.room; have := h.most; omega) h.small
  have t0 := T0 o T h.most (by have := h.room; omega)
  have t1 := TQ (o + 1) T h.most (by have := h.room; omega)
  have t2 := TQ (o + 3) T h.most (by have := h.room; omega)
  have t3 := TQ (o + 7) T h.most (by have := h.room; omega)
  have hs := h.size
  have hr := h.room
  have hl := h.lt
  have hsm := h.small
  unfold c22
  simp only [a1, a2, a3, a4, d1, d2, d3, d4, t0, t1, t2, t3, k1, k2, k3, k4, S5, S31, cObj, aObj, Int.toNat_natCast, decide_eq_true_eq, decide_eq_false_iff_not, beq_eq_false_iff_ne, ne_eq]
  omega
theorem f_c23 {n T o i nb : Nat} {x y0 y1 y2 y3 y4 y5 y6 : Int} {A C : Array Value} {B0 : List Value} {cs ds : Array Value} {l k : List UInt8} : c23 n T o i nb x y0 y1 y2 y3 y4 y5 y6 A C B0 cs ds l k := by unfold c23; rw [fits32, fits32]; rfl
theorem f_c24 {n T o i nb : Nat} {x y0 y1 y2 y3 y4 y5 y6 : Int} {A C : Array Value} {B0 : List Value} {cs ds : Array Value} {l k : List UInt8} (h : RdF n T o i nb x y0 y1 y2 y3 y4 y5 y6 A C B0) : c24 n T o i nb x y0 y1 y2 y3 y4 y5 y6 A C B0 cs ds l k := by
  have a1 := E1 o (by have := h.room; have := h.most; omega)
  have a2 := E2 o (by have := h.room; have := h.most; omega)
  have a3 := E3 o (by have := h.room; have := h.most; omega)
  have a4 := E4 o nb (by have := h.room; have := h.most; omega) h.small
  have d1 := D1 o (by have := h.room; have := h.most; omega)
  have d2 := D2 o (by have := h.room; have := h.most; omega)
  have d3 := D3 o (by have := h.room; have := h.most; omega)
  have d4 := D4 o nb (by have := h.room; have := h.most; omega) h.small
  have t0 := T0 o T h.most (by have := h.room; omega)
  have t1 := TQ (o + 1) T h.most (by have := h.room; omega)
  have t2 := TQ (o + 3) T h.most (by have := h.room; omega)
  have t3 := TQ (o + 7) T h.most (by have := h.room; omega)
  have hs := h.size
  have hr := h.room
  have hl := h.lt
  have hsm := h.small
  unfold c24
  simp only [a1, a2, a3, a4, d1, d2, d3, d4, t0, t1, t2, t3, k1, k2, k3, k4, S5, S31, cObj, aObj, Int.toNat_natCast, decide_eq_true_eq, decide_eq_false_iff_not, beq_eq_false_iff_ne, ne_eq]
  exact ext_c h.b4 (by omega) (by omega)
theorem f_c25 {n T o i nb : Nat} {x y0 y1 y2 y3 y4 y5 y6 : Int} {A C : Array Value} {B0 : List Value} {cs ds : Array Value} {l k : List UInt8} (h : RdF n T o i nb x y0 y1 y2 y3 y4 y5 y6 A C B0) : c25 n T o i nb x y0 y1 y2 y3 y4 y5 y6 A C B0 cs ds l k := by
  have a1 := E1 o (by have := h.room; have := h.most; omega)
  have a2 := E2 o (by have := h.room; have := h.most; omega)
  have a3 := E3 o (by have := h.room; have := h.most; omega)
  have a4 := E4 o nb (by have := h.room; have := h.most; omega) h.small
  have d1 := D1 o (by have := h.room; have := h.most; omega)
  have d2 := D2 o (by have := h.room; have := h.most; omega)
  have d3 := D3 o (by have := h.room; have := h.most; omega)
  have d4 := D4 o nb (by have := h.room; have := h.most; omega) h.small
  have t0 := T0 o T h.most (by have := h.room; omega)
  have t1 := TQ (o + 1) T h.most (by have := h.room; omega)
  have t2 := TQ (o + 3) T h.most (by have := h.room; omega)
  have t3 := TQ (o + 7) T h.most (by have := h.room; omega)
  have hs := h.size
  have hr := h.room
  have hl := h.lt
  have hsm := h.small
  unfold c25
  simp only [a1, a2, a3, a4, d1, d2, d3, d4, t0, t1, t2, t3, k1, k2, k3, k4, S5, S31, cObj, aObj, Int.toNat_natCast, decide_eq_true_eq, decide_eq_false_iff_not, beq_eq_false_iff_ne, ne_eq]
  omega
theorem f_c26 {n T o i nb : Nat} {x y0 y1 y2 y3 y4 y5 y6 : Int} {A C : Array Value} {B0 : List Value} {cs ds : Array Value} {l k : List UInt8} (h : RdF n T o i nb x y0 y1 y2 y3 y4 y5 y6 A C B0) : c26 n T o i nb x y0 y1 y2 y3 y4 y5 y6 A C B0 cs ds l k := by
  have a1 := E1 o (by have := h.room; have := h.most; omega)
  have a2 := E2 o (by have := h.room; have := h.most; omega)
  have a3 := E3 o (by have := h.room; have := h.most; omega)
  have a4 := E4 o nb (by have := h.room; have := h.most; omega) h.small
  have d1 := D1 o (by have := h.room; have := h.most; omega)
  have d2 := D2 o (by have := h.room; have := h.most; omega)
  have d3 := D3 o (by have := h.room; have := h.most; omega)
  have d4 := D4 o nb (by have := h.room; have := h.most; omega) h.small
  have t0 := T0 o T h.most (by have := h.room; omega)
  have t1 := TQ (o + 1) T h.most (by have := h.room; omega)
  have t2 := TQ (o + 3) T h.most (by have := h.room; omega)
  have t3 := TQ (o + 7) T h.most (by have := h.room; omega)
  have hs := h.size
  have hr := h.room
  have hl := h.lt
  have hsm := h.small
  unfold c26
  simp only [a1, a2, a3, a4, d1, d2, d3, d4, t0, t1, t2, t3, k1, k2, k3, k4, S5, S31, cObj, aObj, Int.toNat_natCast, decide_eq_true_eq, decide_eq_false_iff_not, beq_eq_false_iff_ne, ne_eq]
  omega
theorem f_c27 {n T o i nb : Nat} {x y0 y1 y2 y3 y4 y5 y6 : Int} {A C : Array Value} {B0 : List Value} {cs ds : Array Value} {l k : List UInt8} : c27 n T o i nb x y0 y1 y2 y3 y4 y5 y6 A C B0 cs ds l k := by unfold c27; rw [fits32, fits32]; rfl
theorem f_c28 {n T o i nb : Nat} {x y0 y1 y2 y3 y4 y5 y6 : Int} {A C : Array Value} {B0 : List Value} {cs ds : Array Value} {l k : List UInt8} (h : RdF n T o i nb x y0 y1 y2 y3 y4 y5 y6 A C B0) : c28 n T o i nb x y0 y1 y2 y3 y4 y5 y6 A C B0 cs ds l k := by
  have a1 := E1 o (by have := h.room; have := h.most; omega)
  have a2 := E2 o (by have := h.room; have := h.most; omega)
  have a3 := E3 o (by have := h.room; have := h.most; omega)
  have a4 := E4 o nb (by have := h.room; have := h.most; omega) h.small
  have d1 := D1 o (by have := h.room; have := h.most; omega)
  have d2 := D2 o (by have := h.room; have := h.most; omega)
  have d3 := D3 o (by have := h.room; have := h.most; omega)
  have d4 := D4 o nb (by have := h.room; have := h.most; omega) h.small
  have t0 := T0 o T h.most (by have := h.room; omega)
  have t1 := TQ (o + 1) T h.most (by have := h.room; omega)
  have t2 := TQ (o + 3) T h.most (by have := h.room; omega)
  have t3 := TQ (o + 7) T h.most (by have := h.room; omega)
  have hs := h.size
  have hr := h.room
  have hl := h.lt
  have hsm := h.small
  unfold c28
  simp only [a1, a2, a3, a4, d1, d2, d3, d4, t0, t1, t2, t3, k1, k2, k3, k4, S5, S31, cObj, aObj, Int.toNat_natCast, decide_eq_true_eq, decide_eq_false_iff_not, beq_eq_false_iff_ne, ne_eq]
  exact ext_c h.b3 (by omega) (by omega)
theorem f_c29 {n T o i nb : Nat} {x y0 y1 y2 y3 y4 y5 y6 : Int} {A C : Array Value} {B0 : List Value} {cs ds : Array Value} {l k : List UInt8} (h : RdF n T o i nb x y0 y1 y2 y3 y4 y5 y6 A C B0) : c29 n T o i nb x y0 y1 y2 y3 y4 y5 y6 A C B0 cs ds l k := by
  have a1 := E1 o (by have := h.room; have := h.most; omega)
  have a2 := E2 o (by have := h.room; have := h.most; omega)
  have a3 := E3 o (by have := h.room; have := h.most; omega)
  have a4 := E4 o nb (by have := h.room; have := h.most; omega) h.small
  have d1 := D1 o (by have := h.room; have := h.most; omega)
  have d2 := D2 o (by have := h.room; have := h.most; omega)
  have d3 := D3 o (by have := h.room; have := h.most; omega)
  have d4 := D4 o nb (by have := h.room; have := h.most; omega) h.small
  have t0 := T0 o T h.most (by have := h.room; omega)
  have t1 := TQ (o + 1) T h.most (by have := h.room; omega)
  have t2 := TQ (o + 3) T h.most (by have := h.room; omega)
  have t3 := TQ (o + 7) T h.most (by have := h.room; omega)
  have hs := h.size
  have hr := h.room
  have hl := h.lt
  have hsm := h.small
  unfold c29
  simp only [a1, a2, a3, a4, d1, d2, d3, d4, t0, t1, t2, t3, k1, k2, k3, k4, S5, S31, cObj, aObj, Int.toNat_natCast, decide_eq_true_eq, decide_eq_false_iff_not, beq_eq_false_iff_ne, ne_eq]
  omega
theorem f_c30 {n T o i nb : Nat} {x y0 y1 y2 y3 y4 y5 y6 : Int} {A C : Array Value} {B0 : List Value} {cs ds : Array Value} {l k : List UInt8} (h : RdF n T o i nb x y0 y1 y2 y3 y4 y5 y6 A C B0) : c30 n T o i nb x y0 y1 y2 y3 y4 y5 y6 A C B0 cs ds l k := by
  have a1 := E1 o (by have := h.room; have := h.most; omega)
  have a2 := E2 o (by have := h.room; have := h.most; omega)
  have a3 := E3 o (by have := h.room; have := h.most; omega)
  have a4 := E4 o nb (by have := h.room; have := h.most; omega) h.small
  have d1 := D1 o (by have := h.room; have := h.most; omega)
  have d2 := D2 o (by have := h.room; have := h.most; omega)
  have d3 := D3 o (by have := h.room; have := h.most; omega)
  have d4 := D4 o nb (by have := h.room; have := h.most; omega) h.small
  have t0 := T0 o T h.most (by have := h.room; omega)
  have t1 := TQ (o + 1) T h.most (by have := h.room; omega)
  have t2 := TQ (o + 3) T h.most (by have := h.room; omega)
  have t3 := TQ (o + 7) T h.most (by have := h.room; omega)
  have hs := h.size
  have hr := h.room
  have hl := h.lt
  have hsm := h.small
  unfold c30
  simp only [a1, a2, a3, a4, d1, d2, d3, d4, t0, t1, t2, t3, k1, k2, k3, k4, S5, S31, cObj, aObj, Int.toNat_natCast, decide_eq_true_eq, decide_eq_false_iff_not, beq_eq_false_iff_ne, ne_eq]
  omega
theorem f_c31 {n T o i nb : Nat} {x y0 y1 y2 y3 y4 y5 y6 : Int} {A C : Array Value} {B0 : List Value} {cs ds : Array Value} {l k : List UInt8} (h : RdF n T o i nb x y0 y1 y2 y3 y4 y5 y6 A C B0) : c31 n T o i nb x y0 y1 y2 y3 y4 y5 y6 A C B0 cs ds l k := by
  have a1 := E1 o (by have := h.room; have := h.most; omega)
  have a2 := E2 o (by have := h.room; have := h.most; omega)
  have a3 := E3 o (by have := h.room; have := h.most; omega)
  have a4 := E4 o nb (by have := h.room; have := h.most; omega) h.small
  have d1 := D1 o (by have := h.room; have := h.most; omega)
  have d2 := D2 o (by have := h.room; have := h.most; omega)
  have d3 := D3 o (by have := h.room; have := h.most; omega)
  have d4 := D4 o nb (by have := h.room; have := h.most; omega) h.small
  have t0 := T0 o T h.most (by have := h.room; omega)
  have t1 := TQ (o + 1) T h.most (by have := h.room; omega)
  have t2 := TQ (o + 3) T h.most (by have := h.room; omega)
  have t3 := TQ (o + 7) T h.most (by have := h.room; omega)
  have hs := h.size
  have hr := h.room
  have hl := h.lt
  have hsm := h.small
  unfold c31
  simp only [a1, a2, a3, a4, d1, d2, d3, d4, t0, t1, t2, t3, k1, k2, k3, k4, S5, S31, cObj, aObj, Int.toNat_natCast, decide_eq_true_eq, decide_eq_false_iff_not, beq_eq_false_iff_ne, ne_eq]
  omega
theorem f_c32 {n T o i nb : Nat} {x y0 y1 y2 y3 y4 y5 y6 : Int} {A C : Array Value} {B0 : List Value} {cs ds : Array Value} {l k : List UInt8} (h : RdF n T o i nb x y0 y1 y2 y3 y4 y5 y6 A C B0) : c32 n T o i nb x y0 y1 y2 y3 y4 y5 y6 A C B0 cs ds l k := by
  have a1 := E1 o (by have := h.room; have := h.most; omega)
  have a2 := E2 o (by have := h.room; have := h.most; omega)
  have a3 := E3 o (by have := h.room; have := h.most; omega)
  have a4 := E4 o nb (by have := h.room; have := h.most; omega) h.small
  have d1 := D1 o (by have := h.room; have := h.most; omega)
  have d2 := D2 o (by have := h.room; have := h.most; omega)
  have d3 := D3 o (by have := h.room; have := h.most; omega)
  have d4 := D4 o nb (by have := h.room; have := h.most; omega) h.small
  have t0 := T0 o T h.most (by have := h.room; omega)
  have t1 := TQ (o + 1) T h.most (by have := h.room; omega)
  have t2 := TQ (o + 3) T h.most (by have := h.room; omega)
  have t3 := TQ (o + 7) T h.most (by have := h.room; omega)
  have hs := h.size
  have hr := h.room
  have hl := h.lt
  have hsm := h.small
  unfold c32
  simp only [a1, a2, a3, a4, d1, d2, d3, d4, t0, t1, t2, t3, k1, k2, k3, k4, S5, S31, cObj, aObj, Int.toNat_natCast, decide_eq_true_eq, decide_eq_false_iff_not, beq_eq_false_iff_ne, ne_eq]
  omega
theorem f_c33 {n T o i nb : Nat} {x y0 y1 y2 y3 y4 y5 y6 : Int} {A C : Array Value} {B0 : List Value} {cs ds : Array Value} {l k : List UInt8} (h : RdF n T o i nb x y0 y1 y2 y3 y4 y5 y6 A C B0) : c33 n T o i nb x y0 y1 y2 y3 y4 y5 y6 A C B0 cs ds l k := by
  have a1 := E1 o (by have := h.room; have := h.most; omega)
  have a2 := E2 o (by have := h.room; have := h.most; omega)
  have a3 := E3 o (by have := h.room; have := h.most; omega)
  have a4 := E4 o nb (by have := h.room; have := h.most; omega) h.small
  have d1 := D1 o (by have := h.room; have := h.most; omega)
  have d2 := D2 o (by have := h.room; have := h.most; omega)
  have d3 := D3 o (by have := h.room; have := h.most; omega)
  have d4 := D4 o nb (by have := h.room; have := h.most; omega) h.small
  have t0 := T0 o T h.most (by have := h.room; omega)
  have t1 := TQ (o + 1) T h.most (by have := h.room; omega)
  have t2 := TQ (o + 3) T h.most (by have := h.room; omega)
  have t3 := TQ (o + 7) T h.most (by have := h.room; omega)
  have hs := h.size
  have hr := h.room
  have hl := h.lt
  have hsm := h.small
  unfold c33
  simp only [a1, a2, a3, a4, d1, d2, d3, d4, t0, t1, t2, t3, k1, k2, k3, k4, S5, S31, cObj, aObj, Int.toNat_natCast, decide_eq_true_eq, decide_eq_false_iff_not, beq_eq_false_iff_ne, ne_eq]
  omega
theorem f_c34 {n T o i nb : Nat} {x y0 y1 y2 y3 y4 y5 y6 : Int} {A C : Array Value} {B0 : List Value} {cs ds : Array Value} {l k : List UInt8} (h : RdF n T o i nb x y0 y1 y2 y3 y4 y5 y6 A C B0) : c34 n T o i nb x y0 y1 y2 y3 y4 y5 y6 A C B0 cs ds l k := by
  unfold c34
  rw [S31]
  exact h.word
theorem f_c35 {n T o i nb : Nat} {x y0 y1 y2 y3 y4 y5 y6 : Int} {A C : Array Value} {B0 : List Value} {cs ds : Array Value} {l k : List UInt8} (h : RdF n T o i nb x y0 y1 y2 y3 y4 y5 y6 A C B0) : c35 n T o i nb x y0 y1 y2 y3 y4 y5 y6 A C B0 cs ds l k := decide_eq_true ⟨by show 0 ≤ (i : Int); omega, by have := h.lt; show (i : Int) < (n : Int); omega⟩
theorem f_c37 {n T o i nb : Nat} {x y0 y1 y2 y3 y4 y5 y6 : Int} {A C : Array Value} {B0 : List Value} {cs ds : Array Value} {l k : List UInt8} (h : RdF n T o i nb x y0 y1 y2 y3 y4 y5 y6 A C B0) : c37 n T o i nb x y0 y1 y2 y3 y4 y5 y6 A C B0 cs ds l k := by
  have a1 := E1 o (by have := h.room; have := h.most; omega)
  have a2 := E2 o (by have := h.room; have := h.most; omega)
  have a3 := E3 o (by have := h.room; have := h.most; omega)
  have a4 := E4 o nb (by have := h.room; have := h.most; omega) h.small
  have d1 := D1 o (by have := h.room; have := h.most; omega)
  have d2 := D2 o (by have := h.room; have := h.most; omega)
  have d3 := D3 o (by have := h.room; have := h.most; omega)
  have d4 := D4 o nb (by have := h.room; have := h.most; omega) h.small
  have t0 := T0 o T h.most (by have := h.room; omega)
  have t1 := TQ (o + 1) T h.most (by have := h.room; omega)
  have t2 := TQ (o + 3) T h.most (by have := h.room; omega)
  have t3 := TQ (o + 7) T h.most (by have := h.room; omega)
  have hs := h.size
  have hr := h.room
  have hl := h.lt
  have hsm := h.small
  unfold c37
  simp only [a1, a2, a3, a4, d1, d2, d3, d4, t0, t1, t2, t3, k1, k2, k3, k4, S5, S31, cObj, aObj, Int.toNat_natCast, decide_eq_true_eq, decide_eq_false_iff_not, beq_eq_false_iff_ne, ne_eq]
  omega
theorem f_c38 {n T o i nb : Nat} {x y0 y1 y2 y3 y4 y5 y6 : Int} {A C : Array Value} {B0 : List Value} {cs ds : Array Value} {l k : List UInt8} : c38 n T o i nb x y0 y1 y2 y3 y4 y5 y6 A C B0 cs ds l k := by unfold c38; rw [fits32, fits32]; rfl
theorem f_c39 {n T o i nb : Nat} {x y0 y1 y2 y3 y4 y5 y6 : Int} {A C : Array Value} {B0 : List Value} {cs ds : Array Value} {l k : List UInt8} (h : RdF n T o i nb x y0 y1 y2 y3 y4 y5 y6 A C B0) : c39 n T o i nb x y0 y1 y2 y3 y4 y5 y6 A C B0 cs ds l k := by
  have a1 := E1 o (by have := h.room; have := h.most; omega)
  have a2 := E2 o (by have := h.room; have := h.most; omega)
  have a3 := E3 o (by have := h.room; have := h.most; omega)
  have a4 := E4 o nb (by have := h.room; have := h.most; omega) h.small
  have d1 := D1 o (by have := h.room; have := h.most; omega)
  have d2 := D2 o (by have := h.room; have := h.most; omega)
  have d3 := D3 o (by have := h.room; have := h.most; omega)
  have d4 := D4 o nb (by have := h.room; have := h.most; omega) h.small
  have t0 := T0 o T h.most (by have := h.room; omega)
  have t1 := TQ (o + 1) T h.most (by have := h.room; omega)
  have t2 := TQ (o + 3) T h.most (by have := h.room; omega)
  have t3 := TQ (o + 7) T h.most (by have := h.room; omega)
  have hs := h.size
  have hr := h.room
  have hl := h.lt
  have hsm := h.small
  unfold c39
  simp only [a1, a2, a3, a4, d1, d2, d3, d4, t0, t1, t2, t3, k1, k2, k3, k4, S5, S31, cObj, aObj, Int.toNat_natCast, decide_eq_true_eq, decide_eq_false_iff_not, beq_eq_false_iff_ne, ne_eq]
  exact ext_c h.b2 (by omega) (by omega)
theorem f_c40 {n T o i nb : Nat} {x y0 y1 y2 y3 y4 y5 y6 : Int} {A C : Array Value} {B0 : List Value} {cs ds : Array Value} {l k : List UInt8} (h : RdF n T o i nb x y0 y1 y2 y3 y4 y5 y6 A C B0) : c40 n T o i nb x y0 y1 y2 y3 y4 y5 y6 A C B0 cs ds l k := by
  have a1 := E1 o (by have := h.room; have := h.most; omega)
  have a2 := E2 o (by have := h.room; have := h.most; omega)
  have a3 := E3 o (by have := h.room; have := h.most; omega)
  have a4 := E4 o nb (by have := h.room; have := h.most; omega) h.small
  have d1 := D1 o (by have := h.room; have := h.most; omega)
  have d2 := D2 o (by have := h.room; have := h.most; omega)
  have d3 := D3 o (by have := h.room; have := h.most; omega)
  have d4 := D4 o nb (by have := h.room; have := h.most; omega) h.small
  have t0 := T0 o T h.most (by have := h.room; omega)
  have t1 := TQ (o + 1) T h.most (by have := h.room; omega)
  have t2 := TQ (o + 3) T h.most (by have := h.room; omega)
  have t3 := TQ (o + 7) T h.most (by have := h.room; omega)
  have hs := h.size
  have hr := h.room
  have hl := h.lt
  have hsm := h.small
  unfold c40
  simp only [a1, a2, a3, a4, d1, d2, d3, d4, t0, t1, t2, t3, k1, k2, k3, k4, S5, S31, cObj, aObj, Int.toNat_natCast, decide_eq_true_eq, decide_eq_false_iff_not, beq_eq_false_iff_ne, ne_eq]
  omega
theorem f_c41 {n T o i nb : Nat} {x y0 y1 y2 y3 y4 y5 y6 : Int} {A C : Array Value} {B0 : List Value} {cs ds : Array Value} {l k : List UInt8} (h : RdF n T o i nb x y0 y1 y2 y3 y4 y5 y6 A C B0) : c41 n T o i nb x y0 y1 y2 y3 y4 y5 y6 A C B0 cs ds l k := by
  have a1 := E1 o (by have := h.room; have := h.most; omega)
  have a2 := E2 o (by have := h.room; have := h.most; omega)
  have a3 := E3 o (by have := h.room; have := h.most; omega)
  have a4 := E4 o nb (by have := h.room; have := h.most; omega) h.small
  have d1 := D1 o (by have := h.room; have := h.most; omega)
  have d2 := D2 o (by have := h.room; have := h.most; omega)
  have d3 := D3 o (by have := h.room; have := h.most; omega)
  have d4 := D4 o nb (by have := h.room; have := h.most; omega) h.small
  have t0 := T0 o T h.most (by have := h.room; omega)
  have t1 := TQ (o + 1) T h.most (by have := h.room; omega)
  have t2 := TQ (o + 3) T h.most (by have := h.room; omega)
  have t3 := TQ (o + 7) T h.most (by have := h.room; omega)
  have hs := h.size
  have hr := h.room
  have hl := h.lt
  have hsm := h.small
  unfold c41
  simp only [a1, a2, a3, a4, d1, d2, d3, d4, t0, t1, t2, t3, k1, k2, k3, k4, S5, S31, cObj, aObj, Int.toNat_natCast, decide_eq_true_eq, decide_eq_false_iff_not, beq_eq_false_iff_ne, ne_eq]
  omega
theorem f_c42 {n T o i nb : Nat} {x y0 y1 y2 y3 y4 y5 y6 : Int} {A C : Array Value} {B0 : List Value} {cs ds : Array Value} {l k : List UInt8} : c42 n T o i nb x y0 y1 y2 y3 y4 y5 y6 A C B0 cs ds l k := by unfold c42; rw [fits32, fits32]; rfl
theorem f_c43 {n T o i nb : Nat} {x y0 y1 y2 y3 y4 y5 y6 : Int} {A C : Array Value} {B0 : List Value} {cs ds : Array Value} {l k : List UInt8} (h : RdF n T o i nb x y0 y1 y2 y3 y4 y5 y6 A C B0) : c43 n T o i nb x y0 y1 y2 y3 y4 y5 y6 A C B0 cs ds l k := by
  have a1 := E1 o (by have := h.room; have := h.most; omega)
  have a2 := E2 o (by have := h.room; have := h.most; omega)
  have a3 := E3 o (by have := h.room; have := h.most; omega)
  have a4 := E4 o nb (by have := h.room; have := h.most; omega) h.small
  have d1 := D1 o (by have := h.room; have := h.most; omega)
  have d2 := D2 o (by have := h.room; have := h.most; omega)
  have d3 := D3 o (by have := h.room; have := h.most; omega)
  have d4 := D4 o nb (by have := h.room; have := h.most; omega) h.small
  have t0 := T0 o T h.most (by have := h.room; omega)
  have t1 := TQ (o + 1) T h.most (by have := h.room; omega)
  have t2 := TQ (o + 3) T h.most (by have := h.room; omega)
  have t3 := TQ (o + 7) T h.most (by have := h.room; omega)
  have hs := h.size
  have hr := h.room
  have hl := h.lt
  have hsm := h.small
  unfold c43
  simp only [a1, a2, a3, a4, d1, d2, d3, d4, t0, t1, t2, t3, k1, k2, k3, k4, S5, S31, cObj, aObj, Int.toNat_natCast, decide_eq_true_eq, decide_eq_false_iff_not, beq_eq_false_iff_ne, ne_eq]
  exact ext_c h.b1 (by omega) (by omega)
theorem f_c44 {n T o i nb : Nat} {x y0 y1 y2 y3 y4 y5 y6 : Int} {A C : Array Value} {B0 : List Value} {cs ds : Array Value} {l k : List UInt8} (h : RdF n T o i nb x y0 y1 y2 y3 y4 y5 y6 A C B0) : c44 n T o i nb x y0 y1 y2 y3 y4 y5 y6 A C B0 cs ds l k := by
  have a1 := E1 o (by have := h.room; have := h.most; omega)
  have a2 := E2 o (by have := h.room; have := h.most; omega)
  have a3 := E3 o (by have := h.room; have := h.most; omega)
  have a4 := E4 o nb (by have := h.room; have := h.most; omega) h.small
  have d1 := D1 o (by have := h.room; have := h.most; omega)
  have d2 := D2 o (by have := h.room; have := h.most; omega)
  have d3 := D3 o (by have := h.room; have := h.most; omega)
  have d4 := D4 o nb (by have := h.room; have := h.most; omega) h.small
  have t0 := T0 o T h.most (by have := h.room; omega)
  have t1 := TQ (o + 1) T h.most (by have := h.room; omega)
  have t2 := TQ (o + 3) T h.most (by have := h.room; omega)
  have t3 := TQ (o + 7) T h.most (by have := h.room; omega)
  have hs := h.size
  have hr := h.room
  have hl := h.lt
  have hsm := h.small
  unfold c44
  simp only [a1, a2, a3, a4, d1, d2, d3, d4, t0, t1, t2, t3, k1, k2, k3, k4, S5, S31, cObj, aObj, Int.toNat_natCast, decide_eq_true_eq, decide_eq_false_iff_not, beq_eq_false_iff_ne, ne_eq]
  omega
theorem f_c45 {n T o i nb : Nat} {x y0 y1 y2 y3 y4 y5 y6 : Int} {A C : Array Value} {B0 : List Value} {cs ds : Array Value} {l k : List UInt8} (h : RdF n T o i nb x y0 y1 y2 y3 y4 y5 y6 A C B0) : c45 n T o i nb x y0 y1 y2 y3 y4 y5 y6 A C B0 cs ds l k := by
  have a1 := E1 o (by have := h.room; have := h.most; omega)
  have a2 := E2 o (by have := h.room; have := h.most; omega)
  have a3 := E3 o (by have := h.room; have := h.most; omega)
  have a4 := E4 o nb (by have := h.room; have := h.most; omega) h.small
  have d1 := D1 o (by have := h.room; have := h.most; omega)
  have d2 := D2 o (by have := h.room; have := h.most; omega)
  have d3 := D3 o (by have := h.room; have := h.most; omega)
  have d4 := D4 o nb (by have := h.room; have := h.most; omega) h.small
  have t0 := T0 o T h.most (by have := h.room; omega)
  have t1 := TQ (o + 1) T h.most (by have := h.room; omega)
  have t2 := TQ (o + 3) T h.most (by have := h.room; omega)
  have t3 := TQ (o + 7) T h.most (by have := h.room; omega)
  have hs := h.size
  have hr := h.room
  have hl := h.lt
  have hsm := h.small
  unfold c45
  simp only [a1, a2, a3, a4, d1, d2, d3, d4, t0, t1, t2, t3, k1, k2, k3, k4, S5, S31, cObj, aObj, Int.toNat_natCast, decide_eq_true_eq, decide_eq_false_iff_not, beq_eq_false_iff_ne, ne_eq]
  omega
theorem f_c46 {n T o i nb : Nat} {x y0 y1 y2 y3 y4 y5 y6 : Int} {A C : Array Value} {B0 : List Value} {cs ds : Array Value} {l k : List UInt8} (h : RdF n T o i nb x y0 y1 y2 y3 y4 y5 y6 A C B0) : c46 n T o i nb x y0 y1 y2 y3 y4 y5 y6 A C B0 cs ds l k := by
  have a1 := E1 o (by have := h.room; have := h.most; omega)
  have a2 := E2 o (by have := h.room; have := h.most; omega)
  have a3 := E3 o (by have := h.room; have := h.most; omega)
  have a4 := E4 o nb (by have := h.room; have := h.most; omega) h.small
  have d1 := D1 o (by have := h.room; have := h.most; omega)
  have d2 := D2 o (by have := h.room; have := h.most; omega)
  have d3 := D3 o (by have := h.room; have := h.most; omega)
  have d4 := D4 o nb (by have := h.room; have := h.most; omega) h.small
  have t0 := T0 o T h.most (by have := h.room; omega)
  have t1 := TQ (o + 1) T h.most (by have := h.room; omega)
  have t2 := TQ (o + 3) T h.most (by have := h.room; omega)
  have t3 := TQ (o + 7) T h.most (by have := h.room; omega)
  have hs := h.size
  have hr := h.room
  have hl := h.lt
  have hsm := h.small
  unfold c46
  simp only [a1, a2, a3, a4, d1, d2, d3, d4, t0, t1, t2, t3, k1, k2, k3, k4, S5, S31, cObj, aObj, Int.toNat_natCast, decide_eq_true_eq, decide_eq_false_iff_not, beq_eq_false_iff_ne, ne_eq]
  omega
theorem f_c47 {n T o i nb : Nat} {x y0 y1 y2 y3 y4 y5 y6 : Int} {A C : Array Value} {B0 : List Value} {cs ds : Array Value} {l k : List UInt8} (h : RdF n T o i nb x y0 y1 y2 y3 y4 y5 y6 A C B0) : c47 n T o i nb x y0 y1 y2 y3 y4 y5 y6 A C B0 cs ds l k := by
  have a1 := E1 o (by have := h.room; have := h.most; omega)
  have a2 := E2 o (by have := h.room; have := h.most; omega)
  have a3 := E3 o (by have := h.room; have := h.most; omega)
  have a4 := E4 o nb (by have := h.room; have := h.most; omega) h.small
  have d1 := D1 o (by have := h.room; have := h.most; omega)
  have d2 := D2 o (by have := h.room; have := h.most; omega)
  have d3 := D3 o (by have := h.room; have := h.most; omega)
  have d4 := D4 o nb (by have := h.room; have := h.most; omega) h.small
  have t0 := T0 o T h.most (by have := h.room; omega)
  have t1 := TQ (o + 1) T h.most (by have := h.room; omega)
  have t2 := TQ (o + 3) T h.most (by have := h.room; omega)
  have t3 := TQ (o + 7) T h.most (by have := h.room; omega)
  have hs := h.size
  have hr := h.room
  have hl := h.lt
  have hsm := h.small
  unfold c47
  simp only [a1, a2, a3, a4, d1, d2, d3, d4, t0, t1, t2, t3, k1, k2, k3, k4, S5, S31, cObj, aObj, Int.toNat_natCast, decide_eq_true_eq, decide_eq_false_iff_not, beq_eq_false_iff_ne, ne_eq]
  omega
theorem f_c48 {n T o i nb : Nat} {x y0 y1 y2 y3 y4 y5 y6 : Int} {A C : Array Value} {B0 : List Value} {cs ds : Array Value} {l k : List UInt8} (h : RdF n T o i nb x y0 y1 y2 y3 y4 y5 y6 A C B0) : c48 n T o i nb x y0 y1 y2 y3 y4 y5 y6 A C B0 cs ds l k := by
  have a1 := E1 o (by have := h.room; have := h.most; omega)
  have a2 := E2 o (by have := h.room; have := h.most; omega)
  have a3 := E3 o (by have := h.room; have := h.most; omega)
  have a4 := E4 o nb (by have := h.room; have := h.most; omega) h.small
  have d1 := D1 o (by have := h.room; have := h.most; omega)
  have d2 := D2 o (by have := h.room; have := h.most; omega)
  have d3 := D3 o (by have := h.room; have := h.most; omega)
  have d4 := D4 o nb (by have := h.room; have := h.most; omega) h.small
  have t0 := T0 o T h.most (by have := h.room; omega)
  have t1 := TQ (o + 1) T h.most (by have := h.room; omega)
  have t2 := TQ (o + 3) T h.most (by have := h.room; omega)
  have t3 := TQ (o + 7) T h.most (by have := h.room; omega)
  have hs := h.size
  have hr := h.room
  have hl := h.lt
  have hsm := h.small
  unfold c48
  simp only [a1, a2, a3, a4, d1, d2, d3, d4, t0, t1, t2, t3, k1, k2, k3, k4, S5, S31, cObj, aObj, Int.toNat_natCast, decide_eq_true_eq, decide_eq_false_iff_not, beq_eq_false_iff_ne, ne_eq]
  omega
theorem f_c50 {n T o i nb : Nat} {x y0 y1 y2 y3 y4 y5 y6 : Int} {A C : Array Value} {B0 : List Value} {cs ds : Array Value} {l k : List UInt8} (h : RdF n T o i nb x y0 y1 y2 y3 y4 y5 y6 A C B0) : c50 n T o i nb x y0 y1 y2 y3 y4 y5 y6 A C B0 cs ds l k := by
  have a1 := E1 o (by have := h.room; have := h.most; omega)
  have a2 := E2 o (by have := h.room; have := h.most; omega)
  have a3 := E3 o (by have := h.room; have := h.most; omega)
  have a4 := E4 o nb (by have := h.room; have := h.most; omega) h.small
  have d1 := D1 o (by have := h.room; have := h.most; omega)
  have d2 := D2 o (by have := h.room; have := h.most; omega)
  have d3 := D3 o (by have := h.room; have := h.most; omega)
  have d4 := D4 o nb (by have := h.room; have := h.most; omega) h.small
  have t0 := T0 o T h.most (by have := h.room; omega)
  have t1 := TQ (o + 1) T h.most (by have := h.room; omega)
  have t2 := TQ (o + 3) T h.most (by have := h.room; omega)
  have t3 := TQ (o + 7) T h.most (by have := h.room; omega)
  have hs := h.size
  have hr := h.room
  have hl := h.lt
  have hsm := h.small
  unfold c50
  simp only [a1, a2, a3, a4, d1, d2, d3, d4, t0, t1, t2, t3, k1, k2, k3, k4, S5, S31, cObj, aObj, Int.toNat_natCast, decide_eq_true_eq, decide_eq_false_iff_not, beq_eq_false_iff_ne, ne_eq]
  omega
theorem f_c51 {n T o i nb : Nat} {x y0 y1 y2 y3 y4 y5 y6 : Int} {A C : Array Value} {B0 : List Value} {cs ds : Array Value} {l k : List UInt8} : c51 n T o i nb x y0 y1 y2 y3 y4 y5 y6 A C B0 cs ds l k := by unfold c51; rw [fits32, fits32]; rfl
theorem f_c52 {n T o i nb : Nat} {x y0 y1 y2 y3 y4 y5 y6 : Int} {A C : Array Value} {B0 : List Value} {cs ds : Array Value} {l k : List UInt8} (h : RdF n T o i nb x y0 y1 y2 y3 y4 y5 y6 A C B0) : c52 n T o i nb x y0 y1 y2 y3 y4 y5 y6 A C B0 cs ds l k := by
  have a1 := E1 o (by have := h.room; have := h.most; omega)
  have a2 := E2 o (by have := h.room; have := h.most; omega)
  have a3 := E3 o (by have := h.room; have := h.most; omega)
  have a4 := E4 o nb (by have := h.room; have := h.most; omega) h.small
  have d1 := D1 o (by have := h.room; have := h.most; omega)
  have d2 := D2 o (by have := h.room; have := h.most; omega)
  have d3 := D3 o (by have := h.room; have := h.most; omega)
  have d4 := D4 o nb (by have := h.room; have := h.most; omega) h.small
  have t0 := T0 o T h.most (by have := h.room; omega)
  have t1 := TQ (o + 1) T h.most (by have := h.room; omega)
  have t2 := TQ (o + 3) T h.most (by have := h.room; omega)
  have t3 := TQ (o + 7) T h.most (by have := h.room; omega)
  have hs := h.size
  have hr := h.room
  have hl := h.lt
  have hsm := h.small
  unfold c52
  simp only [a1, a2, a3, a4, d1, d2, d3, d4, t0, t1, t2, t3, k1, k2, k3, k4, S5, S31, cObj, aObj, Int.toNat_natCast, decide_eq_true_eq, decide_eq_false_iff_not, beq_eq_false_iff_ne, ne_eq]
  exact ext_c h.b0 (by omega) (by omega)
theorem f_c53 {n T o i nb : Nat} {x y0 y1 y2 y3 y4 y5 y6 : Int} {A C : Array Value} {B0 : List Value} {cs ds : Array Value} {l k : List UInt8} (h : RdF n T o i nb x y0 y1 y2 y3 y4 y5 y6 A C B0) : c53 n T o i nb x y0 y1 y2 y3 y4 y5 y6 A C B0 cs ds l k := by
  have a1 := E1 o (by have := h.room; have := h.most; omega)
  have a2 := E2 o (by have := h.room; have := h.most; omega)
  have a3 := E3 o (by have := h.room; have := h.most; omega)
  have a4 := E4 o nb (by have := h.room; have := h.most; omega) h.small
  have d1 := D1 o (by have := h.room; have := h.most; omega)
  have d2 := D2 o (by have := h.room; have := h.most; omega)
  have d3 := D3 o (by have := h.room; have := h.most; omega)
  have d4 := D4 o nb (by have := h.room; have := h.most; omega) h.small
  have t0 := T0 o T h.most (by have := h.room; omega)
  have t1 := TQ (o + 1) T h.most (by have := h.room; omega)
  have t2 := TQ (o + 3) T h.most (by have := h.room; omega)
  have t3 := TQ (o + 7) T h.most (by have := h.room; omega)
  have hs := h.size
  have hr := h.room
  have hl := h.lt
  have hsm := h.small
  unfold c53
  simp only [a1, a2, a3, a4, d1, d2, d3, d4, t0, t1, t2, t3, k1, k2, k3, k4, S5, S31, cObj, aObj, Int.toNat_natCast, decide_eq_true_eq, decide_eq_false_iff_not, beq_eq_false_iff_ne, ne_eq]
  omega
theorem f_c54 {n T o i nb : Nat} {x y0 y1 y2 y3 y4 y5 y6 : Int} {A C : Array Value} {B0 : List Value} {cs ds : Array Value} {l k : List UInt8} (h : RdF n T o i nb x y0 y1 y2 y3 y4 y5 y6 A C B0) : c54 n T o i nb x y0 y1 y2 y3 y4 y5 y6 A C B0 cs ds l k := by
  have a1 := E1 o (by have := h.room; have := h.most; omega)
  have a2 := E2 o (by have := h.room; have := h.most; omega)
  have a3 := E3 o (by have := h.room; have := h.most; omega)
  have a4 := E4 o nb (by have := h.room; have := h.most; omega) h.small
  have d1 := D1 o (by have := h.room; have := h.most; omega)
  have d2 := D2 o (by have := h.room; have := h.most; omega)
  have d3 := D3 o (by have := h.room; have := h.most; omega)
  have d4 := D4 o nb (by have := h.room; have := h.most; omega) h.small
  have t0 := T0 o T h.most (by have := h.room; omega)
  have t1 := TQ (o + 1) T h.most (by have := h.room; omega)
  have t2 := TQ (o + 3) T h.most (by have := h.room; omega)
  have t3 := TQ (o + 7) T h.most (by have := h.room; omega)
  have hs := h.size
  have hr := h.room
  have hl := h.lt
  have hsm := h.small
  unfold c54
  simp only [a1, a2, a3, a4, d1, d2, d3, d4, t0, t1, t2, t3, k1, k2, k3, k4, S5, S31, cObj, aObj, Int.toNat_natCast, decide_eq_true_eq, decide_eq_false_iff_not, beq_eq_false_iff_ne, ne_eq]
  omega
theorem f_c55 {n T o i nb : Nat} {x y0 y1 y2 y3 y4 y5 y6 : Int} {A C : Array Value} {B0 : List Value} {cs ds : Array Value} {l k : List UInt8} (h : RdF n T o i nb x y0 y1 y2 y3 y4 y5 y6 A C B0) : c55 n T o i nb x y0 y1 y2 y3 y4 y5 y6 A C B0 cs ds l k := by
  have a1 := E1 o (by have := h.room; have := h.most; omega)
  have a2 := E2 o (by have := h.room; have := h.most; omega)
  have a3 := E3 o (by have := h.room; have := h.most; omega)
  have a4 := E4 o nb (by have := h.room; have := h.most; omega) h.small
  have d1 := D1 o (by have := h.room; have := h.most; omega)
  have d2 := D2 o (by have := h.room; have := h.most; omega)
  have d3 := D3 o (by have := h.room; have := h.most; omega)
  have d4 := D4 o nb (by have := h.room; have := h.most; omega) h.small
  have t0 := T0 o T h.most (by have := h.room; omega)
  have t1 := TQ (o + 1) T h.most (by have := h.room; omega)
  have t2 := TQ (o + 3) T h.most (by have := h.room; omega)
  have t3 := TQ (o + 7) T h.most (by have := h.room; omega)
  have hs := h.size
  have hr := h.room
  have hl := h.lt
  have hsm := h.small
  unfold c55
  simp only [a1, a2, a3, a4, d1, d2, d3, d4, t0, t1, t2, t3, k1, k2, k3, k4, S5, S31, cObj, aObj, Int.toNat_natCast, decide_eq_true_eq, decide_eq_false_iff_not, beq_eq_false_iff_ne, ne_eq]
  omega
theorem f_c56 {n T o i nb : Nat} {x y0 y1 y2 y3 y4 y5 y6 : Int} {A C : Array Value} {B0 : List Value} {cs ds : Array Value} {l k : List UInt8} (h : RdF n T o i nb x y0 y1 y2 y3 y4 y5 y6 A C B0) : c56 n T o i nb x y0 y1 y2 y3 y4 y5 y6 A C B0 cs ds l k := by
  have a1 := E1 o (by have := h.room; have := h.most; omega)
  have a2 := E2 o (by have := h.room; have := h.most; omega)
  have a3 := E3 o (by have := h.room; have := h.most; omega)
  have a4 := E4 o nb (by have := h.room; have := h.most; omega) h.small
  have d1 := D1 o (by have := h.room; have := h.most; omega)
  have d2 := D2 o (by have := h.room; have := h.most; omega)
  have d3 := D3 o (by have := h.room; have := h.most; omega)
  have d4 := D4 o nb (by have := h.room; have := h.most; omega) h.small
  have t0 := T0 o T h.most (by have := h.room; omega)
  have t1 := TQ (o + 1) T h.most (by have := h.room; omega)
  have t2 := TQ (o + 3) T h.most (by have := h.room; omega)
  have t3 := TQ (o + 7) T h.most (by have := h.room; omega)
  have hs := h.size
  have hr := h.room
  have hl := h.lt
  have hsm := h.small
  unfold c56
  simp only [a1, a2, a3, a4, d1, d2, d3, d4, t0, t1, t2, t3, k1, k2, k3, k4, S5, S31, cObj, aObj, Int.toNat_natCast, decide_eq_true_eq, decide_eq_false_iff_not, beq_eq_false_iff_ne, ne_eq]
  omega
theorem f_c57 {n T o i nb : Nat} {x y0 y1 y2 y3 y4 y5 y6 : Int} {A C : Array Value} {B0 : List Value} {cs ds : Array Value} {l k : List UInt8} (h : RdF n T o i nb x y0 y1 y2 y3 y4 y5 y6 A C B0) : c57 n T o i nb x y0 y1 y2 y3 y4 y5 y6 A C B0 cs ds l k := by
  have a1 := E1 o (by have := h.room; have := h.most; omega)
  have a2 := E2 o (by have := h.room; have := h.most; omega)
  have a3 := E3 o (by have := h.room; have := h.most; omega)
  have a4 := E4 o nb (by have := h.room; have := h.most; omega) h.small
  have d1 := D1 o (by have := h.room; have := h.most; omega)
  have d2 := D2 o (by have := h.room; have := h.most; omega)
  have d3 := D3 o (by have := h.room; have := h.most; omega)
  have d4 := D4 o nb (by have := h.room; have := h.most; omega) h.small
  have t0 := T0 o T h.most (by have := h.room; omega)
  have t1 := TQ (o + 1) T h.most (by have := h.room; omega)
  have t2 := TQ (o + 3) T h.most (by have := h.room; omega)
  have t3 := TQ (o + 7) T h.most (by have := h.room; omega)
  have hs := h.size
  have hr := h.room
  have hl := h.lt
  have hsm := h.small
  unfold c57
  simp only [a1, a2, a3, a4, d1, d2, d3, d4, t0, t1, t2, t3, k1, k2, k3, k4, S5, S31, cObj, aObj, Int.toNat_natCast, decide_eq_true_eq, decide_eq_false_iff_not, beq_eq_false_iff_ne, ne_eq]
  omega
theorem f_c69 {n T o i nb : Nat} {x y0 y1 y2 y3 y4 y5 y6 : Int} {A C : Array Value} {B0 : List Value} {cs ds : Array Value} {l k : List UInt8} (h : RdF n T o i nb x y0 y1 y2 y3 y4 y5 y6 A C B0) : c69 n T o i nb x y0 y1 y2 y3 y4 y5 y6 A C B0 cs ds l k := by
  have a1 := E1 o (by have := h.room; have := h.most; omega)
  have a2 := E2 o (by have := h.room; have := h.most; omega)
  have a3 := E3 o (by have := h.room; have := h.most; omega)
  have a4 := E4 o nb (by have := h.room; have := h.most; omega) h.small
  have d1 := D1 o (by have := h.room; have := h.most; omega)
  have d2 := D2 o (by have := h.room; have := h.most; omega)
  have d3 := D3 o (by have := h.room; have := h.most; omega)
  have d4 := D4 o nb (by have := h.room; have := h.most; omega) h.small
  have t0 := T0 o T h.most (by have := h.room; omega)
  have t1 := TQ (o + 1) T h.most (by have := h.room; omega)
  have t2 := TQ (o + 3) T h.most (by have := h.room; omega)
  have t3 := TQ (o + 7) T h.most (by have := h.room; omega)
  have hs := h.size
  have hr := h.room
  have hl := h.lt
  have hsm := h.small
  unfold c69
  simp only [a1, a2, a3, a4, d1, d2, d3, d4, t0, t1, t2, t3, k1, k2, k3, k4, S5, S31, cObj, aObj, Int.toNat_natCast, decide_eq_true_eq, decide_eq_false_iff_not, beq_eq_false_iff_ne, ne_eq]
  omega
theorem QQ : (↑(2 ^ min (Int.toNat 8) (bitsF .u32)) : Int) = 256 := by decide
theorem or_step {m y : Int} (h1 : 0 ≤ m) (h2 : m < 16777216) (h3 : 0 ≤ y) (h4 : y < 256) : ((((wrapF .u32 (m * 256)).toNat ||| (wrapF .u32 y).toNat) : Nat) : Int) = m * 256 + y := by
  have e1 : (wrapF .u32 (m * 256)).toNat = 2 ^ 8 * m.toNat := by simp only [wrapF]; omega
  have e2 : (wrapF .u32 y).toNat = y.toNat := by simp only [wrapF]; omega
  rw [e1, e2, ← Nat.two_pow_add_eq_or_of_lt (i := 8) (by omega)]
  omega
theorem and_low (x : Int) (k m : Nat) (hk : k ≤ 62) (hm : (m : Int) = 2 ^ k - 1) (hm2 : m = 2 ^ k - 1) : (BitVec.ofInt (IntKind.bits .i64) x &&& BitVec.ofInt (IntKind.bits .i64) (m : Int)).toNat = (x % ((2 ^ k : Nat) : Int)).toNat := by
  have hb : IntKind.bits .i64 = 64 := rfl
  rw [hb, BitVec.toNat_and, BitVec.toNat_ofInt, BitVec.toNat_ofInt]
  have h1 : (2 : Nat) ^ k ≤ 2 ^ 62 := Nat.pow_le_pow_right (by omega) hk
  have h2 : (((m : Int) % ((2 ^ 64 : Nat) : Int))).toNat = 2 ^ k - 1 := by
    rw [Int.emod_eq_of_lt (by omega) (by omega)]; omega
  rw [h2, Nat.and_two_pow_sub_one_eq_mod]
  have h3 : ((2 ^ k : Nat) : Int) ∣ ((2 ^ 64 : Nat) : Int) := Int.natCast_dvd_natCast.2 (Nat.pow_dvd_pow 2 (by omega))
  have h4 : (x % ((2 ^ 64 : Nat) : Int)) % ((2 ^ k : Nat) : Int) = x % ((2 ^ k : Nat) : Int) := Int.emod_emod_of_dvd x h3
  have h5 : 0 ≤ x % ((2 ^ 64 : Nat) : Int) := Int.emod_nonneg _ (by omega)
  rw [← h4]
  obtain ⟨q, hq⟩ := Int.eq_ofNat_of_zero_le h5
  rw [hq, ← Int.natCast_emod, Int.toNat_natCast, Int.toNat_natCast]
theorem wrapN {v : Int} (h1 : 0 ≤ v) (h2 : v < 100000) : IntKind.wrap .i64 v = v := by rw [← wrapF_eq, w64 (by omega) (by omega)]
theorem acc0 {y : Int} (h3 : 0 ≤ y) (h4 : y < 256) : ((((wrapF .u32 (0 * 256)).toNat ||| (wrapF .u32 y).toNat) : Nat) : Int) = y := by
  have := or_step (m := 0) (y := y) (by omega) (by omega) h3 h4
  omega
theorem f_c71 {n T o i nb : Nat} {x y0 y1 y2 y3 y4 y5 y6 : Int} {A C : Array Value} {B0 : List Value} {cs ds : Array Value} {l k : List UInt8} (h : RdF n T o i nb x y0 y1 y2 y3 y4 y5 y6 A C B0) : c71 n T o i nb x y0 y1 y2 y3 y4 y5 y6 A C B0 cs ds l k := by
  unfold c71
  have e0 := h.v0
  have m0 : 0 ≤ y0 ∧ y0 < 256 := by omega
  simp only [QQ]
  rw [acc0 m0.1 m0.2, w64 (by omega) (by omega), show (255 : Int) = ((255 : Nat) : Int) from rfl, and_low x 8 255 (by omega) (by decide) (by decide), wrapN (by omega) (by omega)]
  rw [decide_eq_true (by omega)]; rfl
theorem f_c70 {n T o i nb : Nat} {x y0 y1 y2 y3 y4 y5 y6 : Int} {A C : Array Value} {B0 : List Value} {cs ds : Array Value} {l k : List UInt8} (h : RdF n T o i nb x y0 y1 y2 y3 y4 y5 y6 A C B0) : c70 n T o i nb x y0 y1 y2 y3 y4 y5 y6 A C B0 cs ds l k := by
  unfold c70
  have e1 := h.v1
  have e2 := h.v2
  have m1 : 0 ≤ y1 ∧ y1 < 256 := by omega
  have m2 : 0 ≤ y2 ∧ y2 < 256 := by omega
  simp only [QQ]
  rw [acc0 m1.1 m1.2, or_step (by omega) (by omega) m2.1 m2.2, w64 (by omega) (by omega), show (65535 : Int) = ((65535 : Nat) : Int) from rfl, and_low x 16 65535 (by omega) (by decide) (by decide), wrapN (by omega) (by omega)]
  rw [decide_eq_true (by omega)]; rfl
theorem f_c1 {n T o i nb : Nat} {x y0 y1 y2 y3 y4 y5 y6 : Int} {A C : Array Value} {B0 : List Value} {cs ds : Array Value} {l k : List UInt8} (h : RdF n T o i nb x y0 y1 y2 y3 y4 y5 y6 A C B0) : c1 n T o i nb x y0 y1 y2 y3 y4 y5 y6 A C B0 cs ds l k := by
  unfold c1
  have e3 := h.v3
  have e4 := h.v4
  have e5 := h.v5
  have e6 := h.v6
  have m3 : 0 ≤ y3 ∧ y3 < 256 := by omega
  have m4 : 0 ≤ y4 ∧ y4 < 256 := by omega
  have m5 : 0 ≤ y5 ∧ y5 < 256 := by omega
  have m6 : 0 ≤ y6 ∧ y6 < 256 := by omega
  simp only [QQ]
  rw [acc0 m3.1 m3.2, or_step (by omega) (by omega) m4.1 m4.2, or_step (by omega) (by omega) m5.1 m5.2, or_step (by omega) (by omega) m6.1 m6.2]
  have : wrapF .u32 x = x % 4294967296 := rfl
  rw [this, decide_eq_true (by omega)]; rfl
theorem f_c5 {n T o i nb : Nat} {x y0 y1 y2 y3 y4 y5 y6 : Int} {A C : Array Value} {B0 : List Value} {cs ds : Array Value} {l k : List UInt8} (h : RdF n T o i nb x y0 y1 y2 y3 y4 y5 y6 A C B0) (hp : 1 ≤ nb) : c5 n T o i nb x y0 y1 y2 y3 y4 y5 y6 A C B0 cs ds l k := by
  have a1 := E1 o (by have := h.room; have := h.most; omega)
  have a2 := E2 o (by have := h.room; have := h.most; omega)
  have a3 := E3 o (by have := h.room; have := h.most; omega)
  have a4 := E4 o nb (by have := h.room; have := h.most; omega) h.small
  have d1 := D1 o (by have := h.room; have := h.most; omega)
  have d2 := D2 o (by have := h.room; have := h.most; omega)
  have d3 := D3 o (by have := h.room; have := h.most; omega)
  have d4 := D4 o nb (by have := h.room; have := h.most; omega) h.small
  have t0 := T0 o T h.most (by have := h.room; omega)
  have t1 := TQ (o + 1) T h.most (by have := h.room; omega)
  have t2 := TQ (o + 3) T h.most (by have := h.room; omega)
  have t3 := TQ (o + 7) T h.most (by have := h.room; omega)
  have hs := h.size
  have hr := h.room
  have hl := h.lt
  have hsm := h.small
  unfold c5
  simp only [a1, a2, a3, a4, d1, d2, d3, d4, t0, t1, t2, t3, k1, k2, k3, k4, S5, S31, cObj, aObj, Int.toNat_natCast, decide_eq_true_eq, decide_eq_false_iff_not, beq_eq_false_iff_ne, ne_eq]
  omega
theorem f_c9 {n T o i nb : Nat} {x y0 y1 y2 y3 y4 y5 y6 : Int} {A C : Array Value} {B0 : List Value} {cs ds : Array Value} {l k : List UInt8} (hp : 1 ≤ nb) : c9 n T o i nb x y0 y1 y2 y3 y4 y5 y6 A C B0 cs ds l k := decide_eq_false (by omega)
theorem f_c68 {n T o i nb : Nat} {x y0 y1 y2 y3 y4 y5 y6 : Int} {A C : Array Value} {B0 : List Value} {cs ds : Array Value} {l k : List UInt8} (hp : nb = 0) : c68 n T o i nb x y0 y1 y2 y3 y4 y5 y6 A C B0 cs ds l k := decide_eq_true (by omega)
theorem f_c0 {n T o i nb : Nat} {x y0 y1 y2 y3 y4 y5 y6 : Int} {A C : Array Value} {B0 : List Value} {cs ds : Array Value} {l k : List UInt8} (hk : k = l) : c0 n T o i nb x y0 y1 y2 y3 y4 y5 y6 A C B0 cs ds l k := by subst hk; unfold c0; rw [beq_self_eq_true]; rfl
theorem f_c67 {n T o i nb : Nat} {x y0 y1 y2 y3 y4 y5 y6 : Int} {A C : Array Value} {B0 : List Value} {cs ds : Array Value} {l k : List UInt8} (hk : l = []) : c67 n T o i nb x y0 y1 y2 y3 y4 y5 y6 A C B0 cs ds l k := by subst hk; unfold c67; rw [show ByteArray.empty = (⟨([] : List UInt8).toArray⟩ : ByteArray) from rfl, beq_self_eq_true]; rfl
theorem cpy (X : Array Value) : CPY X = X := by unfold CPY; rw [apQ_eq, exQ_eq]; simp
theorem f_c3 {n T o i nb : Nat} {x y0 y1 y2 y3 y4 y5 y6 : Int} {A C : Array Value} {B0 : List Value} {cs ds : Array Value} {l k : List UInt8} (h : RdF n T o i nb x y0 y1 y2 y3 y4 y5 y6 A C B0) (hd : C.extract (o + 7) (o + 7 + nb) = ds) : c3 n T o i nb x y0 y1 y2 y3 y4 y5 y6 A C B0 cs ds l k := by
  have a1 := E1 o (by have := h.room; have := h.most; omega)
  have a2 := E2 o (by have := h.room; have := h.most; omega)
  have a3 := E3 o (by have := h.room; have := h.most; omega)
  have a4 := E4 o nb (by have := h.room; have := h.most; omega) h.small
  have d1 := D1 o (by have := h.room; have := h.most; omega)
  have d2 := D2 o (by have := h.room; have := h.most; omega)
  have d3 := D3 o (by have := h.room; have := h.most; omega)
  have d4 := D4 o nb (by have := h.room; have := h.most; omega) h.small
  have t0 := T0 o T h.most (by have := h.room; omega)
  have t1 := TQ (o + 1) T h.most (by have := h.room; omega)
  have t2 := TQ (o + 3) T h.most (by have := h.room; omega)
  have t3 := TQ (o + 7) T h.most (by have := h.room; omega)
  have hs := h.size
  have hr := h.room
  have hl := h.lt
  have hsm := h.small
  unfold c3
  simp only [a1, a2, a3, a4, d1, d2, d3, d4, t0, t1, t2, t3, k1, k2, k3, k4, S5, S31, cObj, aObj, Int.toNat_natCast]
  rw [cpy, exQ_eq, show 0 + (o + 7) * 1 = o + 7 by omega, show o + 7 + (o + 7 + nb - (o + 7)) * 1 = o + 7 + nb by omega, hd]
  have hz : ds.size = nb := by rw [← hd]; simp; omega
  refine ⟨by omega, ?_⟩
  have hq : 0 + (0 + (o + 7 + nb - (o + 7))) = ds.size := by omega
  rw [hq]
  simp
end WireBk
end Go.Proofs.Ytddlejbcnjmfmaa
