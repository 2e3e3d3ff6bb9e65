/- OpenSizes: the walk. -/
import Derived.Test.YtajokgjebffkgaaOu
namespace Go.Proofs.Ytajokgjebffkgaa
open Go Go.Ev Go.RowKit
set_option maxRecDepth 100000
namespace OpenSizes
theorem fits_wrap (x : Int) : fitsU .u32 (wrapF .u32 x) = true := by
  have h1 := Int.emod_nonneg x (show (4294967296 : Int) ≠ 0 by decide)
  have h2 := Int.emod_lt_of_pos x (show (0 : Int) < 4294967296 by decide)
  simp only [wrapF]
  obtain ⟨m, hm⟩ : ∃ m : Nat, x % 4294967296 = m := ⟨(x % 4294967296).toNat, by omega⟩
  rw [hm]
  show Nat.ble m 4294967295 = true
  exact Nat.ble_eq_true_of_le (by omega)
theorem ff_true (n x : Int) : ff n x = true := by unfold ff; rw [fits_wrap, fits_wrap]; rfl
theorem wrap32 {x : Nat} (h : x < 4294967296) : wrapF .u32 (x : Int) = x := by simp only [wrapF]; omega
theorem fdiv_nat (x k : Nat) : (x : Int).fdiv ((k : Nat) : Int) = ((x / k : Nat) : Int) := by
  rw [Int.fdiv_eq_ediv_of_nonneg _ (by omega)]; exact (Int.natCast_ediv x k).symm
theorem b8_nat (x k : Nat) : b8 (x : Int) k = ((x / 2 ^ (8 * k) % 256 : Nat) : Int) := by
  unfold b8; rw [fdiv_nat]; simp only [wrapF]; omega
theorem sN_nat {n x : Nat} (hn : n < 16777216) (hx : x < 256) : sN (n : Int) (x : Int) = ((n * 256 + x : Nat) : Int) := by
  unfold sN
  rw [show (n : Int) * ((2 ^ 8 : Nat) : Int) = ((n * 256 : Nat) : Int) by rw [Int.natCast_mul], wrap32 (by omega), wrap32 (by omega), Int.toNat_natCast, Int.toNat_natCast]
  have := Nat.shiftLeft_add_eq_or_of_lt (i := 8) (b := x) hx n
  rw [Nat.shiftLeft_eq] at this
  exact congrArg (fun y : Nat => (y : Int)) this.symm
theorem sN_zero {x : Nat} (hx : x < 256) : sN 0 (x : Int) = (x : Int) := by
  have := sN_nat (n := 0) (by decide) hx
  rw [Nat.zero_mul, Nat.zero_add] at this
  exact this
theorem t2_nat {n : Nat} (h : n < 65536) : t2 (n : Int) = n := by
  unfold t2 t1
  rw [wrap32 (by omega), b8_nat, b8_nat, sN_zero (Nat.mod_lt _ (by decide)), sN_nat (by have := Nat.mod_lt (n / 2 ^ (8 * 1)) (show 0 < 256 by decide); omega) (Nat.mod_lt _ (by decide))]
  simp only [Nat.mul_one, Nat.mul_zero, Nat.pow_zero, Nat.div_one, show (2 : Nat) ^ 8 = 256 from rfl]
  congr 1; omega
theorem s4_nat {n : Nat} (h : n < 4294967296) : s4 (n : Int) = n := by
  unfold s4 s3 s2 s1
  have m : ∀ y : Nat, y % 256 < 256 := fun y => Nat.mod_lt _ (by decide)
  rw [b8_nat, b8_nat, b8_nat, b8_nat, sN_zero (m _)]
  rw [sN_nat (by have := m (n / 2 ^ (8 * 3)); omega) (m _)]
  rw [sN_nat (by have := m (n / 2 ^ (8 * 3)); have := m (n / 2 ^ (8 * 2)); omega) (m _)]
  rw [sN_nat (by have := m (n / 2 ^ (8 * 3)); have := m (n / 2 ^ (8 * 2)); have := m (n / 2 ^ (8 * 1)); omega) (m _)]
  simp only [Nat.mul_one, Nat.mul_zero, Nat.pow_zero, Nat.div_one, show (2 : Nat) ^ (8 * 3) = 16777216 from rfl, show (2 : Nat) ^ (8 * 2) = 65536 from rfl, show (2 : Nat) ^ 8 = 256 from rfl]
  congr 1; omega
theorem calls_n {a h i : Int} {π : List Ans} {cs : List Prop} (h1 : NRow a h i π cs) (g : ∀ p ∈ cs, p) (W : World) :
    Calls Try.prog 8 ⟨[.int .i64 a, .int .i64 h, .int .u32 i, .slice none 0 0]⟩ W fun e W' => e = .returned (.bool true) ∧ Below W.heap.size W W' :=
  calls_of_run E1_sound good Try.func8 rfl h1 g rfl rfl W
theorem calls_s {a h i : Int} {cells : List Value} {π : List Ans} {cs : List Prop} {len cap : Nat} {ad : Addr} {l : Ev.Loc} (h2 : SRow a h i cells len π cs) (g : ∀ p ∈ cs, p) (W : World)
    (hfit : RowFits W cells l) (hcap : len ≤ cap) (ha : ad = ⟨l.blk, l.shift, none⟩) (hr : l.room = l.shift + cap) (hs : l.size = len) :
    Calls Try.prog 8 ⟨pre a h i ++ .slice (some ad) len cap :: []⟩ W fun e W' => e = .returned (.bool true) ∧ Below W.heap.size W W' :=
  calls_of_row1 (pre := pre a h i) (post := []) E1_sound good Try.func8 rfl h2 g rfl W hfit rfl rfl hcap ha hr hs
theorem walk (a h i : Int) (v : Value) (_ : (Lit.int .i64 a).wf = true) (_ : (Lit.int .i64 h).wf = true) (wi : (Lit.int .u32 i).wf = true) (W : World) (hv : IntsArg W .u8 v) :
    Calls Try.prog 8 #[.int .i64 a, .int .i64 h, .int .u32 i, v] W fun e W' => e = .returned (.bool true) ∧ Below W.heap.size W W' := by
  have hi : 0 ≤ i ∧ i < 4294967296 := by simp [Lit.wf, IntKind.min, IntKind.max, IntKind.signed, IntKind.bits] at wi; omega
  -- a way on which what is handed in does not matter
  have any : ∀ {πn πr : List Ans} {cn cr : List Prop}, NRow a h i πn cn → (∀ cells n, SRow a h i cells n πr cr) → (∀ p ∈ cn, p) → (∀ p ∈ cr, p) →
      Calls Try.prog 8 #[.int .i64 a, .int .i64 h, .int .u32 i, v] W fun e W' => e = .returned (.bool true) ∧ Below W.heap.size W W' := by
    intro πn πr cn cr h1 h2 g1 g2
    rcases hv with rfl | ⟨ad, len, cap, zs, l, rfl, hlen, hcap, _, hfit, ha, hr, hs⟩
    · exact calls_n h1 g1 W
    · exact calls_s (h2 _ _) g2 W hfit hcap ha hr hs
  by_cases ha1 : a < 1
  · have e1 : decide (a < 1) = true := decide_eq_true ha1
    have e2 : decide (a ≥ 1) = false := decide_eq_false (by omega)
    exact any (fn1 a h i) (fun c n => f1 a h i c n) (by simp only [cF1, List.forall_mem_cons, e1, e2]; simp) (by simp only [cF1, List.forall_mem_cons, e1, e2]; simp)
  have a1 : decide (a < 1) = false := decide_eq_false ha1
  have a2 : decide (a ≥ 1) = true := decide_eq_true (by omega)
  by_cases ha2 : a > 65535
  · have e1 : decide (a > 65535) = true := decide_eq_true ha2
    have e2 : decide (a ≤ 65535) = false := decide_eq_false (by omega)
    exact any (fn2 a h i) (fun c n => f2 a h i c n) (by simp only [cF2, List.forall_mem_cons, e1, e2, a1, a2]; simp) (by simp only [cF2, List.forall_mem_cons, e1, e2, a1, a2]; simp)
  have a3 : decide (a > 65535) = false := decide_eq_false ha2
  have a4 : decide (a ≤ 65535) = true := decide_eq_true (by omega)
  obtain ⟨x, rfl⟩ : ∃ x : Nat, a = x := ⟨a.toNat, by omega⟩
  obtain ⟨u, rfl⟩ : ∃ u : Nat, i = u := ⟨i.toNat, by omega⟩
  have wa : wrapF .i64 (x : Int) = x := wrap64 (by omega) (by omega)
  have ta : t2 (x : Int) = x := t2_nat (by omega)
  have ti : s4 (u : Int) = u := s4_nat (by omega)
  have a5 : decide ((x : Int) = 0) = false := decide_eq_false (by omega)
  have d12 : decide ((12 : Int) = 0) = false := by decide
  -- what follows an OPEN that is right
  have fin : ∀ {πn πr : List Ans} {cn cr cg : List Prop} {cl : (Nat → Int) → List Value → Nat → List Prop} {πg πl : List Ans}, NRow x h u πn cn → (∀ z, SRow x h u (mkI .u8 z 0) 0 πr cr) → (∀ z L, 1 ≤ L → L ≤ 50 → SRow x h u (mkI .u8 z L) L πg cg) →
      (∀ z rest n, SRow x h u (mkI .u8 z 51 ++ rest) n πl (cl z rest n)) → (∀ p ∈ cn, p) → (∀ p ∈ cr, p) → (∀ p ∈ cg, p) → (∀ z rest n, capB z rest = true → decide (((n : Nat) : Int) > 50) = true → ∀ p ∈ cl z rest n, p) →
      Calls Try.prog 8 #[.int .i64 x, .int .i64 h, .int .u32 u, v] W fun e W' => e = .returned (.bool true) ∧ Below W.heap.size W W' := by
    intro πn πr cn cr cg cl πg πl h1 h2 h3 h4 g1 g2 g3 g4
    rcases hv with rfl | ⟨ad, len, cap, zs, l, rfl, hlen, hcap, _, hfit, ha, hr, hs⟩
    · exact calls_n h1 g1 W
    · by_cases hL : len ≤ 50
      · rw [mkI_all, hlen] at hfit
        rcases Nat.eq_zero_or_pos len with h0 | h0
        · subst h0
          exact calls_s (h2 _) g2 W hfit hcap ha hr hs
        · exact calls_s (h3 _ len h0 hL) g3 W hfit hcap ha hr hs
      · have hsz : (⟨mkI .u8 (fun i => zs.getD i 0) 51 ++ (zs.drop 51).map (Value.int .u8)⟩ : Array Value).size = len := by
          rw [← mkI_of zs 51 (by omega)]; simp [hlen]
        rw [mkI_of zs 51 (by omega)] at hfit
        refine calls_s (h4 _ _ len) (g4 _ _ _ ?_ (decide_eq_true (by omega))) W hfit hcap ha hr hs
        unfold capB
        rw [hsz]
        exact decide_eq_true ⟨by decide, by rw [Nat.sub_zero, Nat.div_one]; omega⟩
  by_cases hh0 : h = 0
  · have e1 : decide (h = 0) = true := decide_eq_true hh0
    by_cases hi0 : (u : Int) = 0
    · have e2 : decide ((u : Int) = 0) = true := decide_eq_true hi0
      exact any (fn5 x h u) (fun c n => f5 x h u c n) (by simp only [cF5, List.forall_mem_cons, e1, e2, a1, a2, a3, a4, d12]; simp) (by simp only [cF5, List.forall_mem_cons, e1, e2, a1, a2, a3, a4, d12]; simp)
    · have e2 : decide ((u : Int) = 0) = false := decide_eq_false hi0
      have wh : wrapF .i64 h = h := wrap64 (by omega) (by omega)
      have th : t2 h = h := by subst hh0; exact t2_nat (n := 0) (by decide)
      refine fin (n0 x h u) (fun z => r0 x h u z) (fun z L g1 g2 => g0 x h u z L g1 g2) (fun z rest n => l0 x h u z rest n) ?_ ?_ ?_ ?_
      · simp only [cN0, List.forall_mem_cons, ff_true, ta, ti, th, wa, wh, e1, e2, a1, a2, a3, a4, a5]; simp
      · simp only [cR0, List.forall_mem_cons, ff_true, ta, ti, th, wa, wh, e1, e2, a1, a2, a3, a4, a5]; simp
      · simp only [cG0, List.forall_mem_cons, ff_true, e1, e2, a1, a2, a3, a4]; simp
      · intro z rest n k1 k2
        simp only [cL0, List.forall_mem_cons, ff_true, e1, e2, a1, a2, a3, a4, k1, k2]; simp
  have e1 : decide (h = 0) = false := decide_eq_false hh0
  by_cases hh3 : h ≥ 3
  · have e3 : decide (h ≥ 3) = true := decide_eq_true hh3
    by_cases hh5 : h ≤ 65535
    · have e5 : decide (h ≤ 65535) = true := decide_eq_true hh5
      by_cases hi0 : (u : Int) = 0
      · have e2 : decide ((u : Int) = 0) = true := decide_eq_true hi0
        exact any (fn6 x h u) (fun c n => f6 x h u c n) (by simp only [cF6, List.forall_mem_cons, e1, e2, e3, e5, a1, a2, a3, a4, d12]; simp) (by simp only [cF6, List.forall_mem_cons, e1, e2, e3, e5, a1, a2, a3, a4, d12]; simp)
      · have e2 : decide ((u : Int) = 0) = false := decide_eq_false hi0
        obtain ⟨y, rfl⟩ : ∃ y : Nat, h = y := ⟨h.toNat, by omega⟩
        have wh : wrapF .i64 (y : Int) = y := wrap64 (by omega) (by omega)
        have th : t2 (y : Int) = y := t2_nat (by omega)
        refine fin (n1 x y u) (fun z => r1 x y u z) (fun z L h1 h2 => g1 x y u z L h1 h2) (fun z rest n => l1 x y u z rest n) ?_ ?_ ?_ ?_
        · simp only [cN1, List.forall_mem_cons, ff_true, ta, ti, th, wa, wh, e1, e2, e3, e5, a1, a2, a3, a4, a5]; simp
        · simp only [cR1, List.forall_mem_cons, ff_true, ta, ti, th, wa, wh, e1, e2, e3, e5, a1, a2, a3, a4, a5]; simp
        · simp only [cG1, List.forall_mem_cons, ff_true, e1, e2, e3, e5, a1, a2, a3, a4]; simp
        · intro z rest n k1 k2
          simp only [cL1, List.forall_mem_cons, ff_true, e1, e2, e3, e5, a1, a2, a3, a4, k1, k2]; simp
    · have e5 : decide (h ≤ 65535) = false := decide_eq_false hh5
      exact any (fn4 x h u) (fun c n => f4 x h u c n) (by simp only [cF4, List.forall_mem_cons, e1, e3, e5, a1, a2, a3, a4]; simp) (by simp only [cF4, List.forall_mem_cons, e1, e3, e5, a1, a2, a3, a4]; simp)
  · have e3 : decide (h ≥ 3) = false := decide_eq_false hh3
    exact any (fn3 x h u) (fun c n => f3 x h u c n) (by simp only [cF3, List.forall_mem_cons, e1, e3, a1, a2, a3, a4]; simp) (by simp only [cF3, List.forall_mem_cons, e1, e3, a1, a2, a3, a4]; simp)
end OpenSizes
end Go.Proofs.Ytajokgjebffkgaa
