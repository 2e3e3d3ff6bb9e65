/- Chapter 1's numbers: masks as what is left of a division; covers, and what meets. -/
import Derived.Test.YtdgdojlhncbggaaDoorSb
namespace Go.Proofs.YtdgdojlhncbggaaDoor
open Go Go.Ev Go.RowKit

/-- The first k bits of 32. -/
def fl (x k : Nat) : Nat := x / 2 ^ (32 - k) * 2 ^ (32 - k)
theorem fl_bit (x k i : Nat) : (fl x k).testBit i = (decide (32 - k ≤ i) && x.testBit i) := by
  unfold fl
  rw [← Nat.shiftRight_eq_div_pow, ← Nat.shiftLeft_eq, Nat.testBit_shiftLeft, Nat.testBit_shiftRight]
  by_cases h : 32 - k ≤ i
  · simp [h, show 32 - k + (i - (32 - k)) = i by omega]
  · simp [h]
theorem maskN_nat (k : Nat) (h : k ≤ 32) : maskN (k : Int) = fl 4294967295 k := by
  have : ∀ k : Fin 33, maskN (k.val : Int) = fl 4294967295 k.val := by decide +kernel
  exact this ⟨k, by omega⟩
theorem ones_bit (i : Nat) : (4294967295 : Nat).testBit i = decide (i < 32) := by
  have : (4294967295 : Nat) = 2 ^ 32 - 1 := by decide
  rw [this, Nat.testBit_two_pow_sub_one]
theorem and_mask {x k : Nat} (hx : x < 4294967296) (h : k ≤ 32) : x &&& maskN (k : Int) = fl x k := by
  apply Nat.eq_of_testBit_eq
  intro i
  rw [maskN_nat k h, Nat.testBit_and, fl_bit, fl_bit, ones_bit]
  by_cases hi : i < 32
  · simp [hi, Bool.and_comm]
  · have : x.testBit i = false := Nat.testBit_lt_two_pow (Nat.lt_of_lt_of_le hx (by
      have := Nat.pow_le_pow_right (show 0 < 2 by decide) (show 32 ≤ i by omega)
      simpa using this))
    simp [this]
theorem fl_fl {x j k : Nat} (h : j ≤ k) : fl (fl x k) j = fl x j := by
  apply Nat.eq_of_testBit_eq
  intro i
  rw [fl_bit, fl_bit, fl_bit]
  by_cases hi : 32 - j ≤ i
  · simp [hi, show 32 - k ≤ i by omega]
  · simp [hi]
theorem fl_le (x k : Nat) : fl x k ≤ x := Nat.div_mul_le_self _ _
theorem fl_mono {x y k : Nat} (h : x ≤ y) : fl x k ≤ fl y k := Nat.mul_le_mul_right _ (Nat.div_le_div_right h)
theorem fl_zero {x : Nat} (h : x < 4294967296) : fl x 0 = 0 := by
  unfold fl; rw [Nat.div_eq_of_lt (by simpa using h)]
theorem xor_zero {a b : Nat} : a ^^^ b = 0 ↔ a = b := by
  constructor
  · intro h
    apply Nat.eq_of_testBit_eq
    intro i
    have := congrArg (fun x => Nat.testBit x i) h
    simp only [Nat.testBit_xor, Nat.zero_testBit] at this
    cases h1 : a.testBit i <;> cases h2 : b.testBit i <;> simp [h1, h2] at this ⊢
  · rintro rfl; exact Nat.xor_self a
/-- A prefix. -/
def Pf (a n : Nat) : Prop := a < 4294967296 ∧ n ≤ 32 ∧ fl a n = a
def Cov (a n b m : Nat) : Prop := n ≤ m ∧ fl b n = a
theorem Cov.refl {a n : Nat} (h : Pf a n) : Cov a n a n := ⟨Nat.le_refl _, h.2.2⟩
theorem Cov.trans {a n b m c k : Nat} (h : Cov a n b m) (g : Cov b m c k) : Cov a n c k :=
  ⟨Nat.le_trans h.1 g.1, by rw [← h.2, ← g.2, fl_fl h.1]⟩
theorem Cov.antisymm {a n b m : Nat} (ha : Pf a n) (h : Cov a n b m) (g : Cov b m a n) : a = b ∧ n = m := by
  have hn : n = m := Nat.le_antisymm h.1 g.1
  subst hn
  exact ⟨by rw [← g.2, ha.2.2], rfl⟩
theorem pf_of {a n : Int} (h1 : inU a = true) (h2 : rightB a n = true) : ∃ x k : Nat, a = (x : Int) ∧ n = (k : Int) ∧ Pf x k := by
  obtain ⟨b1, b2⟩ := inU_spec.1 h1
  obtain ⟨c1, c2, c3⟩ := rightB_spec.1 h2
  refine ⟨a.toNat, n.toNat, by omega, by omega, by omega, by omega, ?_⟩
  have hn : n = (n.toNat : Int) := by omega
  rw [hn, and_mask (by omega) (by omega)] at c3
  exact (xor_zero.1 c3).symm
theorem right_iff {x k : Nat} (hx : x < 4294967296) : rightB (x : Int) (k : Int) = true ↔ Pf x k := by
  rw [rightB_spec]
  constructor
  · rintro ⟨_, h2, h3⟩
    rw [Int.toNat_natCast, and_mask hx (by omega)] at h3
    exact ⟨hx, by omega, (xor_zero.1 h3).symm⟩
  · rintro ⟨_, h2, h3⟩
    exact ⟨by omega, by omega, by rw [Int.toNat_natCast, and_mask hx h2, h3, Nat.xor_self]⟩
theorem inU_nat {x : Nat} : inU (x : Int) = true ↔ x < 4294967296 := by rw [inU_spec]; omega
theorem has_iff {a n x : Nat} (h : Pf a n) (hx : x < 4294967296) : hasB (a : Int) (n : Int) (x : Int) = true ↔ fl x n = a := by
  unfold hasB
  rw [(right_iff h.1).2 h, Bool.true_and, decide_eq_true_eq, Int.toNat_natCast, and_mask hx h.2.1]
  omega
theorem covers_iff {a n b m : Nat} (h : Pf a n) (g : Pf b m) : coversB (a : Int) (n : Int) (b : Int) (m : Int) = true ↔ Cov a n b m := by
  unfold coversB
  rw [(right_iff g.1).2 g, Bool.true_and, Bool.and_eq_true, decide_eq_true_eq, has_iff h g.1]
  unfold Cov; omega
theorem less_iff {a n b m : Nat} (h : Pf a n) (g : Pf b m) : lessB (a : Int) (n : Int) (b : Int) (m : Int) = true ↔ a < b ∨ a = b ∧ n < m := by
  unfold lessB
  rw [(right_iff g.1).2 g, (right_iff h.1).2 h]
  simp
  omega

/-- What meets. -/
theorem xor_mask {a b k : Nat} (ha : a < 4294967296) (hb : b < 4294967296) (hk : k ≤ 32) : (a ^^^ b) &&& maskN (k : Int) = 0 ↔ fl a k = fl b k := by
  have hab : a ^^^ b < 4294967296 := by have := xor_le (a := a) (b := b) (by omega) (by omega); omega
  rw [and_mask hab hk]
  have key : fl (a ^^^ b) k = fl a k ^^^ fl b k := by
    apply Nat.eq_of_testBit_eq
    intro i
    rw [Nat.testBit_xor, fl_bit, fl_bit, fl_bit, Nat.testBit_xor]
    by_cases hi : 32 - k ≤ i <;> simp [hi]
  rw [key, xor_zero]
theorem meetK_spec {a b : Nat} (ha : a < 4294967296) (hb : b < 4294967296) : ∀ K : Nat, K ≤ 32 → meetK (a ^^^ b) K ≤ K ∧ fl a (meetK (a ^^^ b) K) = fl b (meetK (a ^^^ b) K) ∧ ∀ k, k ≤ K → fl a k = fl b k → k ≤ meetK (a ^^^ b) K
  | 0, _ => by
    simp only [meetK]
    exact ⟨Nat.le_refl _, by rw [fl_zero ha, fl_zero hb], fun k hk _ => hk⟩
  | K + 1, h => by
    simp only [meetK]
    split
    · rename_i h0
      exact ⟨Nat.le_refl _, (xor_mask ha hb h).1 h0, fun k hk _ => hk⟩
    · rename_i h0
      obtain ⟨h1, h2, h3⟩ := meetK_spec ha hb K (by omega)
      refine ⟨by omega, h2, fun k hk he => ?_⟩
      rcases Nat.lt_or_ge k (K + 1) with h' | h'
      · exact h3 k (by omega) he
      · obtain rfl : k = K + 1 := by omega
        exact absurd ((xor_mask ha hb h).2 he) h0
def mk' (a n b m : Nat) : Nat := meetK (a ^^^ b) (min n m)
theorem meet_pf {a n b m : Nat} (h : Pf a n) (g : Pf b m) : Pf (fl a (mk' a n b m)) (mk' a n b m) := by
  obtain ⟨h1, _⟩ := meetK_spec h.1 g.1 (min n m) (by have := h.2.1; omega)
  have : mk' a n b m ≤ 32 := by unfold mk'; have := h.2.1; omega
  exact ⟨Nat.lt_of_le_of_lt (fl_le _ _) h.1, this, fl_fl (Nat.le_refl _)⟩
/-- What covers what meets covers both, and nothing else does. -/
theorem cov_meet {z k a n b m : Nat} (h : Pf a n) (g : Pf b m) : Cov z k (fl a (mk' a n b m)) (mk' a n b m) ↔ Cov z k a n ∧ Cov z k b m := by
  obtain ⟨h1, h2, h3⟩ := meetK_spec h.1 g.1 (min n m) (by have := h.2.1; omega)
  have e : meetK (a ^^^ b) (min n m) = mk' a n b m := rfl
  rw [e] at h1 h2 h3
  constructor
  · rintro ⟨c1, c2⟩
    rw [fl_fl c1] at c2
    refine ⟨⟨by omega, c2⟩, ⟨by omega, ?_⟩⟩
    rw [← c2, ← fl_fl c1, ← h2, fl_fl c1]
  · rintro ⟨⟨c1, c2⟩, ⟨d1, d2⟩⟩
    have : k ≤ mk' a n b m := h3 k (by omega) (by rw [c2, d2])
    exact ⟨this, by rw [fl_fl this, c2]⟩
end Go.Proofs.YtdgdojlhncbggaaDoor
