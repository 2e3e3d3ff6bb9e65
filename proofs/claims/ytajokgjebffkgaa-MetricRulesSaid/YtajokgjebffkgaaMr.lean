/- Sums of costs: rounding to the nearest keeps the order, and leaves what a float holds. -/
import Derived.Test.YtajokgjebffkgaaMb
namespace Go.Proofs.Ytajokgjebffkgaa
open Go Go.Ev Go.RowKit
set_option maxRecDepth 100000
namespace Metric
/-- To the nearest, of two the even one. -/
def rhe (n g : Nat) : Nat := n / g + (decide (g < 2 * (n % g)) || (g == 2 * (n % g) && n / g % 2 == 1)).toNat
theorem rhe_mono {n m g : Nat} (_ : 0 < g) (h : n ≤ m) : rhe n g ≤ rhe m g := by
  unfold rhe
  have hd : n / g ≤ m / g := Nat.div_le_div_right h
  have b1 : ∀ b : Bool, b.toNat ≤ 1 := by intro b; cases b <;> decide
  rcases Nat.lt_or_ge (n / g) (m / g) with h1 | h1
  · have := b1 (decide (g < 2 * (n % g)) || (g == 2 * (n % g) && n / g % 2 == 1))
    omega
  · have he : n / g = m / g := by omega
    have hr : n % g ≤ m % g := by
      have e1 := Nat.div_add_mod n g
      have e2 := Nat.div_add_mod m g
      rw [he] at e1
      omega
    rw [he]
    apply Nat.add_le_add_left
    cases hc : (decide (g < 2 * (n % g)) || (g == 2 * (n % g) && m / g % 2 == 1)) with
    | false => exact Nat.zero_le _
    | true =>
      have : (decide (g < 2 * (m % g)) || (g == 2 * (m % g) && m / g % 2 == 1)) = true := by
        simp only [Bool.or_eq_true, Bool.and_eq_true, decide_eq_true_eq, beq_iff_eq] at hc ⊢
        omega
      rw [this]; exact Nat.le_refl _
theorem rhe_le {n g : Nat} : rhe n g ≤ n / g + 1 := by
  unfold rhe
  cases (decide (g < 2 * (n % g)) || (g == 2 * (n % g) && n / g % 2 == 1)) <;> simp [Bool.toNat]
theorem rhe_ge {n g : Nat} : n / g ≤ rhe n g := Nat.le_add_right _ _
theorem rhe_exact {m g : Nat} (hg : 0 < g) : rhe (m * g) g = m := by
  unfold rhe
  rw [Nat.mul_mod_left, Nat.mul_div_cancel _ hg]
  have : (decide (g < 2 * 0) || (g == 2 * 0 && m % 2 == 1)) = false := by
    simp only [Nat.mul_zero, Bool.or_eq_false_iff, decide_eq_false_iff_not, Bool.and_eq_false_iff]
    exact ⟨by omega, Or.inl (by rw [beq_eq_false_iff_ne]; omega)⟩
  rw [this]; rfl
theorem rhe_scale {m g c : Nat} (hc : 0 < c) : rhe (m * c) (g * c) = rhe m g := by
  unfold rhe
  rw [Nat.mul_div_mul_right _ _ hc, Nat.mul_mod_mul_right]
  have e1 : decide (g * c < 2 * (m % g * c)) = decide (g < 2 * (m % g)) := by
    rw [Bool.eq_iff_iff, decide_eq_true_eq, decide_eq_true_eq, ← Nat.mul_assoc]
    exact Nat.mul_lt_mul_right hc
  have e2 : (g * c == 2 * (m % g * c)) = (g == 2 * (m % g)) := by
    rw [Bool.eq_iff_iff, beq_iff_eq, beq_iff_eq, ← Nat.mul_assoc]
    exact Nat.mul_left_inj (by omega)
  rw [e1, e2]
theorem cut_eq {n drop : Nat} (h : drop ≤ n.log2 + 2) : Ieee.Toward.even.cut false n drop = rhe n (2 ^ drop) := by
  unfold Ieee.Toward.cut rhe
  simp only [Nat.min_eq_left h, Nat.shiftLeft_eq, Nat.one_mul]
/-- The rung of so many units of the least place. -/
def drop (t : Nat) : Nat := t.log2 - 52
def rnd (t : Nat) : Nat := if t = 0 then 0 else min (drop t * 4503599627370496 + rhe t (2 ^ drop t)) 9218868437227405312
theorem log2_mul (m p : Nat) (hm : m ≠ 0) : (m * 2 ^ p).log2 = m.log2 + p := by
  have h1 := Nat.log2_self_le hm
  have h2 := Nat.lt_log2_self (n := m)
  have hne : m * 2 ^ p ≠ 0 := Nat.mul_ne_zero hm (by have := Nat.two_pow_pos p; omega)
  apply Nat.le_antisymm
  · have : (m * 2 ^ p).log2 < m.log2 + p + 1 := by
      rw [Nat.log2_lt hne, show m.log2 + p + 1 = (m.log2 + 1) + p by omega, Nat.pow_add]
      exact Nat.mul_lt_mul_of_pos_right h2 (Nat.two_pow_pos p)
    omega
  · rw [Nat.le_log2 hne, Nat.pow_add]
    exact Nat.mul_le_mul_right _ h1
theorem word_pos (r : Nat) : D.word false r = r := by unfold Ieee.Format.word; rw [if_neg (by decide)]
theorem cut_num {m p q : Nat} (hq : q = m.log2 + p - 52) : Ieee.Toward.even.cut false (m <<< (p - q)) (q - p) = rhe (m * 2 ^ p) (2 ^ q) := by
  rcases Nat.lt_or_ge p q with h | h
  · have h0 : p - q = 0 := by omega
    rw [h0, Nat.shiftLeft_zero, cut_eq (by omega)]
    have : 2 ^ q = 2 ^ (q - p) * 2 ^ p := by rw [← Nat.pow_add, show q - p + p = q by omega]
    rw [this, rhe_scale (Nat.two_pow_pos p)]
  · have h0 : q - p = 0 := by omega
    rw [h0, cut_eq (by omega), Nat.pow_zero, Nat.shiftLeft_eq]
    have : m * 2 ^ p = (m * 2 ^ (p - q)) * 2 ^ q := by rw [Nat.mul_assoc, ← Nat.pow_add, show p - q + q = p by omega]
    rw [this, rhe_exact (Nat.two_pow_pos q)]
    have h1 := rhe_exact (m := m * 2 ^ (p - q)) (g := 1) (by decide)
    rw [Nat.mul_one] at h1
    exact h1
theorem near_num {m p q : Nat} (hm : m ≠ 0) (hq : q = m.log2 + p - 52) : D.nearest false m (-1074 + (p : Int)) = min (q * 4503599627370496 + rhe (m * 2 ^ p) (2 ^ q)) 9218868437227405312 := by
  unfold Ieee.Format.nearest
  rw [if_neg hm, word_pos, c2, c3, c4]
  have hf : (D.fractionBits : Int) = 52 := by decide
  rw [hf]
  have hl : max (-1074 + (p : Int) + (m.log2 : Int) - 52) (-1074) = -1074 + (q : Int) := by omega
  simp only [hl]
  have e1 : (-1074 + (p : Int) - (-1074 + (q : Int))).toNat = p - q := by omega
  have e2 : (-1074 + (q : Int) - (-1074 + (p : Int))).toNat = q - p := by omega
  have e3 : (-1074 + (q : Int) - -1074).toNat = q := by omega
  rw [e1, e2, e3, cut_num hq]
/-- What is written of a number. -/
theorem write_num (m p : Nat) : D.write (.number false m (-1074 + (p : Int))) = rnd (m * 2 ^ p) := by
  unfold Ieee.Format.write
  by_cases hm : m = 0
  · subst hm
    show D.nearest false 0 (-1074 + (p : Int)) = rnd (0 * 2 ^ p)
    unfold Ieee.Format.nearest rnd
    rw [if_pos rfl, word_pos, Nat.zero_mul, if_pos rfl]
  · have hne : m * 2 ^ p ≠ 0 := Nat.mul_ne_zero hm (by have := Nat.two_pow_pos p; omega)
    show D.nearest false m (-1074 + (p : Int)) = _
    rw [near_num hm rfl]
    unfold rnd drop
    rw [if_neg hne, log2_mul m p hm]
theorem drop_mono {s t : Nat} (hs : s ≠ 0) (h : s ≤ t) : drop s ≤ drop t := by
  unfold drop
  have ht : t ≠ 0 := by omega
  have : s.log2 ≤ t.log2 := by rw [Nat.le_log2 ht]; exact Nat.le_trans (Nat.log2_self_le hs) h
  omega
theorem rnd_mono {s t : Nat} (h : s ≤ t) : rnd s ≤ rnd t := by
  unfold rnd
  by_cases hs : s = 0
  · rw [if_pos hs]; exact Nat.zero_le _
  · have ht : t ≠ 0 := by omega
    rw [if_neg hs, if_neg ht]
    have hq := drop_mono hs h
    have key : drop s * 4503599627370496 + rhe s (2 ^ drop s) ≤ drop t * 4503599627370496 + rhe t (2 ^ drop t) := by
      rcases Nat.lt_or_ge (drop s) (drop t) with h1 | h1
      · have a1 : s / 2 ^ drop s + 1 ≤ 9007199254740992 := by
          have : s < 2 ^ (53 + drop s) := by
            have := Nat.lt_log2_self (n := s)
            refine Nat.lt_of_lt_of_le this (Nat.pow_le_pow_right (by decide) ?_)
            unfold drop; omega
          rw [Nat.pow_add] at this
          have := (Nat.div_lt_iff_lt_mul (Nat.two_pow_pos (drop s))).2 this
          omega
        have a2 : 4503599627370496 ≤ t / 2 ^ drop t := by
          rw [Nat.le_div_iff_mul_le (Nat.two_pow_pos _)]
          have hb : 52 + drop t = t.log2 := by unfold drop at h1 ⊢; omega
          have := Nat.log2_self_le ht
          rw [← hb, Nat.pow_add] at this
          exact this
        have a3 := rhe_le (n := s) (g := 2 ^ drop s)
        have a4 := rhe_ge (n := t) (g := 2 ^ drop t)
        omega
      · rw [show drop s = drop t by omega]
        exact Nat.add_le_add_left (rhe_mono (Nat.two_pow_pos _) h) _
    omega
/-- A float's own value, in units of the least place. -/
def val (x : Nat) : Nat := mag x * 2 ^ ex x
theorem rnd_val {x : Nat} (h : x < infR) : rnd (val x) = x := by
  unfold rnd val infR at *
  by_cases h0 : x < 4503599627370496
  · have hm : mag x = x := by unfold mag; rw [if_pos h0]
    have he : ex x = 0 := by unfold ex; rw [Nat.div_eq_of_lt h0]
    rw [hm, he, Nat.pow_zero, Nat.mul_one]
    by_cases hz : x = 0
    · rw [if_pos hz, hz]
    · rw [if_neg hz]
      have hd : drop x = 0 := by
        unfold drop
        have : x.log2 < 52 := by rw [Nat.log2_lt hz]; exact h0
        omega
      rw [hd, Nat.pow_zero, Nat.zero_mul, Nat.zero_add]
      have h1 := rhe_exact (m := x) (g := 1) (by decide)
      rw [Nat.mul_one] at h1
      rw [h1]; omega
  · have hm : mag x = 4503599627370496 + x % 4503599627370496 := by unfold mag; rw [if_neg h0]
    have he : ex x + 1 = x / 4503599627370496 := by unfold ex; omega
    have hmne : mag x ≠ 0 := by omega
    have hne : mag x * 2 ^ ex x ≠ 0 := Nat.mul_ne_zero hmne (by have := Nat.two_pow_pos (ex x); omega)
    have hl : (mag x).log2 = 52 := by
      apply Nat.le_antisymm
      · have : (mag x).log2 < 53 := by rw [Nat.log2_lt hmne]; show mag x < 9007199254740992; omega
        omega
      · rw [Nat.le_log2 hmne]; show 4503599627370496 ≤ mag x; omega
    rw [if_neg hne]
    have hd : drop (mag x * 2 ^ ex x) = ex x := by unfold drop; rw [log2_mul _ _ hmne, hl]; omega
    rw [hd, rhe_exact (Nat.two_pow_pos _), hm]
    omega
/-- The sum of two costs, by their bits. -/
def addN (x y : Nat) : Nat := if x = infR ∨ y = infR then infR else rnd (val x + val y)
theorem min_ex (x y : Nat) : min (-1074 + (ex x : Int)) (-1074 + (ex y : Int)) = -1074 + ((min (ex x) (ex y) : Nat) : Int) := by omega
theorem add_eq {x y : Nat} (hx : x ≤ infR) (hy : y ≤ infR) : D.add x y = some (addN x y) := by
  unfold Ieee.Format.add addN
  rcases Nat.lt_or_ge x infR with h1 | h1
  · rcases Nat.lt_or_ge y infR with h2 | h2
    · rw [if_neg (by omega), read_pos h1, read_pos h2]
      simp only [Ieee.Datum.sum, Option.map_some]
      rw [min_ex, signed_pos, signed_pos]
      have e1 : (-1074 + (ex x : Int) - (-1074 + ((min (ex x) (ex y) : Nat) : Int))).toNat = ex x - min (ex x) (ex y) := by omega
      have e2 : (-1074 + (ex y : Int) - (-1074 + ((min (ex x) (ex y) : Nat) : Int))).toNat = ex y - min (ex x) (ex y) := by omega
      rw [e1, e2, ← Int.natCast_add]
      have hneg : (if ((mag x * 2 ^ (ex x - min (ex x) (ex y)) + mag y * 2 ^ (ex y - min (ex x) (ex y)) : Nat) : Int) = 0 then false && false else decide (((mag x * 2 ^ (ex x - min (ex x) (ex y)) + mag y * 2 ^ (ex y - min (ex x) (ex y)) : Nat) : Int) < 0)) = false := by
        split
        · rfl
        · exact decide_eq_false (by omega)
      rw [hneg, Int.natAbs_natCast, write_num]
      congr 2
      unfold val
      rw [Nat.add_mul, Nat.mul_assoc, Nat.mul_assoc, ← Nat.pow_add, ← Nat.pow_add]
      congr 3 <;> congr 1 <;> omega
    · obtain rfl : y = infR := by omega
      rw [if_pos (Or.inr rfl), read_pos h1, read_inf]
      simp only [Ieee.Datum.sum, Option.map_some]; decide +kernel
  · obtain rfl : x = infR := by omega
    rw [if_pos (Or.inl rfl), read_inf]
    rcases Nat.lt_or_ge y infR with h2 | h2
    · rw [read_pos h2]
      simp only [Ieee.Datum.sum, Option.map_some]; decide +kernel
    · obtain rfl : y = infR := by omega
      rw [read_inf]; decide +kernel
theorem addN_comm (x y : Nat) : addN x y = addN y x := by
  unfold addN; rw [Nat.add_comm (val x)]; simp only [Or.comm]
theorem rnd_le (t : Nat) : rnd t ≤ infR := by unfold rnd infR; split <;> omega
theorem addN_le (x y : Nat) : addN x y ≤ infR := by unfold addN; split; exact Nat.le_refl _; exact rnd_le _
theorem addN_ge {x y : Nat} (hx : x ≤ infR) : x ≤ addN x y := by
  unfold addN
  split
  · exact hx
  · rename_i h
    have h1 : x < infR := by omega
    have := rnd_mono (Nat.le_add_right (val x) (val y))
    rw [rnd_val h1] at this
    exact this
theorem val_mono {x y : Nat} (hy : y < infR) (h : x < y) : val x ≤ val y := by
  have hle : ex x ≤ ex y := by unfold ex; have := Nat.div_le_div_right (c := 4503599627370496) (Nat.le_of_lt h); omega
  unfold val
  rcases Nat.lt_or_ge (ex x) (ex y) with h1 | h1
  · have h2 := mag_big h1
    have e : 2 ^ ex y = 2 ^ (ex y - ex x) * 2 ^ ex x := by rw [← Nat.pow_add]; congr 1; omega
    rw [e, ← Nat.mul_assoc]
    apply Nat.mul_le_mul_right
    have h3 : 2 ^ 1 ≤ 2 ^ (ex y - ex x) := Nat.pow_le_pow_right (by decide) (by omega)
    have h4 : mag y * 2 ≤ mag y * 2 ^ (ex y - ex x) := Nat.mul_le_mul_left _ (by simpa using h3)
    omega
  · have h2 : ex x = ex y := by omega
    have := mag_lt h h2 hy
    rw [h2]; exact Nat.mul_le_mul_right _ (by omega)
theorem addN_mono {x y z : Nat} (hy : y ≤ infR) (h : x < y) : addN x z ≤ addN y z := by
  unfold addN
  by_cases h1 : y = infR ∨ z = infR
  · rw [if_pos h1]; split; exact Nat.le_refl _; exact rnd_le _
  · rw [if_neg h1, if_neg (by omega)]
    exact rnd_mono (Nat.add_le_add_right (val_mono (by omega) h) _)
theorem addN_zero {x : Nat} (hx : x ≤ infR) : addN x 0 = x := by
  unfold addN
  by_cases h : x = infR
  · rw [if_pos (Or.inl h), h]
  · rw [if_neg (by unfold infR at *; omega)]
    have : val 0 = 0 := by decide +kernel
    rw [this, Nat.add_zero, rnd_val (by omega)]
end Metric
end Go.Proofs.Ytajokgjebffkgaa
