/- Costs by their bits: how IEEE 754 orders what is no less than zero; what the functions of chapter 2 answer, by their bits. -/
import Derived.Test.YtajokgjebffkgaaBa
namespace Go.Proofs.Ytajokgjebffkgaa
open Go Go.Ev Go.RowKit
set_option maxRecDepth 100000
namespace Metric
def infR : Nat := 9218868437227405312
def half : Nat := 9223372036854775808
abbrev D : Ieee.Format := Ieee.double
theorem c1 : D.signWeight = 9223372036854775808 := by decide +kernel
theorem c2 : D.binade = 4503599627370496 := by decide +kernel
theorem c3 : D.infRung = 9218868437227405312 := by decide +kernel
theorem c4 : D.leastPlace = -1074 := by decide +kernel
def mag (x : Nat) : Nat := if x < 4503599627370496 then x else 4503599627370496 + x % 4503599627370496
def ex (x : Nat) : Nat := x / 4503599627370496 - 1
theorem read_any (neg : Bool) {w x : Nat} (hn : (w / 9223372036854775808 % 2 == 1) = neg) (hx : w % 9223372036854775808 = x) (h : x < 9218868437227405312) : D.read w = .number neg (mag x) (-1074 + (ex x : Int)) := by
  unfold Ieee.Format.read
  rw [c1, c2, c3, c4, hn, hx]
  unfold mag ex
  by_cases h1 : x < 4503599627370496
  · simp only [h1, if_true]
    rw [Nat.div_eq_of_lt h1]; rfl
  · simp only [h1, if_false, h, if_true]
theorem read_pos {x : Nat} (h : x < infR) : D.read x = .number false (mag x) (-1074 + (ex x : Int)) := by
  unfold infR at h
  exact read_any false (by rw [Nat.div_eq_of_lt (by omega)]; rfl) (Nat.mod_eq_of_lt (by omega)) h
theorem read_inf : D.read infR = .infinity false := by decide +kernel
theorem mag_lt {x y : Nat} (h : x < y) (he : ex x = ex y) (hy : y < infR) : mag x < mag y := by
  unfold mag ex infR at *
  split <;> split <;> omega
theorem mag_big {x y : Nat} (he : ex x < ex y) : mag x < 2 * mag y := by
  unfold mag ex at *
  split <;> split <;> omega
theorem cmp_lt {a b : Int} (h : a < b) : compare a b = .lt := by
  simp only [compare, compareOfLessAndEq, h, if_true]
theorem cmp_gt {a b : Int} (h : b < a) : compare a b = .gt := by
  have h1 : ¬ a < b := by omega
  have h2 : ¬ a = b := by omega
  simp only [compare, compareOfLessAndEq, h1, h2, if_false]
theorem cmp_eq (a : Int) : compare a a = .eq := by
  have h1 : ¬ a < a := by omega
  simp only [compare, compareOfLessAndEq, h1, if_false, if_true]
theorem signed_pos (m k : Nat) : Ieee.signed false m k = ((m * 2 ^ k : Nat) : Int) := by
  unfold Ieee.signed; simp [Nat.shiftLeft_eq]
/-- The order of two numbers no less than zero is that of their bits. -/
theorem ord_num {x y : Nat} (_ : x < infR) (hy : y < infR) (h : x < y) :
    Ieee.signed false (mag x) ((-1074 + (ex x : Int)) - min (-1074 + (ex x : Int)) (-1074 + (ex y : Int))).toNat < Ieee.signed false (mag y) ((-1074 + (ex y : Int)) - min (-1074 + (ex x : Int)) (-1074 + (ex y : Int))).toNat := by
  have hle : ex x ≤ ex y := by
    unfold ex; have := Nat.div_le_div_right (c := 4503599627370496) (Nat.le_of_lt h); omega
  rw [signed_pos, signed_pos]
  have e1 : ((-1074 + (ex x : Int)) - min (-1074 + (ex x : Int)) (-1074 + (ex y : Int))).toNat = 0 := by omega
  have e2 : ((-1074 + (ex y : Int)) - min (-1074 + (ex x : Int)) (-1074 + (ex y : Int))).toNat = ex y - ex x := by omega
  rw [e1, e2, Nat.pow_zero, Nat.mul_one]
  rcases Nat.lt_or_ge (ex x) (ex y) with h1 | h1
  · have h2 := mag_big h1
    have h3 : 2 ^ 1 ≤ 2 ^ (ex y - ex x) := Nat.pow_le_pow_right (by decide) (by omega)
    have h4 : mag y * 2 ≤ mag y * 2 ^ (ex y - ex x) := Nat.mul_le_mul_left _ (by simpa using h3)
    omega
  · have h2 : ex x = ex y := by omega
    have := mag_lt h h2 hy
    rw [show ex y - ex x = 0 by omega, Nat.pow_zero, Nat.mul_one]; omega
theorem ord_lt {x y : Nat} (hy : y ≤ infR) (h : x < y) : D.order x y = some .lt := by
  unfold Ieee.Format.order
  have hx : x < infR := by omega
  rcases Nat.lt_or_ge y infR with hy' | hy'
  · rw [read_pos hx, read_pos hy']
    simp only [Ieee.Datum.order]
    rw [cmp_lt (ord_num hx hy' h)]
  · obtain rfl : y = infR := by omega
    rw [read_pos hx, read_inf]; rfl
theorem ord_gt {x y : Nat} (hx : x ≤ infR) (h : y < x) : D.order x y = some .gt := by
  unfold Ieee.Format.order
  have hy : y < infR := by omega
  rcases Nat.lt_or_ge x infR with hx' | hx'
  · rw [read_pos hx', read_pos hy]
    simp only [Ieee.Datum.order]
    have := ord_num hy hx' h
    rw [Int.min_comm] at this
    rw [cmp_gt this]
  · obtain rfl : x = infR := by omega
    rw [read_pos hy, read_inf]; rfl
theorem ord_eq {x : Nat} (hx : x ≤ infR) : D.order x x = some .eq := by
  unfold Ieee.Format.order
  rcases Nat.lt_or_ge x infR with hx' | hx'
  · rw [read_pos hx']
    simp only [Ieee.Datum.order]
    rw [cmp_eq]
  · obtain rfl : x = infR := by omega
    rw [read_inf]; rfl
theorem lt_iff {x y : Nat} (hx : x ≤ infR) (hy : y ≤ infR) : (D.order x y == some .lt) = decide (x < y) := by
  rcases Nat.lt_trichotomy x y with h | h | h
  · rw [ord_lt hy h, decide_eq_true h]; rfl
  · subst h; rw [ord_eq hx, decide_eq_false (Nat.lt_irrefl _)]; rfl
  · rw [ord_gt hx h, decide_eq_false (by omega)]; rfl
theorem eq_iff {x y : Nat} (hx : x ≤ infR) (hy : y ≤ infR) : (D.order x y == some .eq) = decide (x = y) := by
  rcases Nat.lt_trichotomy x y with h | h | h
  · rw [ord_lt hy h, decide_eq_false (by omega)]; rfl
  · subst h; rw [ord_eq hx, decide_eq_true rfl]; rfl
  · rw [ord_gt hx h, decide_eq_false (by omega)]; rfl
/-- Below zero, or no number: it is neither zero nor above it. -/
theorem ord_none {a : Nat} (h : infR < a) (h2 : a ≠ half) (h3 : a < 18446744073709551616) : D.order a 0 = none ∨ D.order a 0 = some .lt := by
  unfold infR half at *
  unfold Ieee.Format.order
  have h0 : D.read 0 = .number false 0 (-1074) := by decide +kernel
  rw [h0]
  by_cases hs : a < 9223372036854775808
  · left
    have : D.read a = .nan false (a - 9218868437227405312) := by
      unfold Ieee.Format.read
      rw [c1, c2, c3, c4, Nat.mod_eq_of_lt hs, Nat.div_eq_of_lt hs]
      rw [if_neg (by omega), if_neg (by omega), if_neg (by omega)]; rfl
    rw [this]; rfl
  · have hn : (a / 9223372036854775808 % 2 == 1) = true := by
      have : a / 9223372036854775808 % 2 = 1 := by omega
      rw [this]; rfl
    have hm : a % 9223372036854775808 = a - 9223372036854775808 := by omega
    by_cases hr : a - 9223372036854775808 < 9218868437227405312
    · right
      rw [read_any true hn hm hr]
      simp only [Ieee.Datum.order]
      have hpos : 0 < mag (a - 9223372036854775808) := by unfold mag; split <;> omega
      have : ∀ k, 0 < mag (a - 9223372036854775808) * 2 ^ k := fun k => Nat.mul_pos hpos (Nat.two_pow_pos _)
      rw [cmp_lt]
      unfold Ieee.signed
      rw [if_pos rfl, if_neg (by decide), Nat.shiftLeft_eq, Nat.shiftLeft_eq, Nat.zero_mul]
      have := this ((-1074 + (ex (a - 9223372036854775808) : Int)) - min (-1074 + (ex (a - 9223372036854775808) : Int)) (-1074)).toNat
      omega
    · by_cases he : a - 9223372036854775808 = 9218868437227405312
      · right
        obtain rfl : a = 18442240474082181120 := by omega
        decide +kernel
      · left
        have : D.read a = .nan true (a - 9223372036854775808 - 9218868437227405312) := by
          unfold Ieee.Format.read
          rw [c1, c2, c3, c4, hm, hn]
          rw [if_neg (by omega), if_neg (by omega), if_neg (by omega)]
        rw [this]; rfl
theorem ord_half : D.order half 0 = some .eq := by decide +kernel

def in64 (a : Nat) : Bool := Nat.blt a 18446744073709551616
theorem in64_iff {a : Nat} : in64 a = true ↔ a < 18446744073709551616 := by unfold in64; rw [Nat.blt_eq]
def ge0 (a : Nat) : Bool := decide (a ≤ infR) || decide (a = half)
def cleanN (a : Nat) : Nat := if a ≤ infR then a else if a = half then 0 else infR
theorem clean_le (a : Nat) : cleanN a ≤ infR := by unfold cleanN infR half; split <;> (try split) <;> omega
theorem ge_iff {a : Nat} (h : a < 18446744073709551616) : (D.order a 0 == some .gt || D.order a 0 == some .eq) = ge0 a := by
  unfold ge0
  by_cases h1 : a ≤ infR
  · rw [decide_eq_true h1, Bool.true_or]
    rcases Nat.eq_zero_or_pos a with rfl | hp
    · rw [ord_eq h1]; rfl
    · rw [ord_gt h1 hp]; rfl
  · by_cases h2 : a = half
    · subst h2; rw [ord_half]; decide +kernel
    · rw [decide_eq_false h1, decide_eq_false h2]
      rcases ord_none (by omega) h2 h with e | e <;> rw [e] <;> rfl
theorem zero_iff {a : Nat} (h : ge0 a = true) : (D.order a 0 == some .eq) = (decide (a = 0) || decide (a = half)) := by
  unfold ge0 at h
  by_cases h1 : a ≤ infR
  · rw [eq_iff h1 (Nat.zero_le _)]
    have : ¬ a = half := by unfold half infR at *; omega
    rw [decide_eq_false this, Bool.or_false]
  · rw [decide_eq_false h1, Bool.false_or, decide_eq_true_eq] at h
    subst h; rw [ord_half]; decide +kernel

/-! What the functions answer. -/
def bitsG : PFun
  | [.float .f64 b] => some (none, .int .u64 (b : Nat))
  | _ => none
def fromG : PFun
  | [.int .u64 b] => some (some (decide (0 ≤ b)), .float .f64 b.toNat)
  | _ => none
theorem bits_sum : PureSum Try.prog 65 bitsG := by
  intro args p v hg hp ha
  unfold bitsG at hg
  split at hg
  case h_2 => cases hg
  rename_i b
  simp only [Option.some.injEq, Prod.mk.injEq] at hg
  obtain ⟨_, rfl⟩ := hg
  refine ⟨rfl, fun W => ?_⟩
  rw [callFunc_extern Try.func65 (by kernel_rfl) rfl (by kernel_rfl) (e := Extern.MathFloatBits.float64bits) (by kernel_rfl)]
  exact ⟨rfl, rfl⟩
theorem from_sum : PureSum Try.prog 66 fromG := by
  intro args p v hg hp ha
  unfold fromG at hg
  split at hg
  case h_2 => cases hg
  rename_i b
  simp only [Option.some.injEq, Prod.mk.injEq] at hg
  obtain ⟨_, rfl⟩ := hg
  refine ⟨rfl, fun W => ?_⟩
  rw [callFunc_extern Try.func66 (by kernel_rfl) rfl (by kernel_rfl) (e := Extern.MathFloatBits.float64frombits) (by kernel_rfl)]
  exact ⟨rfl, rfl⟩
def Eb : Env := pureEnv [(65, bitsG), (66, fromG)]
theorem Eb_sound : Eb.Sound Try.prog := pureEnv_sound ⟨bits_sum, from_sum, trivial⟩
def on1F (f : Nat → Value) : PFun
  | [.float .f64 a] => some (some (in64 a), f a)
  | _ => none
def on2F (f : Nat → Nat → Value) : PFun
  | [.float .f64 a, .float .f64 b] => some (some (in64 a && in64 b), f a b)
  | _ => none
theorem on1F_args {f : Nat → Value} {args : List Value} {p : Option Bool} {v : Value} (h : on1F f args = some (p, v)) : ∃ a, args = [.float .f64 a] ∧ p = some (in64 a) ∧ v = f a := by
  unfold on1F at h
  split at h
  · simp only [Option.some.injEq, Prod.mk.injEq] at h
    exact ⟨_, rfl, h.1.symm, h.2.symm⟩
  · cases h
theorem on2F_args {f : Nat → Nat → Value} {args : List Value} {p : Option Bool} {v : Value} (h : on2F f args = some (p, v)) : ∃ a b, args = [.float .f64 a, .float .f64 b] ∧ p = some (in64 a && in64 b) ∧ v = f a b := by
  unfold on2F at h
  split at h
  · simp only [Option.some.injEq, Prod.mk.injEq] at h
    exact ⟨_, _, rfl, h.1.symm, h.2.symm⟩
  · cases h
def rightG : PFun := on1F fun a => .bool (ge0 a)
def cleanG : PFun := on1F fun a => .float .f64 (cleanN a)
def lessG : PFun := on2F fun a b => .bool (decide (cleanN a < cleanN b))
def sameG : PFun := on2F fun a b => .bool (decide (cleanN a = cleanN b))
def costG : PFun := on1F fun a => .int .u64 (cleanN a : Nat)
def ofB (u : Int) : Bool := decide (u ≤ 9218868437227405312)
def ofN (u : Int) : Nat := if ofB u then u.toNat else 0
def ofG : PFun
  | [.int .u64 u] => some (some (decide (0 ≤ u) && decide (u < 18446744073709551616)), .tuple #[.float .f64 (ofN u), .bool (ofB u)])
  | _ => none
theorem ofG_args {args : List Value} {p : Option Bool} {v : Value} (h : ofG args = some (p, v)) : ∃ u, args = [.int .u64 u] ∧ p = some (decide (0 ≤ u) && decide (u < 18446744073709551616)) ∧ v = .tuple #[.float .f64 (ofN u), .bool (ofB u)] := by
  unfold ofG at h
  split at h
  · simp only [Option.some.injEq, Prod.mk.injEq] at h
    exact ⟨_, rfl, h.1.symm, h.2.symm⟩
  · cases h
def rightT (a : Nat) : PT := .leaf (.bool (FloatKind.f64.format.order a 0 == some .gt || FloatKind.f64.format.order a 0 == some .eq))
theorem rightT_fits (a : Nat) : (rightT a).Fits fun π => evRun Try.prog Eb 50 29 [.float .f64 a] Try.prog.globals.size (some π) := by unfold PT.Fits; kernel_rfl
theorem right_sum : PureSum Try.prog 29 rightG := .of_tree Eb_sound good Try.func29 (by kernel_rfl) rfl fun args p v h hp _ => by
  obtain ⟨a, rfl, rfl, rfl⟩ := on1F_args h
  refine ⟨rfl, _, rightT_fits a, ?_⟩
  unfold rightT
  rw [PT.val_leaf]
  exact congrArg (fun b => some (Value.bool b)) (ge_iff (in64_iff.1 hp))
def Er : Env := pureEnv [(65, bitsG), (66, fromG), (29, rightG)]
theorem Er_sound : Er.Sound Try.prog := pureEnv_sound ⟨bits_sum, from_sum, right_sum, trivial⟩
def cleanT (a : Nat) : PT := .need (in64 a) true (.test (!ge0 a) (.reck 1 (.leaf (.float .f64 (Int.toNat 9218868437227405312)))) (.test (FloatKind.f64.format.order a 0 == some .eq) (.leaf (.float .f64 0)) (.leaf (.float .f64 a))))
theorem cleanT_fits (a : Nat) : (cleanT a).Fits fun π => evRun Try.prog Er 50 31 [.float .f64 a] Try.prog.globals.size (some π) := by unfold PT.Fits; kernel_rfl
theorem clean_sum : PureSum Try.prog 31 cleanG := .of_tree Er_sound good Try.func31 (by kernel_rfl) rfl fun args p v h hp _ => by
  obtain ⟨a, rfl, rfl, rfl⟩ := on1F_args h
  refine ⟨rfl, _, cleanT_fits a, ?_⟩
  have hp' : in64 a = true := hp
  unfold cleanT cleanN
  rw [PT.val_need, if_pos hp', PT.val_test, PT.val_reck, PT.val_leaf, PT.val_test, PT.val_leaf, PT.val_leaf]
  cases hg : ge0 a with
  | false =>
    unfold ge0 at hg
    simp only [Bool.or_eq_false_iff, decide_eq_false_iff_not] at hg
    rw [if_pos (show (!false) = true from rfl), if_neg hg.1, if_neg hg.2]; rfl
  | true =>
    rw [if_neg (by decide), show FloatKind.f64.format = D from rfl, zero_iff hg]
    unfold ge0 at hg
    simp only [Bool.or_eq_true, decide_eq_true_eq] at hg ⊢
    by_cases h1 : a ≤ infR
    · have : ¬ a = half := by unfold half infR at *; omega
      rw [if_pos h1]
      by_cases h0 : a = 0
      · rw [if_pos (Or.inl h0), h0]
      · rw [if_neg (by rintro (h | h); exact h0 h; exact this h)]
    · have h2 : a = half := hg.resolve_left h1
      rw [if_neg h1, if_pos h2, if_pos (Or.inr h2)]
def Ec : Env := pureEnv [(65, bitsG), (66, fromG), (29, rightG), (31, cleanG)]
theorem Ec_sound : Ec.Sound Try.prog := pureEnv_sound ⟨bits_sum, from_sum, right_sum, clean_sum, trivial⟩
def lessT (a b : Nat) : PT := .need (in64 a) true (.need (in64 b) true (.leaf (.bool (FloatKind.f64.format.order (cleanN a) (cleanN b) == some .lt))))
theorem lessT_fits (a b : Nat) : (lessT a b).Fits fun π => evRun Try.prog Ec 50 22 [.float .f64 a, .float .f64 b] Try.prog.globals.size (some π) := by unfold PT.Fits; kernel_rfl
theorem less_sum : PureSum Try.prog 22 lessG := .of_tree Ec_sound good Try.func22 (by kernel_rfl) rfl fun args p v h hp _ => by
  obtain ⟨a, b, rfl, rfl, rfl⟩ := on2F_args h
  refine ⟨rfl, _, lessT_fits a b, ?_⟩
  have hp' : (in64 a && in64 b) = true := hp
  rw [Bool.and_eq_true] at hp'
  unfold lessT
  rw [PT.val_need, if_pos hp'.1, PT.val_need, if_pos hp'.2, PT.val_leaf]
  exact congrArg (fun b => some (Value.bool b)) (lt_iff (clean_le a) (clean_le b))
def sameT (a b : Nat) : PT := .need (in64 a) true (.need (in64 b) true (.leaf (.bool (FloatKind.f64.format.order (cleanN a) (cleanN b) == some .eq))))
theorem sameT_fits (a b : Nat) : (sameT a b).Fits fun π => evRun Try.prog Ec 50 24 [.float .f64 a, .float .f64 b] Try.prog.globals.size (some π) := by unfold PT.Fits; kernel_rfl
theorem same_sum : PureSum Try.prog 24 sameG := .of_tree Ec_sound good Try.func24 (by kernel_rfl) rfl fun args p v h hp _ => by
  obtain ⟨a, b, rfl, rfl, rfl⟩ := on2F_args h
  refine ⟨rfl, _, sameT_fits a b, ?_⟩
  have hp' : (in64 a && in64 b) = true := hp
  rw [Bool.and_eq_true] at hp'
  unfold sameT
  rw [PT.val_need, if_pos hp'.1, PT.val_need, if_pos hp'.2, PT.val_leaf]
  exact congrArg (fun b => some (Value.bool b)) (eq_iff (clean_le a) (clean_le b))
def costT (a : Nat) : PT := .need (in64 a) true (.leaf (.int .u64 (cleanN a : Nat)))
theorem costT_fits (a : Nat) : (costT a).Fits fun π => evRun Try.prog Ec 50 23 [.float .f64 a] Try.prog.globals.size (some π) := by unfold PT.Fits; kernel_rfl
theorem cost_sum : PureSum Try.prog 23 costG := .of_tree Ec_sound good Try.func23 (by kernel_rfl) rfl fun args p v h hp _ => by
  obtain ⟨a, rfl, rfl, rfl⟩ := on1F_args h
  have hp' : in64 a = true := hp
  exact ⟨rfl, _, costT_fits a, by unfold costT; rw [PT.val_need, if_pos hp', PT.val_leaf]⟩
end Metric
end Go.Proofs.Ytajokgjebffkgaa
