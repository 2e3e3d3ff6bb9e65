/- P2.1: of costs the bits lie as the costs do; what is no cost's bits is not read: MetricBits' ways. -/
import Derived.Test.YtajokgjebffkgaaMa
import Derived.Test.YtajokgjebffkgaaEvR
namespace Go.Proofs.Ytajokgjebffkgaa
open Go Go.Ev Go.RowKit
set_option maxRecDepth 100000
namespace Metric
def Ed : Env := pureEnv [(66, fromG), (29, rightG), (23, costG)]
theorem Ed_sound : Ed.Sound Try.prog := pureEnv_sound ⟨from_sum, right_sum, cost_sum, trivial⟩
def cA (u : Int) : List Prop := [(!decide ((↑(cleanN u.toNat) : Int) = u)) = false, (!ge0 u.toNat) = false, (!ge0 u.toNat) = false, (!ge0 u.toNat) = false, in64 u.toNat = true, (!ge0 u.toNat) = false, (!ge0 u.toNat) = false, in64 u.toNat = true, decide (0 ≤ u) = true]
def cB (u : Int) : List Prop := [(!decide ((↑(cleanN u.toNat) : Int) = u)) = true, (!ge0 u.toNat) = false, (!ge0 u.toNat) = false, (!ge0 u.toNat) = false, in64 u.toNat = true, (!ge0 u.toNat) = false, (!ge0 u.toNat) = false, in64 u.toNat = true, decide (0 ≤ u) = true]
def cC (u : Int) : List Prop := [(!ge0 u.toNat) = true, (!ge0 u.toNat) = true, (!ge0 u.toNat) = true, (!ge0 u.toNat) = true, (!ge0 u.toNat) = true, in64 u.toNat = true, decide (0 ≤ u) = true]
theorem ofA (u : Int) : evRun Try.prog Ed 50 25 [.int .u64 u] Try.prog.globals.size (some [.bit true, .bit true, .bit false, .bit false, .bit true, .bit false, .bit false, .bit false, .bit false]) = some (.tuple #[.float .f64 u.toNat, .bool true], cA u) := by kernel_rfl
theorem ofB1 (u : Int) : evRun Try.prog Ed 50 25 [.int .u64 u] Try.prog.globals.size (some [.bit true, .bit true, .bit false, .bit false, .bit true, .bit false, .bit false, .bit false, .bit true]) = some (.tuple #[.float .f64 0, .bool false], cB u) := by kernel_rfl
theorem ofC (u : Int) : evRun Try.prog Ed 50 25 [.int .u64 u] Try.prog.globals.size (some [.bit true, .bit true, .bit true, .bit true, .bit true, .bit true, .bit true, .reck 0]) = some (.tuple #[.float .f64 0, .bool false], cC u) := by kernel_rfl
theorem of_sum : PureSum Try.prog 25 ofG := .of_calls Try.func25 (by kernel_rfl) rfl fun args p v h hp _ => by
  obtain ⟨u, rfl, rfl, rfl⟩ := ofG_args h
  refine ⟨rfl, fun W => ?_⟩
  have hp' : (decide (0 ≤ u) && decide (u < 18446744073709551616)) = true := hp
  rw [Bool.and_eq_true, decide_eq_true_eq, decide_eq_true_eq] at hp'
  obtain ⟨x, rfl⟩ : ∃ x : Nat, u = x := ⟨u.toNat, by omega⟩
  have hx : x < 18446744073709551616 := by omega
  have i64 : in64 x = true := in64_iff.2 hx
  have d0 : decide ((0 : Int) ≤ (x : Int)) = true := decide_eq_true (by omega)
  by_cases h1 : x ≤ infR
  · have hb : ofB (x : Int) = true := by unfold ofB infR at *; exact decide_eq_true (by omega)
    have hg : ge0 x = true := by unfold ge0; rw [decide_eq_true h1]; rfl
    have hc : cleanN x = x := by unfold cleanN; rw [if_pos h1]
    have hd : decide (((cleanN x : Nat) : Int) = (x : Int)) = true := by rw [hc]; exact decide_eq_true rfl
    have e : (Value.tuple #[.float .f64 (ofN (x : Int)), .bool (ofB (x : Int))]) = .tuple #[.float .f64 (x : Int).toNat, .bool true] := by unfold ofN; rw [hb]; rfl
    rw [e]
    exact calls_of_run Ed_sound good Try.func25 rfl (ofA (x : Int)) (by simp only [cA, Int.toNat_natCast, List.forall_mem_cons, hg, hd, i64, d0]; simp) rfl rfl W
  · have hb : ofB (x : Int) = false := by unfold ofB infR at *; exact decide_eq_false (by omega)
    have e : (Value.tuple #[.float .f64 (ofN (x : Int)), .bool (ofB (x : Int))]) = .tuple #[.float .f64 0, .bool false] := by unfold ofN; rw [hb]; rfl
    rw [e]
    by_cases h2 : x = half
    · have hg : ge0 x = true := by unfold ge0; rw [decide_eq_true h2, Bool.or_true]
      have hd : decide (((cleanN x : Nat) : Int) = (x : Int)) = false := by unfold cleanN; rw [if_neg h1, if_pos h2]; exact decide_eq_false (by unfold half at h2; omega)
      exact calls_of_run Ed_sound good Try.func25 rfl (ofB1 (x : Int)) (by simp only [cB, Int.toNat_natCast, List.forall_mem_cons, hg, hd, i64, d0]; simp) rfl rfl W
    · have hg : ge0 x = false := by unfold ge0; rw [decide_eq_false h1, decide_eq_false h2]; rfl
      exact calls_of_run Ed_sound good Try.func25 rfl (ofC (x : Int)) (by simp only [cC, Int.toNat_natCast, List.forall_mem_cons, hg, i64, d0]; simp) rfl rfl W
theorem known_run : runTrue Try.prog Eb 200 26 #[] Try.prog.globals.size = true := by kernel_rfl
theorem known_sum : PureSum Try.prog 26 trueG := .of_calls Try.func26 (by kernel_rfl) rfl fun args p v h _ _ => by
  obtain ⟨rfl, rfl⟩ := trueG_args h
  exact ⟨rfl, fun W => calls_true Eb_sound good Try.func26 rfl known_run rfl W⟩
def E5 : Env := pureEnv [(22, lessG), (24, sameG), (23, costG), (25, ofG), (26, trueG)]
theorem E5_sound : E5.Sound Try.prog := pureEnv_sound ⟨less_sum, same_sum, cost_sum, of_sum, known_sum, trivial⟩
def cT (a b : Nat) (u : Int) : List Prop := [decide ((↑(cleanN (ofN u)) : Int) = u) = true, decide ((↑(cleanN (ofN u)) : Int) = u) = true, (ofB u == decide (u ≤ 9218868437227405312)) = true, (ofB u == decide (u ≤ 9218868437227405312)) = true, ofB u = true, ofB u = true, ofB u = true, in64 (ofN u) = true, ofB u = true, ofB u = true, (ofB u == decide (u ≤ 9218868437227405312)) = true, (!ofB u) = false, (ofB u == decide (u ≤ 9218868437227405312)) = true, (!ofB u) = false, (!ofB u) = false, (ofB u == decide (u ≤ 9218868437227405312)) = true, (ofB u == decide (u ≤ 9218868437227405312)) = true, (ofB u == decide (u ≤ 9218868437227405312)) = true, (decide (0 ≤ u) && decide (u < 18446744073709551616)) = true, (!decide (cleanN a = cleanN b) == decide ((↑(cleanN a) : Int) = (↑(cleanN b) : Int))) = false, (!decide (cleanN a < cleanN b) == decide ((↑(cleanN a) : Int) < (↑(cleanN b) : Int))) = false, (!decide (cleanN a < cleanN b) == decide ((↑(cleanN a) : Int) < (↑(cleanN b) : Int))) = false, (!decide (cleanN a < cleanN b) == decide ((↑(cleanN a) : Int) < (↑(cleanN b) : Int))) = false, in64 b = true, (!decide (cleanN a < cleanN b) == decide ((↑(cleanN a) : Int) < (↑(cleanN b) : Int))) = false, (!decide (cleanN a < cleanN b) == decide ((↑(cleanN a) : Int) < (↑(cleanN b) : Int))) = false, in64 a = true, (!decide (cleanN a < cleanN b) == decide ((↑(cleanN a) : Int) < (↑(cleanN b) : Int))) = false, (!decide (cleanN a < cleanN b) == decide ((↑(cleanN a) : Int) < (↑(cleanN b) : Int))) = false, (in64 a && in64 b) = true, (!decide (cleanN a < cleanN b) == decide ((↑(cleanN a) : Int) < (↑(cleanN b) : Int))) = false, (!decide (cleanN a < cleanN b) == decide ((↑(cleanN a) : Int) < (↑(cleanN b) : Int))) = false, (!decide (cleanN a < cleanN b) == decide ((↑(cleanN a) : Int) < (↑(cleanN b) : Int))) = false, in64 b = true, in64 a = true, (in64 a && in64 b) = true]
def cF (a b : Nat) (u : Int) : List Prop := [(ofB u == decide (u ≤ 9218868437227405312)) = true, (FloatKind.f64.format.order (ofN u) 0 == some Ordering.eq) = true, (ofB u == decide (u ≤ 9218868437227405312)) = true, (FloatKind.f64.format.order (ofN u) 0 == some Ordering.eq) = true, (FloatKind.f64.format.order (ofN u) 0 == some Ordering.eq) = true, (FloatKind.f64.format.order (ofN u) 0 == some Ordering.eq) = true, (ofB u == decide (u ≤ 9218868437227405312)) = true, (!ofB u) = true, (ofB u == decide (u ≤ 9218868437227405312)) = true, (!ofB u) = true, (!ofB u) = true, (ofB u == decide (u ≤ 9218868437227405312)) = true, (ofB u == decide (u ≤ 9218868437227405312)) = true, (ofB u == decide (u ≤ 9218868437227405312)) = true, (decide (0 ≤ u) && decide (u < 18446744073709551616)) = true, (!decide (cleanN a = cleanN b) == decide ((↑(cleanN a) : Int) = (↑(cleanN b) : Int))) = false, (!decide (cleanN a < cleanN b) == decide ((↑(cleanN a) : Int) < (↑(cleanN b) : Int))) = false, (!decide (cleanN a < cleanN b) == decide ((↑(cleanN a) : Int) < (↑(cleanN b) : Int))) = false, (!decide (cleanN a < cleanN b) == decide ((↑(cleanN a) : Int) < (↑(cleanN b) : Int))) = false, in64 b = true, (!decide (cleanN a < cleanN b) == decide ((↑(cleanN a) : Int) < (↑(cleanN b) : Int))) = false, (!decide (cleanN a < cleanN b) == decide ((↑(cleanN a) : Int) < (↑(cleanN b) : Int))) = false, in64 a = true, (!decide (cleanN a < cleanN b) == decide ((↑(cleanN a) : Int) < (↑(cleanN b) : Int))) = false, (!decide (cleanN a < cleanN b) == decide ((↑(cleanN a) : Int) < (↑(cleanN b) : Int))) = false, (in64 a && in64 b) = true, (!decide (cleanN a < cleanN b) == decide ((↑(cleanN a) : Int) < (↑(cleanN b) : Int))) = false, (!decide (cleanN a < cleanN b) == decide ((↑(cleanN a) : Int) < (↑(cleanN b) : Int))) = false, (!decide (cleanN a < cleanN b) == decide ((↑(cleanN a) : Int) < (↑(cleanN b) : Int))) = false, in64 b = true, in64 a = true, (in64 a && in64 b) = true]
theorem rowT (a b : Nat) (u : Int) : evRun Try.prog E5 50 5 [.float .f64 a, .float .f64 b, .int .u64 u] Try.prog.globals.size (some [.bit true, .bit true, .bit true, .bit false, .bit false, .bit false, .bit true, .bit false, .bit false, .bit true, .bit false, .bit false, .bit true, .bit false, .bit false, .bit false, .bit false, .bit true, .bit true, .bit true, .bit true, .bit false, .bit false, .bit true, .bit false, .bit true, .reck 1, .bit true, .bit true, .bit true, .bit true, .bit true, .reck 0, .bit true, .bit true, .reck 0, .bit true, .bit true, .bit true]) = some (.bool true, cT a b u) := by kernel_rfl
theorem rowF (a b : Nat) (u : Int) : evRun Try.prog E5 50 5 [.float .f64 a, .float .f64 b, .int .u64 u] Try.prog.globals.size (some [.bit true, .bit true, .bit true, .bit false, .bit false, .bit false, .bit true, .bit false, .bit false, .bit true, .bit false, .bit false, .bit true, .bit false, .bit false, .bit false, .bit false, .bit true, .bit true, .bit true, .bit true, .bit true, .bit true, .bit true, .bit true, .bit true, .bit true, .bit true, .bit true, .bit true, .bit true, .bit true, .reck 1]) = some (.bool true, cF a b u) := by kernel_rfl
theorem f64_wf {a : Nat} (h : (Lit.float .f64 a).wf = true) : in64 a = true := by
  rw [in64_iff]; simpa [Lit.wf] using h
theorem bits_walk (a b : Nat) (u : Int) (wa : (Lit.float .f64 a).wf = true) (wb : (Lit.float .f64 b).wf = true) (wu : (Lit.int .u64 u).wf = true) (W : World) :
    Calls Try.prog 5 #[.float .f64 a, .float .f64 b, .int .u64 u] W fun e W' => e = .returned (.bool true) ∧ Below W.heap.size W W' := by
  have ia := f64_wf wa
  have ib := f64_wf wb
  have hu : 0 ≤ u ∧ u < 18446744073709551616 := by simp [Lit.wf, IntKind.min, IntKind.max, IntKind.signed, IntKind.bits] at wu; omega
  have d0 : (decide (0 ≤ u) && decide (u < 18446744073709551616)) = true := by rw [decide_eq_true hu.1, decide_eq_true hu.2]; rfl
  have e1 : (!decide (cleanN a < cleanN b) == decide (((cleanN a : Nat) : Int) < ((cleanN b : Nat) : Int))) = false := by
    have : decide (((cleanN a : Nat) : Int) < ((cleanN b : Nat) : Int)) = decide (cleanN a < cleanN b) := by rw [Bool.eq_iff_iff, decide_eq_true_eq, decide_eq_true_eq]; omega
    rw [this]; simp
  have e2 : (!decide (cleanN a = cleanN b) == decide (((cleanN a : Nat) : Int) = ((cleanN b : Nat) : Int))) = false := by
    have : decide (((cleanN a : Nat) : Int) = ((cleanN b : Nat) : Int)) = decide (cleanN a = cleanN b) := by rw [Bool.eq_iff_iff, decide_eq_true_eq, decide_eq_true_eq]; omega
    rw [this]; simp
  have e3 : (ofB u == decide (u ≤ 9218868437227405312)) = true := by unfold ofB; simp
  have e4 : (in64 a && in64 b) = true := by rw [ia, ib]; rfl
  cases hb : ofB u with
  | true =>
    have hle : u ≤ 9218868437227405312 := by unfold ofB at hb; simpa using hb
    have hN : ofN u = u.toNat := by unfold ofN; rw [hb]; rfl
    have hi : in64 (ofN u) = true := by rw [hN, in64_iff]; omega
    have hc : decide (((cleanN (ofN u) : Nat) : Int) = u) = true := by
      rw [hN]; unfold cleanN; rw [if_pos (by unfold infR; omega)]; exact decide_eq_true (by omega)
    refine calls_of_run E5_sound good Try.func5 rfl (rowT a b u) ?_ rfl rfl W
    simp only [cT, List.forall_mem_cons, e1, e2, e3, ia, ib, d0, hi, hc]
    simp [hb]
  | false =>
    have hN : ofN u = 0 := by unfold ofN; rw [hb]; rfl
    have ho : (FloatKind.f64.format.order (ofN u) 0 == some Ordering.eq) = true := by
      rw [hN, show FloatKind.f64.format = D from rfl, ord_eq (Nat.zero_le _)]; rfl
    refine calls_of_run E5_sound good Try.func5 rfl (rowF a b u) ?_ rfl rfl W
    simp only [cF, List.forall_mem_cons, e1, e2, e3, ia, ib, d0, ho]
    simp [hb]
end Metric
end Go.Proofs.Ytajokgjebffkgaa
