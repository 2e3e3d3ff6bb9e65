/- P2.1: sums go both ways, and are no less than either; less is an order; bits come back: MetricRules' ways. -/
import Derived.Test.YtajokgjebffkgaaMr
namespace Go.Proofs.Ytajokgjebffkgaa
open Go Go.Ev Go.RowKit
set_option maxRecDepth 100000
namespace Metric
def addG : PFun := on2F fun a b => .float .f64 (addN (cleanN a) (cleanN b))
def Ex : Env := pureEnv [(31, cleanG)]
theorem Ex_sound : Ex.Sound Try.prog := pureEnv_sound ⟨clean_sum, trivial⟩
theorem add_run (a b S : Nat) : evRun Try.prog Ex 50 27 [.float .f64 a, .float .f64 b] Try.prog.globals.size (some [.bit true, .bit true, .nm 0 (.float .f64 S)]) = some (.float .f64 S, [floatBits .add .f64 (cleanN a) (cleanN b) = some S, in64 b = true, in64 a = true]) := by kernel_rfl
theorem add_sum : PureSum Try.prog 27 addG := .of_calls Try.func27 (by kernel_rfl) rfl fun args p v h hp _ => by
  obtain ⟨a, b, rfl, rfl, rfl⟩ := on2F_args h
  have hp' : (in64 a && in64 b) = true := hp
  rw [Bool.and_eq_true] at hp'
  exact ⟨rfl, fun W => calls_of_run Ex_sound good Try.func27 rfl (add_run a b _) (by simp only [List.forall_mem_cons]; exact ⟨add_eq (clean_le a) (clean_le b), hp'.2, hp'.1, by simp⟩) rfl rfl W⟩
def signG : PFun
  | [.float .f64 a] => some (some (Nat.ble a infR), .bool false)
  | _ => none
theorem signG_args {args : List Value} {p : Option Bool} {v : Value} (h : signG args = some (p, v)) : ∃ a, args = [.float .f64 a] ∧ p = some (Nat.ble a infR) ∧ v = .bool false := by
  unfold signG at h
  split at h
  · simp only [Option.some.injEq, Prod.mk.injEq] at h
    exact ⟨_, rfl, h.1.symm, h.2.symm⟩
  · cases h
def signT (a : Nat) : PT := .leaf (.bool (decide (wrapF .i64 (a : Int) < 0)))
theorem signT_fits (a : Nat) : (signT a).Fits fun π => evRun Try.prog Eb 50 30 [.float .f64 a] Try.prog.globals.size (some π) := by unfold PT.Fits; kernel_rfl
theorem sign_sum : PureSum Try.prog 30 signG := .of_tree Eb_sound good Try.func30 (by kernel_rfl) rfl fun args p v h hp _ => by
  obtain ⟨a, rfl, rfl, rfl⟩ := signG_args h
  refine ⟨rfl, _, signT_fits a, ?_⟩
  have hp' : Nat.ble a infR = true := hp
  have hle : a ≤ infR := Nat.le_of_ble_eq_true hp'
  unfold infR at hle
  unfold signT
  rw [PT.val_leaf, wrap64 (by omega) (by omega), decide_eq_false (by omega)]
def E6 : Env := pureEnv [(22, lessG), (24, sameG), (23, costG), (25, ofG), (26, trueG), (27, addG), (29, rightG), (31, cleanG), (30, signG), (65, bitsG)]
theorem E6_sound : E6.Sound Try.prog := pureEnv_sound ⟨less_sum, same_sum, cost_sum, of_sum, known_sum, add_sum, right_sum, clean_sum, sign_sum, bits_sum, trivial⟩
def lessP (x y : Nat) (r : Bool) : Prop := Value.bool (decide (cleanN x < cleanN y)) = Value.bool r
def sameP (x y : Nat) (r : Bool) : Prop := Value.bool (decide (cleanN x = cleanN y)) = Value.bool r
def addP (x y s : Nat) : Prop := Value.float .f64 (addN (cleanN x) (cleanN y)) = Value.float .f64 s
def cleanP (x y : Nat) : Prop := Value.float .f64 (cleanN x) = Value.float .f64 y
def costP (x y : Nat) : Prop := Value.int .u64 ((cleanN x : Nat) : Int) = Value.int .u64 (y : Int)
def geP (x : Nat) : Prop := Value.bool (ge0 x) = Value.bool true
def ofP (x : Nat) : Prop := Value.tuple #[.float .f64 (ofN (x : Int)), .bool (ofB (x : Int))] = Value.tuple #[.float .f64 x, .bool true]
def qA (a b c S P Q X : Nat) : List Prop := [decide ((↑X : Int) = (↑X : Int)) = true, decide ((↑X : Int) = (↑X : Int)) = true, cleanP a X, in64 a = true, addP a 0 X, (in64 a && in64 0) = true, decide ((↑X : Int) = (↑X : Int)) = true, sameP a X true, (in64 a && in64 X) = true, decide ((↑X : Int) = (↑X : Int)) = true, decide ((↑X : Int) = (↑X : Int)) = true, decide ((↑X : Int) = (↑X : Int)) = true, cleanP a X, in64 a = true, ofP X, (decide (0 ≤ (↑X : Int)) && decide ((↑X : Int) < 18446744073709551616)) = true, costP a X, in64 a = true, lessP P Q false, (in64 P && in64 Q) = true, addP a c Q, (in64 a && in64 c) = true, addP b c P, (in64 b && in64 c) = true, lessP a b true, (in64 a && in64 b) = true, lessP a c true, (in64 a && in64 c) = true, lessP b c true, (in64 b && in64 c) = true, lessP a b true, (in64 a && in64 b) = true, lessP a b true, (in64 a && in64 b) = true, sameP a b false, (in64 a && in64 b) = true, lessP b a false, (in64 b && in64 a) = true, lessP a b true, (in64 a && in64 b) = true, Value.bool false = Value.bool false, S.ble infR = true, geP S, in64 S = true, lessP S b false, (in64 S && in64 b) = true, (!decide ((↑S : Int) = (↑S : Int))) = false, lessP S a false, (in64 S && in64 a) = true, (!decide ((↑S : Int) = (↑S : Int))) = false, (!decide ((↑S : Int) = (↑S : Int))) = false, (!decide ((↑S : Int) = (↑S : Int))) = false, addP b a S, (in64 b && in64 a) = true, addP a b S, (in64 a && in64 b) = true]
theorem wA (a b c S P Q X : Nat) : evRun Try.prog E6 60 6 [.float .f64 a, .float .f64 b, .float .f64 c] Try.prog.globals.size (some [.bit true, .as (.float .f64 S), .bit true, .as (.float .f64 S), .bit false, .bit false, .bit false, .bit true, .as (.bool false), .bit false, .reck 2, .bit true, .as (.bool false), .reck 2, .bit true, .as (.bool true), .reck 3, .bit true, .as (.bool false), .reck 1, .bit true, .as (.bool true), .reck 2, .bit true, .as (.bool false), .reck 3, .bit true, .as (.bool false), .reck 5, .bit true, .as (.bool true), .reck 18, .bit true, .as (.bool true), .reck 3, .bit true, .as (.bool true), .reck 5, .bit true, .as (.bool true), .reck 4, .bit true, .as (.bool true), .reck 2, .bit true, .as (.float .f64 P), .reck 2, .bit true, .as (.float .f64 Q), .reck 0, .bit true, .as (.bool false), .reck 1, .bit true, .as (.int .u64 (X : Nat)), .bit true, .as (.tuple #[.float .f64 X, .bool true]), .reck 2, .bit true, .as (.float .f64 X), .reck 1, .bit true, .bit true, .bit true, .bit true, .as (.bool true), .bit true, .reck 1, .bit true, .as (.float .f64 X), .reck 1, .bit true, .as (.float .f64 X), .reck 1, .bit true, .bit true]) = some (.bool true, qA a b c S P Q X) := by kernel_rfl
def qB (a b c S P Q X : Nat) : List Prop := [decide ((↑X : Int) = (↑X : Int)) = true, decide ((↑X : Int) = (↑X : Int)) = true, cleanP a X, in64 a = true, addP a 0 X, (in64 a && in64 0) = true, decide ((↑X : Int) = (↑X : Int)) = true, sameP a X true, (in64 a && in64 X) = true, decide ((↑X : Int) = (↑X : Int)) = true, decide ((↑X : Int) = (↑X : Int)) = true, decide ((↑X : Int) = (↑X : Int)) = true, cleanP a X, in64 a = true, ofP X, (decide (0 ≤ (↑X : Int)) && decide ((↑X : Int) < 18446744073709551616)) = true, costP a X, in64 a = true, lessP P Q false, (in64 P && in64 Q) = true, addP a c Q, (in64 a && in64 c) = true, addP b c P, (in64 b && in64 c) = true, lessP a b true, (in64 a && in64 b) = true, lessP b c false, (in64 b && in64 c) = true, lessP a b true, (in64 a && in64 b) = true, lessP a b true, (in64 a && in64 b) = true, sameP a b false, (in64 a && in64 b) = true, lessP b a false, (in64 b && in64 a) = true, lessP a b true, (in64 a && in64 b) = true, Value.bool false = Value.bool false, S.ble infR = true, geP S, in64 S = true, lessP S b false, (in64 S && in64 b) = true, (!decide ((↑S : Int) = (↑S : Int))) = false, lessP S a false, (in64 S && in64 a) = true, (!decide ((↑S : Int) = (↑S : Int))) = false, (!decide ((↑S : Int) = (↑S : Int))) = false, (!decide ((↑S : Int) = (↑S : Int))) = false, addP b a S, (in64 b && in64 a) = true, addP a b S, (in64 a && in64 b) = true]
theorem wB (a b c S P Q X : Nat) : evRun Try.prog E6 60 6 [.float .f64 a, .float .f64 b, .float .f64 c] Try.prog.globals.size (some [.bit true, .as (.float .f64 S), .bit true, .as (.float .f64 S), .bit false, .bit false, .bit false, .bit true, .as (.bool false), .bit false, .reck 2, .bit true, .as (.bool false), .reck 2, .bit true, .as (.bool true), .reck 3, .bit true, .as (.bool false), .reck 1, .bit true, .as (.bool true), .reck 2, .bit true, .as (.bool false), .reck 3, .bit true, .as (.bool false), .reck 5, .bit true, .as (.bool true), .reck 18, .bit true, .as (.bool true), .reck 3, .bit true, .as (.bool false), .reck 10, .bit true, .as (.bool true), .reck 2, .bit true, .as (.float .f64 P), .reck 2, .bit true, .as (.float .f64 Q), .reck 0, .bit true, .as (.bool false), .reck 1, .bit true, .as (.int .u64 (X : Nat)), .bit true, .as (.tuple #[.float .f64 X, .bool true]), .reck 2, .bit true, .as (.float .f64 X), .reck 1, .bit true, .bit true, .bit true, .bit true, .as (.bool true), .bit true, .reck 1, .bit true, .as (.float .f64 X), .reck 1, .bit true, .as (.float .f64 X), .reck 1, .bit true, .bit true]) = some (.bool true, qB a b c S P Q X) := by kernel_rfl
def qC (a b _ S _ _ X : Nat) : List Prop := [decide ((↑X : Int) = (↑X : Int)) = true, decide ((↑X : Int) = (↑X : Int)) = true, cleanP a X, in64 a = true, addP a 0 X, (in64 a && in64 0) = true, decide ((↑X : Int) = (↑X : Int)) = true, sameP a X true, (in64 a && in64 X) = true, decide ((↑X : Int) = (↑X : Int)) = true, decide ((↑X : Int) = (↑X : Int)) = true, decide ((↑X : Int) = (↑X : Int)) = true, cleanP a X, in64 a = true, ofP X, (decide (0 ≤ (↑X : Int)) && decide ((↑X : Int) < 18446744073709551616)) = true, costP a X, in64 a = true, lessP a b false, (in64 a && in64 b) = true, lessP a b false, (in64 a && in64 b) = true, sameP a b true, (in64 a && in64 b) = true, lessP b a false, (in64 b && in64 a) = true, lessP a b false, (in64 a && in64 b) = true, lessP a b false, (in64 a && in64 b) = true, Value.bool false = Value.bool false, S.ble infR = true, geP S, in64 S = true, lessP S b false, (in64 S && in64 b) = true, (!decide ((↑S : Int) = (↑S : Int))) = false, lessP S a false, (in64 S && in64 a) = true, (!decide ((↑S : Int) = (↑S : Int))) = false, (!decide ((↑S : Int) = (↑S : Int))) = false, (!decide ((↑S : Int) = (↑S : Int))) = false, addP b a S, (in64 b && in64 a) = true, addP a b S, (in64 a && in64 b) = true]
theorem wC (a b c S P Q X : Nat) : evRun Try.prog E6 60 6 [.float .f64 a, .float .f64 b, .float .f64 c] Try.prog.globals.size (some [.bit true, .as (.float .f64 S), .bit true, .as (.float .f64 S), .bit false, .bit false, .bit false, .bit true, .as (.bool false), .bit false, .reck 2, .bit true, .as (.bool false), .reck 2, .bit true, .as (.bool true), .reck 3, .bit true, .as (.bool false), .reck 1, .bit true, .as (.bool false), .reck 8, .bit true, .as (.bool false), .reck 4, .bit true, .as (.bool false), .reck 6, .bit true, .as (.bool true), .reck 6, .bit true, .as (.bool false), .reck 14, .bit true, .as (.bool false), .reck 8, .bit true, .as (.int .u64 (X : Nat)), .bit true, .as (.tuple #[.float .f64 X, .bool true]), .reck 2, .bit true, .as (.float .f64 X), .reck 1, .bit true, .bit true, .bit true, .bit true, .as (.bool true), .bit true, .reck 1, .bit true, .as (.float .f64 X), .reck 1, .bit true, .as (.float .f64 X), .reck 1, .bit true, .bit true]) = some (.bool true, qC a b c S P Q X) := by kernel_rfl
def qD (a b _ S _ _ X : Nat) : List Prop := [decide ((↑X : Int) = (↑X : Int)) = true, decide ((↑X : Int) = (↑X : Int)) = true, cleanP a X, in64 a = true, addP a 0 X, (in64 a && in64 0) = true, decide ((↑X : Int) = (↑X : Int)) = true, sameP a X true, (in64 a && in64 X) = true, decide ((↑X : Int) = (↑X : Int)) = true, decide ((↑X : Int) = (↑X : Int)) = true, decide ((↑X : Int) = (↑X : Int)) = true, cleanP a X, in64 a = true, ofP X, (decide (0 ≤ (↑X : Int)) && decide ((↑X : Int) < 18446744073709551616)) = true, costP a X, in64 a = true, lessP a b false, (in64 a && in64 b) = true, lessP a b false, (in64 a && in64 b) = true, lessP b a true, (in64 b && in64 a) = true, lessP a b false, (in64 a && in64 b) = true, lessP a b false, (in64 a && in64 b) = true, Value.bool false = Value.bool false, S.ble infR = true, geP S, in64 S = true, lessP S b false, (in64 S && in64 b) = true, (!decide ((↑S : Int) = (↑S : Int))) = false, lessP S a false, (in64 S && in64 a) = true, (!decide ((↑S : Int) = (↑S : Int))) = false, (!decide ((↑S : Int) = (↑S : Int))) = false, (!decide ((↑S : Int) = (↑S : Int))) = false, addP b a S, (in64 b && in64 a) = true, addP a b S, (in64 a && in64 b) = true]
theorem wD (a b c S P Q X : Nat) : evRun Try.prog E6 60 6 [.float .f64 a, .float .f64 b, .float .f64 c] Try.prog.globals.size (some [.bit true, .as (.float .f64 S), .bit true, .as (.float .f64 S), .bit false, .bit false, .bit false, .bit true, .as (.bool false), .bit false, .reck 2, .bit true, .as (.bool false), .reck 2, .bit true, .as (.bool true), .reck 3, .bit true, .as (.bool false), .reck 1, .bit true, .as (.bool false), .reck 8, .bit true, .as (.bool false), .reck 4, .bit true, .as (.bool true), .reck 13, .bit true, .as (.bool false), .reck 14, .bit true, .as (.bool false), .reck 8, .bit true, .as (.int .u64 (X : Nat)), .bit true, .as (.tuple #[.float .f64 X, .bool true]), .reck 2, .bit true, .as (.float .f64 X), .reck 1, .bit true, .bit true, .bit true, .bit true, .as (.bool true), .bit true, .reck 1, .bit true, .as (.float .f64 X), .reck 1, .bit true, .as (.float .f64 X), .reck 1, .bit true, .bit true]) = some (.bool true, qD a b c S P Q X) := by kernel_rfl
theorem clean_id {s : Nat} (h : s ≤ infR) : cleanN s = s := by unfold cleanN; rw [if_pos h]
theorem in64_le {s : Nat} (h : s ≤ infR) : in64 s = true := by rw [in64_iff]; unfold infR at h; omega
theorem lessP_t {x y : Nat} (h : cleanN x < cleanN y) : lessP x y true := by unfold lessP; rw [decide_eq_true h]
theorem lessP_f {x y : Nat} (h : ¬ cleanN x < cleanN y) : lessP x y false := by unfold lessP; rw [decide_eq_false h]
theorem sameP_t {x y : Nat} (h : cleanN x = cleanN y) : sameP x y true := by unfold sameP; rw [decide_eq_true h]
theorem sameP_f {x y : Nat} (h : ¬ cleanN x = cleanN y) : sameP x y false := by unfold sameP; rw [decide_eq_false h]
theorem rules_walk (a b c : Nat) (wa : (Lit.float .f64 a).wf = true) (wb : (Lit.float .f64 b).wf = true) (wc : (Lit.float .f64 c).wf = true) (W : World) :
    Calls Try.prog 6 #[.float .f64 a, .float .f64 b, .float .f64 c] W fun e W' => e = .returned (.bool true) ∧ Below W.heap.size W W' := by
  have ia := f64_wf wa
  have ib := f64_wf wb
  have ic := f64_wf wc
  have i0 : in64 0 = true := by decide +kernel
  have lx := clean_le a
  have ly := clean_le b
  have lz := clean_le c
  have lS := addN_le (cleanN a) (cleanN b)
  have lP := addN_le (cleanN b) (cleanN c)
  have lQ := addN_le (cleanN a) (cleanN c)
  have iS := in64_le lS
  have iP := in64_le lP
  have iQ := in64_le lQ
  have iX := in64_le lx
  have ble : (addN (cleanN a) (cleanN b)).ble infR = true := Nat.ble_eq_true_of_le lS
  have g1 : addP a b (addN (cleanN a) (cleanN b)) := rfl
  have g2 : addP b a (addN (cleanN a) (cleanN b)) := by unfold addP; rw [addN_comm]
  have g3 : addP b c (addN (cleanN b) (cleanN c)) := rfl
  have g4 : addP a c (addN (cleanN a) (cleanN c)) := rfl
  have c0 : cleanN 0 = 0 := by decide +kernel
  have g5 : addP a 0 (cleanN a) := by unfold addP; rw [c0, addN_zero lx]
  have g6 : lessP (addN (cleanN a) (cleanN b)) a false := lessP_f (by rw [clean_id lS]; have := addN_ge (y := cleanN b) lx; omega)
  have g7 : lessP (addN (cleanN a) (cleanN b)) b false := lessP_f (by rw [clean_id lS, addN_comm]; have := addN_ge (y := cleanN a) ly; omega)
  have g8 : geP (addN (cleanN a) (cleanN b)) := by unfold geP ge0; rw [decide_eq_true lS]; rfl
  have g9 : cleanP a (cleanN a) := rfl
  have g10 : costP a (cleanN a) := rfl
  have g11 : ofP (cleanN a) := by
    have hb : ofB ((cleanN a : Nat) : Int) = true := by unfold ofB; exact decide_eq_true (by unfold infR at lx; omega)
    unfold ofP ofN; rw [hb, if_pos rfl, Int.toNat_natCast]
  have g12 : sameP a (cleanN a) true := sameP_t (clean_id lx).symm
  have g13 : (decide (0 ≤ ((cleanN a : Nat) : Int)) && decide (((cleanN a : Nat) : Int) < 18446744073709551616)) = true := by
    rw [decide_eq_true (by omega), decide_eq_true (by unfold infR at lx; omega)]; rfl
  rcases Nat.lt_trichotomy (cleanN a) (cleanN b) with h | h | h
  · have k1 : lessP a b true := lessP_t h
    have k2 : lessP b a false := lessP_f (by omega)
    have k3 : sameP a b false := sameP_f (by omega)
    have k4 : lessP (addN (cleanN b) (cleanN c)) (addN (cleanN a) (cleanN c)) false := lessP_f (by rw [clean_id lP, clean_id lQ]; have := addN_mono (z := cleanN c) ly h; omega)
    by_cases h2 : cleanN b < cleanN c
    · have k5 : lessP b c true := lessP_t h2
      have k6 : lessP a c true := lessP_t (by omega)
      refine calls_of_run E6_sound good Try.func6 rfl (wA a b c (addN (cleanN a) (cleanN b)) (addN (cleanN b) (cleanN c)) (addN (cleanN a) (cleanN c)) (cleanN a)) ?_ rfl rfl W
      simp only [qA, List.forall_mem_cons, g13]
      simp [*]
    · have k5 : lessP b c false := lessP_f h2
      refine calls_of_run E6_sound good Try.func6 rfl (wB a b c (addN (cleanN a) (cleanN b)) (addN (cleanN b) (cleanN c)) (addN (cleanN a) (cleanN c)) (cleanN a)) ?_ rfl rfl W
      simp only [qB, List.forall_mem_cons, g13]
      simp [*]
  · have k1 : lessP a b false := lessP_f (by omega)
    have k2 : lessP b a false := lessP_f (by omega)
    have k3 : sameP a b true := sameP_t h
    clear h
    refine calls_of_run E6_sound good Try.func6 rfl (wC a b c (addN (cleanN a) (cleanN b)) (addN (cleanN b) (cleanN c)) (addN (cleanN a) (cleanN c)) (cleanN a)) ?_ rfl rfl W
    simp only [qC, List.forall_mem_cons, g13]
    simp [*]
  · have k1 : lessP a b false := lessP_f (by omega)
    have k2 : lessP b a true := lessP_t h
    refine calls_of_run E6_sound good Try.func6 rfl (wD a b c (addN (cleanN a) (cleanN b)) (addN (cleanN b) (cleanN c)) (addN (cleanN a) (cleanN c)) (cleanN a)) ?_ rfl rfl W
    simp only [qD, List.forall_mem_cons, g13]
    simp [*]
end Metric
end Go.Proofs.Ytajokgjebffkgaa
