/- P10.1: OPENs are written as the document says, whatever is to be said. -/
import Derived.Test.YtddlejbcnjmfmaaRg
namespace Go.Proofs.Ytddlejbcnjmfmaa
open Go Go.Ev Go.RowKit
set_option maxRecDepth 100000
namespace OpenRead
def b8 (n : Int) (k : Nat) : Int := wrapF .u8 (n.fdiv ((2 ^ (8 * k) : Nat) : Int))
def u8 (x : Int) : UInt8 := UInt8.ofNat x.toNat
def bL (a h i : Int) : ByteArray := ⟨#[u8 (b8 (wrapF .u32 4) 0), u8 (b8 (wrapF .u32 a) 1), u8 (b8 (wrapF .u32 a) 0), u8 (b8 (wrapF .u32 h) 1), u8 (b8 (wrapF .u32 h) 0), u8 (b8 i 3), u8 (b8 i 2), u8 (b8 i 1), u8 (b8 i 0), u8 (b8 (wrapF .u32 0) 0)]⟩
def bR (a h i : Int) : ByteArray := ⟨#[u8 4, u8 (b8 a 1), u8 (wrapF .u8 a), u8 (b8 h 1), u8 (wrapF .u8 h), u8 (b8 i 3), u8 (b8 i 2), u8 (b8 i 1), u8 (wrapF .u8 i), u8 0]⟩
def strC (a h i : Int) : Prop := ((bL a h i).toList == (bR a h i).toList) = true
def helloV (a h i : Int) : Value := .agg #[.int .i64 a, .int .i64 h, .int .u32 i]
def MRow (a h i : Int) (π : List Ans) (cs : List Prop) : Prop := evRun Try.prog noEnv 200 50 [helloV a h i] Try.prog.globals.size (some π) = some (.bool true, cs)
def mA (a _ _ : Int) : List Prop := [decide (a ≥ 1) = false, decide (a ≥ 1) = false, decide (a ≥ 1) = false, decide (a ≥ 1) = false, decide (a < 1) = true, decide (a < 1) = true, decide (a < 1) = true, decide (a < 1) = true]
theorem sayA (a h i : Int) : MRow a h i [.bit true, .bit true, .bit true, .bit true, .reck 10, .bit false, .bit false, .bit false, .bit false, .reck 13] (mA a h i) := by unfold MRow; kernel_rfl
def mB (a _ _ : Int) : List Prop := [decide (a ≤ 65535) = false, decide (a ≤ 65535) = false, decide (a ≤ 65535) = false, decide (a ≤ 65535) = false, decide (a ≤ 65535) = false, decide (a ≤ 65535) = false, decide (a ≥ 1) = true, decide (a ≥ 1) = true, decide (a ≥ 1) = true, decide (a ≥ 1) = true, decide (a > 65535) = true, decide (a > 65535) = true, decide (a > 65535) = true, decide (a > 65535) = true, decide (a > 65535) = true, decide (a < 1) = false, decide (a < 1) = false, decide (a < 1) = false, decide (a < 1) = false]
theorem sayB (a h i : Int) : MRow a h i [.bit false, .bit false, .bit false, .bit false, .bit true, .bit true, .bit true, .bit true, .bit true, .reck 5, .bit true, .bit true, .bit true, .bit true, .bit false, .bit false, .bit false, .bit false, .bit false, .bit false, .reck 7] (mB a h i) := by unfold MRow; kernel_rfl
def mC (a h _ : Int) : List Prop := [decide (a ≤ 65535) = true, decide (h = 0) = false, decide (a ≤ 65535) = true, decide (h ≥ 3) = false, decide (h = 0) = false, decide (h ≥ 3) = false, decide (h ≥ 3) = false, decide (h ≥ 3) = false, decide (h = 0) = false, decide (h = 0) = false, decide (h = 0) = false, decide (h = 0) = false, decide (a ≤ 65535) = true, decide (a ≤ 65535) = true, decide (a ≤ 65535) = true, decide (a ≤ 65535) = true, decide (a ≥ 1) = true, decide (a ≥ 1) = true, decide (a ≥ 1) = true, decide (a ≥ 1) = true, decide (a > 65535) = false, decide (a > 65535) = false, decide (h = 0) = false, decide (h ≥ 3) = false, decide (h = 0) = false, decide (h ≥ 3) = false, decide (h ≥ 3) = false, decide (h = 0) = false, decide (h = 0) = false, decide (h = 0) = false, decide (a > 65535) = false, decide (a > 65535) = false, decide (a > 65535) = false, decide (a < 1) = false, decide (a < 1) = false, decide (a < 1) = false, decide (a < 1) = false]
theorem sayC (a h i : Int) : MRow a h i [.bit false, .bit false, .bit false, .bit false, .bit false, .bit false, .bit false, .bit false, .bit false, .bit false, .bit false, .bit false, .bit false, .bit false, .bit false, .bit false, .bit false, .reck 5, .bit true, .bit true, .bit true, .bit true, .bit true, .bit true, .bit true, .bit true, .bit false, .bit false, .bit false, .bit false, .bit false, .bit false, .bit false, .bit false, .bit false, .bit true, .bit false, .bit true, .reck 7] (mC a h i) := by unfold MRow; kernel_rfl
def mD (a h _ : Int) : List Prop := [decide (h ≤ 65535) = false, decide (h ≤ 65535) = false, decide (h ≤ 65535) = false, decide (h ≤ 65535) = false, decide (a ≤ 65535) = true, decide (h = 0) = false, decide (a ≤ 65535) = true, decide (h ≥ 3) = true, decide (h = 0) = false, decide (h ≥ 3) = true, decide (h ≥ 3) = true, decide (h ≥ 3) = true, decide (h = 0) = false, decide (h = 0) = false, decide (h = 0) = false, decide (h = 0) = false, decide (a ≤ 65535) = true, decide (a ≤ 65535) = true, decide (a ≤ 65535) = true, decide (a ≤ 65535) = true, decide (a ≥ 1) = true, decide (a ≥ 1) = true, decide (a ≥ 1) = true, decide (a ≥ 1) = true, (!decide (h ≤ 65535)) = true, (!decide (h ≤ 65535)) = true, (!decide (h ≤ 65535)) = true, (!decide (h ≤ 65535)) = true, decide (a > 65535) = false, decide (a > 65535) = false, decide (h = 0) = false, decide (h ≥ 3) = true, decide (h = 0) = false, decide (h ≥ 3) = true, decide (h ≥ 3) = true, decide (h = 0) = false, decide (h = 0) = false, decide (h = 0) = false, decide (a > 65535) = false, decide (a > 65535) = false, decide (a > 65535) = false, decide (a < 1) = false, decide (a < 1) = false, decide (a < 1) = false, decide (a < 1) = false]
theorem sayD (a h i : Int) : MRow a h i [.bit false, .bit false, .bit false, .bit false, .bit false, .bit false, .bit false, .bit false, .bit false, .bit false, .bit true, .bit true, .bit false, .bit true, .bit false, .bit false, .bit false, .bit true, .bit true, .bit true, .bit true, .reck 1, .bit true, .bit true, .bit true, .bit true, .bit true, .bit true, .bit true, .bit true, .bit false, .bit false, .bit false, .bit false, .bit true, .bit true, .bit true, .bit false, .bit true, .bit true, .bit false, .bit true, .bit false, .bit false, .bit false, .bit false, .reck 3] (mD a h i) := by unfold MRow; kernel_rfl
def mE (a h i : Int) : List Prop := [(!!decide (i = 0)) = true, decide (a ≤ 65535) = true, decide (h = 0) = true, decide (a ≤ 65535) = true, decide (h = 0) = true, decide (h = 0) = true, decide (h = 0) = true, decide (h = 0) = true, decide (h = 0) = true, decide (a ≤ 65535) = true, decide (a ≤ 65535) = true, decide (a ≤ 65535) = true, decide (a ≤ 65535) = true, decide (a ≥ 1) = true, decide (a ≥ 1) = true, decide (a ≥ 1) = true, decide (a ≥ 1) = true, decide (i = 0) = true, decide (a > 65535) = false, decide (a > 65535) = false, decide (h = 0) = true, decide (h = 0) = true, decide (h = 0) = true, decide (h = 0) = true, decide (h = 0) = true, decide (a > 65535) = false, decide (a > 65535) = false, decide (a > 65535) = false, decide (a < 1) = false, decide (a < 1) = false, decide (a < 1) = false, decide (a < 1) = false]
theorem sayE (a h i : Int) : MRow a h i [.bit false, .bit false, .bit false, .bit false, .bit false, .bit false, .bit false, .bit true, .bit true, .bit true, .bit true, .bit true, .bit false, .bit false, .reck 3, .bit true, .reck 0, .bit true, .bit true, .bit true, .bit true, .bit true, .bit true, .bit true, .bit true, .bit true, .bit true, .bit true, .bit true, .bit true, .bit true, .bit true, .bit true, .reck 3, .bit true, .reck 2] (mE a h i) := by unfold MRow; kernel_rfl
def mF (a h i : Int) : List Prop := [(!!decide (i = 0)) = true, decide (h ≤ 65535) = true, decide (h ≤ 65535) = true, decide (h ≤ 65535) = true, decide (h ≤ 65535) = true, decide (a ≤ 65535) = true, decide (h = 0) = false, decide (a ≤ 65535) = true, decide (h ≥ 3) = true, decide (h = 0) = false, decide (h ≥ 3) = true, decide (h ≥ 3) = true, decide (h ≥ 3) = true, decide (h = 0) = false, decide (h = 0) = false, decide (h = 0) = false, decide (h = 0) = false, decide (a ≤ 65535) = true, decide (a ≤ 65535) = true, decide (a ≤ 65535) = true, decide (a ≤ 65535) = true, decide (a ≥ 1) = true, decide (a ≥ 1) = true, decide (a ≥ 1) = true, decide (a ≥ 1) = true, decide (i = 0) = true, (!decide (h ≤ 65535)) = false, (!decide (h ≤ 65535)) = false, (!decide (h ≤ 65535)) = false, (!decide (h ≤ 65535)) = false, decide (a > 65535) = false, decide (a > 65535) = false, decide (h = 0) = false, decide (h ≥ 3) = true, decide (h = 0) = false, decide (h ≥ 3) = true, decide (h ≥ 3) = true, decide (h = 0) = false, decide (h = 0) = false, decide (h = 0) = false, decide (a > 65535) = false, decide (a > 65535) = false, decide (a > 65535) = false, decide (a < 1) = false, decide (a < 1) = false, decide (a < 1) = false, decide (a < 1) = false]
theorem sayF (a h i : Int) : MRow a h i [.bit false, .bit false, .bit false, .bit false, .bit false, .bit false, .bit false, .bit false, .bit false, .bit false, .bit true, .bit true, .bit false, .bit true, .bit false, .bit false, .bit false, .bit false, .bit false, .bit false, .bit false, .bit true, .reck 0, .bit true, .bit true, .bit true, .bit true, .bit true, .bit true, .bit true, .bit true, .bit false, .bit false, .bit false, .bit false, .bit true, .bit true, .bit true, .bit false, .bit true, .bit true, .bit false, .bit true, .bit true, .bit true, .bit true, .bit true, .bit true, .reck 2] (mF a h i) := by unfold MRow; kernel_rfl
def mG (a h i : Int) : List Prop := [strC a h i, strC a h i, strC a h i, (!!decide (i = 0)) = false, decide (a ≤ 65535) = true, decide (h = 0) = true, decide (a ≤ 65535) = true, decide (h = 0) = true, decide (h = 0) = true, decide (h = 0) = true, decide (h = 0) = true, decide (h = 0) = true, decide (a ≤ 65535) = true, decide (a ≤ 65535) = true, decide (a ≤ 65535) = true, decide (a ≤ 65535) = true, decide (a ≥ 1) = true, decide (a ≥ 1) = true, decide (a ≥ 1) = true, decide (a ≥ 1) = true, decide (i = 0) = false, decide (a > 65535) = false, decide (a > 65535) = false, decide (h = 0) = true, decide (h = 0) = true, decide (h = 0) = true, decide (h = 0) = true, decide (h = 0) = true, decide (a > 65535) = false, decide (a > 65535) = false, decide (a > 65535) = false, decide (a < 1) = false, decide (a < 1) = false, decide (a < 1) = false, decide (a < 1) = false]
theorem sayG (a h i : Int) : MRow a h i [.bit false, .bit false, .bit false, .bit false, .bit false, .bit false, .bit false, .bit true, .bit true, .bit true, .bit true, .bit true, .bit false, .bit false, .reck 3, .bit false, .reck 79, .bit true, .bit true, .bit true, .bit true, .bit true, .bit true, .bit true, .bit true, .bit true, .bit true, .bit true, .bit true, .bit true, .bit true, .bit true, .bit true, .reck 3, .bit false, .reck 32, .bit true, .bit true, .bit true] (mG a h i) := by unfold MRow; kernel_rfl
def mH (a h i : Int) : List Prop := [strC a h i, strC a h i, strC a h i, (!!decide (i = 0)) = false, decide (h ≤ 65535) = true, decide (h ≤ 65535) = true, decide (h ≤ 65535) = true, decide (h ≤ 65535) = true, decide (a ≤ 65535) = true, decide (h = 0) = false, decide (a ≤ 65535) = true, decide (h ≥ 3) = true, decide (h = 0) = false, decide (h ≥ 3) = true, decide (h ≥ 3) = true, decide (h ≥ 3) = true, decide (h = 0) = false, decide (h = 0) = false, decide (h = 0) = false, decide (h = 0) = false, decide (a ≤ 65535) = true, decide (a ≤ 65535) = true, decide (a ≤ 65535) = true, decide (a ≤ 65535) = true, decide (a ≥ 1) = true, decide (a ≥ 1) = true, decide (a ≥ 1) = true, decide (a ≥ 1) = true, decide (i = 0) = false, (!decide (h ≤ 65535)) = false, (!decide (h ≤ 65535)) = false, (!decide (h ≤ 65535)) = false, (!decide (h ≤ 65535)) = false, decide (a > 65535) = false, decide (a > 65535) = false, decide (h = 0) = false, decide (h ≥ 3) = true, decide (h = 0) = false, decide (h ≥ 3) = true, decide (h ≥ 3) = true, decide (h = 0) = false, decide (h = 0) = false, decide (h = 0) = false, decide (a > 65535) = false, decide (a > 65535) = false, decide (a > 65535) = false, decide (a < 1) = false, decide (a < 1) = false, decide (a < 1) = false, decide (a < 1) = false]
theorem sayH (a h i : Int) : MRow a h i [.bit false, .bit false, .bit false, .bit false, .bit false, .bit false, .bit false, .bit false, .bit false, .bit false, .bit true, .bit true, .bit false, .bit true, .bit false, .bit false, .bit false, .bit false, .bit false, .bit false, .bit false, .bit false, .reck 79, .bit true, .bit true, .bit true, .bit true, .bit true, .bit true, .bit true, .bit true, .bit false, .bit false, .bit false, .bit false, .bit true, .bit true, .bit true, .bit false, .bit true, .bit true, .bit false, .bit true, .bit true, .bit true, .bit true, .bit true, .bit false, .reck 32, .bit true, .bit true, .bit true] (mH a h i) := by unfold MRow; kernel_rfl
theorem b8_zero (x : Int) : b8 x 0 = wrapF .u8 x := by
  unfold b8
  rw [show ((2 ^ (8 * 0) : Nat) : Int) = 1 from rfl, Int.fdiv_one]
theorem str_same {x y i : Nat} (hx : x < 4294967296) (hy : y < 4294967296) : strC (x : Int) (y : Int) (i : Int) := by
  unfold strC
  have : bL (x : Int) (y : Int) (i : Int) = bR (x : Int) (y : Int) (i : Int) := by
    unfold bL bR
    rw [wrap32 hx, wrap32 hy, b8_zero, b8_zero, b8_zero, b8_zero, b8_zero]
    rfl
  rw [this]
  exact beq_self_eq_true _
def sameB (i : Int) : Bool := decide (0 ≤ i) && decide (i < 4294967296)
def sameG : PFun
  | [.agg ⟨[.int .i64 _, .int .i64 _, .int .u32 i]⟩] => some (some (sameB i), .bool true)
  | _ => none
theorem sameG_args {args : List Value} {p : Option Bool} {v : Value} (h : sameG args = some (p, v)) : ∃ a h i, args = [helloV a h i] ∧ p = some (sameB i) ∧ v = .bool true := by
  unfold sameG at h
  split at h
  · simp only [Option.some.injEq, Prod.mk.injEq] at h
    exact ⟨_, _, _, rfl, h.1.symm, h.2.symm⟩
  · cases h
theorem same_sum : PureSum Try.prog 50 sameG := .of_calls Try.func50 (by kernel_rfl) rfl fun args p v hg hp _ => by
  obtain ⟨a, h, i, rfl, rfl, rfl⟩ := sameG_args hg
  have hp' : sameB i = true := hp
  unfold sameB at hp'
  rw [Bool.and_eq_true, decide_eq_true_eq, decide_eq_true_eq] at hp'
  refine ⟨rfl, fun W => ?_⟩
  have go : ∀ {π : List Ans} {cs : List Prop}, MRow a h i π cs → (∀ p ∈ cs, p) → Calls Try.prog 50 ⟨[helloV a h i]⟩ W fun e W' => e = .returned (.bool true) ∧ Below W.heap.size W W' :=
    fun h1 h2 => calls_of_run noEnv_sound good Try.func50 rfl h1 h2 rfl rfl W
  by_cases ha1 : a < 1
  · have e1 : decide (a < 1) = true := decide_eq_true ha1
    have e2 : decide (a ≥ 1) = false := decide_eq_false (by omega)
    exact go (sayA a h i) (by simp [mA, e1, e2])
  have a1 : decide (a < 1) = false := decide_eq_false ha1
  have a2 : decide (a ≥ 1) = true := decide_eq_true (by omega)
  by_cases ha2 : a > 65535
  · have e1 : decide (a > 65535) = true := decide_eq_true ha2
    have e2 : decide (a ≤ 65535) = false := decide_eq_false (by omega)
    exact go (sayB a h i) (by simp only [mB, List.forall_mem_cons, a1, a2, e1, e2]; simp)
  have a3 : decide (a > 65535) = false := decide_eq_false ha2
  have a4 : decide (a ≤ 65535) = true := decide_eq_true (by omega)
  by_cases hh0 : h = 0
  · have f0 : decide (h = 0) = true := decide_eq_true hh0
    by_cases hi : i = 0
    · have i0 : decide (i = 0) = true := decide_eq_true hi
      exact go (sayE a h i) (by simp only [mE, List.forall_mem_cons, a1, a2, a3, a4, f0, i0]; simp)
    · have i0 : decide (i = 0) = false := decide_eq_false hi
      have sc : strC a h i := by
        obtain ⟨x, rfl⟩ : ∃ x : Nat, a = x := ⟨a.toNat, by omega⟩
        obtain ⟨y, rfl⟩ : ∃ y : Nat, h = y := ⟨h.toNat, by omega⟩
        obtain ⟨z, rfl⟩ : ∃ z : Nat, i = z := ⟨i.toNat, by omega⟩
        exact str_same (by omega) (by omega)
      exact go (sayG a h i) (by simp only [mG, List.forall_mem_cons, a1, a2, a3, a4, f0, i0]; simp [sc])
  have f0 : decide (h = 0) = false := decide_eq_false hh0
  by_cases hh3 : h ≥ 3
  case neg =>
    have f3 : decide (h ≥ 3) = false := decide_eq_false hh3
    exact go (sayC a h i) (by simp only [mC, List.forall_mem_cons, a1, a2, a3, a4, f0, f3]; simp)
  have f3 : decide (h ≥ 3) = true := decide_eq_true hh3
  by_cases hh5 : h ≤ 65535
  case neg =>
    have f5 : decide (h ≤ 65535) = false := decide_eq_false hh5
    exact go (sayD a h i) (by simp only [mD, List.forall_mem_cons, a1, a2, a3, a4, f0, f3, f5]; simp)
  have f5 : decide (h ≤ 65535) = true := decide_eq_true hh5
  by_cases hi : i = 0
  · have i0 : decide (i = 0) = true := decide_eq_true hi
    exact go (sayF a h i) (by simp only [mF, List.forall_mem_cons, a1, a2, a3, a4, f0, f3, f5, i0]; simp)
  · have i0 : decide (i = 0) = false := decide_eq_false hi
    have sc : strC a h i := by
      obtain ⟨x, rfl⟩ : ∃ x : Nat, a = x := ⟨a.toNat, by omega⟩
      obtain ⟨y, rfl⟩ : ∃ y : Nat, h = y := ⟨h.toNat, by omega⟩
      obtain ⟨z, rfl⟩ : ∃ z : Nat, i = z := ⟨i.toNat, by omega⟩
      exact str_same (by omega) (by omega)
    exact go (sayH a h i) (by simp only [mH, List.forall_mem_cons, a1, a2, a3, a4, f0, f3, f5, i0]; simp [sc])
end OpenRead
end Go.Proofs.Ytddlejbcnjmfmaa
