/- P5.1: a message is as long as its body and 19; one that is too long, or of no kind, is none. -/
import Derived.Test.YtddlejbcnjmfmaaBa
import Derived.Test.YtddlejbcnjmfmaaEvR
namespace Go.Proofs.Ytddlejbcnjmfmaa
open Go Go.Ev Go.RowKit
set_option maxRecDepth 100000
namespace FrameSz
theorem known_run : runTrue Try.prog noEnv 300 36 #[] Try.prog.globals.size = true := by kernel_rfl
theorem known_sum : PureSum Try.prog 36 trueG := .of_calls Try.func36 (by kernel_rfl) rfl fun args p v h _ _ => by
  obtain ⟨rfl, rfl⟩ := trueG_args h
  exact ⟨rfl, fun W => calls_true noEnv_sound good Try.func36 rfl known_run rfl W⟩
def E : Env := pureEnv [(37, withinG), (36, trueG)]
theorem E_sound : E.Sound Try.prog := pureEnv_sound (P := Try.prog) (l := [(37, withinG), (36, trueG)]) ⟨within_sum, known_sum, trivial⟩
def T (m : Nat) : Nat := 19 + m
def zc (m : Nat) : Array Value := (Array.range (m * 1)).map fun x => (Value.int .u8 0).cells[x % (Value.int .u8 0).cells.size]!
def b8 (n : Int) (k : Nat) : Int := wrapF .u8 (n.fdiv ((2 ^ (8 * k) : Nat) : Int))
def N32 (m : Nat) : Int := wrapF .u32 (wrapF .i64 (19 + ((m : Nat) : Int)))
def c19 (kind : Int) (m : Nat) : Array Value := #[.int .u8 255, .int .u8 255, .int .u8 255, .int .u8 255, .int .u8 255, .int .u8 255, .int .u8 255, .int .u8 255, .int .u8 255, .int .u8 255, .int .u8 255, .int .u8 255, .int .u8 255, .int .u8 255, .int .u8 255, .int .u8 255, .int .u8 (b8 (N32 m) 1), .int .u8 (b8 (N32 m) 0), .int .u8 (b8 (wrapF .u32 kind) 0)]
def Wc (kind : Int) (m : Nat) : Array Value := (c19 kind m).extract 0 (0 + 19 * 1) ++ (zc m).extract 0 (0 + m * 1)
def Rc (kind : Int) (m : Nat) : Array Value := (#[] : Array Value).extract 0 (0 + 0 * 1) ++ (Wc kind m).extract 0 (0 + T m * 1)
def rowC (kind : Int) (m i : Nat) (x : Int) : Prop := i + 1 ≤ (Rc kind m).size ∧ (Rc kind m).extract i (i + 1) = #[.int .u8 x]
def lenC (m : Nat) : Prop := decide ((((0 + T m : Nat)) : Int) = wrapF .i64 (Int.ofNat m + 19)) = true
def inC (i : Int) (m : Nat) : Prop := decide (0 ≤ i ∧ i < (((0 + T m : Nat)) : Int)) = true
def sumC (m : Nat) (x y : Int) : Prop := decide (wrapF .i64 (wrapF .i64 (wrapF .i64 x * ((2 ^ min (Int.toNat 8) (bitsF .i64) : Nat) : Int)) + wrapF .i64 y) = (((0 + T m : Nat)) : Int)) = true
def kindC (kind z : Int) : Prop := decide (wrapF .i64 z = kind) = true
def headC (kind n : Int) (m : Nat) : List Prop :=
  [decide (kind ≥ 1) = true, decide (kind ≥ 1) = true, decide (kind ≥ 1) = true, decide (0 ≤ Int.ofNat m ∧ Int.ofNat m ≤ Int.ofNat m ∧ Int.ofNat m ≤ 1073741824) = true, Value.int .i64 (withinV n 0 5000) = Value.int .i64 (Int.ofNat m)]
def cM (kind n : Int) (m : Nat) (x y z : Int) : List Prop :=
  [kindC kind z, kindC kind z, sumC m x y, sumC m x y, sumC m x y, sumC m x y, rowC kind m 18 z, sumC m x y, inC 18 m, sumC m x y, sumC m x y, lenC m, lenC m, lenC m, lenC m, lenC m, lenC m, rowC kind m 17 y, lenC m, inC 17 m,
   lenC m, lenC m, lenC m, lenC m, rowC kind m 16 x, lenC m, inC 16 m, lenC m, lenC m, decide (wrapF .i64 (Int.ofNat m + 19) > 4096) = false, decide (kind > 4) = false, decide (kind < 1) = false, decide (kind < 1) = false, decide (kind < 1) = false,
   decide (0 + T m ≤ 1073741824) = true, (T m == 0) = false, decide (0 + T m * 1 ≤ (Wc kind m).size) = true, decide (T m ≤ 1073741824) = true, (m == 0) = false, decide (0 + m * 1 ≤ (zc m).size) = true,
   decide (((m : Nat) : Int) > 4077) = false, (!decide (kind ≤ 4)) = false] ++ headC kind n m
def cL (kind n : Int) (m : Nat) : List Prop :=
  [decide (wrapF .i64 (Int.ofNat m + 19) > 4096) = true, decide (kind > 4) = false, decide (kind < 1) = false, decide (kind < 1) = false, decide (kind < 1) = false, decide (((m : Nat) : Int) > 4077) = true, (!decide (kind ≤ 4)) = false] ++ headC kind n m
def cA (kind n : Int) (m : Nat) : List Prop :=
  [decide (kind < 1) = true, decide (kind < 1) = true, decide (kind < 1) = true, decide (kind ≥ 1) = false, decide (kind ≥ 1) = false, decide (kind ≥ 1) = false, decide (0 ≤ Int.ofNat m ∧ Int.ofNat m ≤ Int.ofNat m ∧ Int.ofNat m ≤ 1073741824) = true, Value.int .i64 (withinV n 0 5000) = Value.int .i64 (Int.ofNat m)]
def cB (kind n : Int) (m : Nat) : List Prop :=
  [decide (kind > 4) = true, decide (kind < 1) = false, decide (kind < 1) = false, decide (kind < 1) = false, (!decide (kind ≤ 4)) = true] ++ headC kind n m
def pM (m : Nat) (x y z : Int) : List Ans := [.reck 0, .as (.int .i64 (Int.ofNat m)), .bit true, .bit true, .bit true, .bit true, .bit false, .bit false, .reck 166, .bit true, .bit false, .reck 0, .bit true, .reck 1, .bit true, .bit false, .reck 0, .bit true, .bit false, .bit false, .bit false, .bit false, .bit false, .reck 5, .bit true, .bit true, .bit true, .bit true, .row #[.int .u8 x], .bit true, .bit true, .reck 0, .bit true, .bit true, .bit true, .bit true, .row #[.int .u8 y], .bit true, .bit true, .bit true, .bit true, .bit true, .bit true, .bit true, .bit true, .bit true, .bit true, .row #[.int .u8 z], .bit true, .bit true, .bit true, .bit true, .bit true, .bit true]
def pL (m : Nat) : List Ans := [.reck 0, .as (.int .i64 (Int.ofNat m)), .bit true, .bit true, .bit true, .bit true, .bit false, .bit true, .bit false, .bit false, .bit false, .bit false, .bit true, .reck 5]
def pA (m : Nat) : List Ans := [.reck 0, .as (.int .i64 (Int.ofNat m)), .bit true, .bit false, .bit false, .bit false, .reck 0, .bit true, .bit true, .bit true, .reck 6]
def pB (m : Nat) : List Ans := [.reck 0, .as (.int .i64 (Int.ofNat m)), .bit true, .bit true, .bit true, .bit true, .bit true, .bit false, .bit false, .bit false, .bit true, .reck 5]
def SRow (kind n : Int) (π : List Ans) (cs : List Prop) : Prop := evRun Try.prog E 300 9 [.int .i64 kind, .int .i64 n] Try.prog.globals.size (some π) = some (.bool true, cs)
theorem rL (kind n : Int) (m : Nat) : SRow kind n (pL m) (cL kind n m) := by unfold SRow; kernel_rfl
theorem rA (kind n : Int) (m : Nat) : SRow kind n (pA m) (cA kind n m) := by unfold SRow; kernel_rfl
theorem rB (kind n : Int) (m : Nat) : SRow kind n (pB m) (cB kind n m) := by unfold SRow; kernel_rfl
theorem rM (kind n : Int) (m : Nat) (x y z : Int) : SRow kind n (pM m x y z) (cM kind n m x y z) := by unfold SRow; kernel_rfl
def len0 (m : Nat) : Prop := decide ((((0 + 19 : Nat)) : Int) = wrapF .i64 (Int.ofNat m + 19)) = true
def sum0 (m : Nat) : Prop := decide (wrapF .i64 (wrapF .i64 (wrapF .i64 (b8 (N32 m) 1) * ((2 ^ min (Int.toNat 8) (bitsF .i64) : Nat) : Int)) + wrapF .i64 (b8 (N32 m) 0)) = (((0 + 19 : Nat)) : Int)) = true
def kind0 (kind : Int) : Prop := kindC kind (b8 (wrapF .u32 kind) 0)
def cZ (kind n : Int) (m : Nat) : List Prop :=
  [kind0 kind, kind0 kind, sum0 m, sum0 m, sum0 m, sum0 m, sum0 m, sum0 m, sum0 m, len0 m, len0 m, len0 m, len0 m, len0 m, len0 m, len0 m, len0 m, len0 m, len0 m, len0 m, len0 m, len0 m, len0 m,
   decide (wrapF .i64 (Int.ofNat m + 19) > 4096) = false, decide (kind > 4) = false, decide (kind < 1) = false, decide (kind < 1) = false, decide (kind < 1) = false, (m == 0) = true, decide (0 + m * 1 ≤ (zc m).size) = true,
   decide (((m : Nat) : Int) > 4077) = false, (!decide (kind ≤ 4)) = false] ++ headC kind n m
def pZ (m : Nat) : List Ans := [.reck 0, .as (.int .i64 (Int.ofNat m)), .bit true, .bit true, .bit true, .bit true, .bit false, .bit false, .reck 166, .bit true, .bit true, .reck 5, .bit false, .bit false, .bit false, .bit false, .bit false, .reck 5, .bit true, .bit true, .reck 0, .bit true, .bit true, .bit true, .reck 0, .bit true, .bit true, .reck 0, .bit true, .bit true, .bit true, .bit true, .bit true, .bit true, .bit true, .bit true, .bit true, .reck 0, .bit true, .bit true, .bit true, .bit true, .bit true, .bit true, .bit true]
theorem rZ (kind n : Int) (m : Nat) : SRow kind n (pZ m) (cZ kind n m) := by unfold SRow; kernel_rfl
theorem zc_size (m : Nat) : (zc m).size = m := by simp [zc]
theorem c19_size (kind : Int) (m : Nat) : (c19 kind m).size = 19 := rfl
theorem Wc_eq (kind : Int) (m : Nat) : Wc kind m = c19 kind m ++ zc m := by
  unfold Wc
  have h1 : (c19 kind m).extract 0 (0 + 19 * 1) = c19 kind m := by
    have := Array.extract_size (xs := c19 kind m)
    rw [c19_size] at this; exact this
  have h2 : (zc m).extract 0 (0 + m * 1) = zc m := by
    have := Array.extract_size (xs := zc m)
    rw [zc_size] at this
    rw [Nat.zero_add, Nat.mul_one]; exact this
  rw [h1, h2]
theorem Wc_size (kind : Int) (m : Nat) : (Wc kind m).size = 19 + m := by rw [Wc_eq, Array.size_append, c19_size, zc_size]
theorem Rc_eq (kind : Int) (m : Nat) : Rc kind m = c19 kind m ++ zc m := by
  unfold Rc T
  have h2 : (Wc kind m).extract 0 (0 + (19 + m) * 1) = Wc kind m := by
    have := Array.extract_size (xs := Wc kind m)
    rw [Wc_size] at this
    rw [Nat.zero_add, Nat.mul_one]; exact this
  rw [h2, Wc_eq]
  simp
theorem row_at (kind : Int) (m i : Nat) (x : Int) (hi : i < 19) (h : (c19 kind m).extract i (i + 1) = #[.int .u8 x]) : rowC kind m i x := by
  unfold rowC
  rw [Rc_eq]
  refine ⟨by rw [Array.size_append, c19_size]; omega, ?_⟩
  rw [Array.extract_append, h, c19_size]
  have h1 : i - 19 = 0 := by omega
  have h2 : i + 1 - 19 = 0 := by omega
  rw [h1, h2]
  simp
theorem wrap64' {x : Int} (h1 : -9223372036854775808 ≤ x) (h2 : x < 9223372036854775808) : wrapF .i64 x = x := wrap64 h1 h2
theorem N32_eq {m : Nat} (h : m ≤ 5000) : N32 m = 19 + (m : Int) := by
  unfold N32
  rw [wrap64' (by omega) (by omega)]
  simp only [wrapF]
  omega
theorem b8_one {x : Int} (h0 : 0 ≤ x) (h1 : x < 65536) : b8 x 1 = x / 256 := by
  unfold b8
  simp only [wrapF]
  rw [Int.fdiv_eq_ediv_of_nonneg _ (by decide)]
  show x / 256 % 256 = x / 256
  omega
theorem b8_zero (x : Int) : b8 x 0 = x % 256 := by
  unfold b8
  simp only [wrapF]
  rw [Int.fdiv_eq_ediv_of_nonneg _ (by decide)]
  show x / 1 % 256 = x % 256
  omega
theorem sum_eq {x : Int} (h0 : 0 ≤ x) (h1 : x < 65536) : wrapF .i64 (wrapF .i64 (wrapF .i64 (x / 256) * ((2 ^ min (Int.toNat 8) (bitsF .i64) : Nat) : Int)) + wrapF .i64 (x % 256)) = x := by
  have hp : ((2 ^ min (Int.toNat 8) (bitsF .i64) : Nat) : Int) = 256 := rfl
  rw [hp, wrap64' (x := x / 256) (by omega) (by omega), wrap64' (x := x / 256 * 256) (by omega) (by omega), wrap64' (x := x % 256) (by omega) (by omega), wrap64' (by omega) (by omega)]
  omega
theorem walk (kind n : Int) (hk : (Lit.int .i64 kind).wf = true) (hn : (Lit.int .i64 n).wf = true) (W : World) : Calls Try.prog 9 #[.int .i64 kind, .int .i64 n] W fun e W' => e = .returned (.bool true) ∧ Below W.heap.size W W' := by
  have go : ∀ {π : List Ans} {cs : List Prop}, SRow kind n π cs → (∀ p ∈ cs, p) → Calls Try.prog 9 #[.int .i64 kind, .int .i64 n] W fun e W' => e = .returned (.bool true) ∧ Below W.heap.size W W' :=
    fun h g => calls_of_run E_sound good Try.func9 rfl h g rfl rfl W
  have hw : withinV n 0 5000 = n % 5001 := by unfold withinV; omega
  obtain ⟨m, hm⟩ : ∃ m : Nat, n % 5001 = (m : Int) := ⟨(n % 5001).toNat, by omega⟩
  have hm5 : m ≤ 5000 := by omega
  have hwv : Value.int .i64 (withinV n 0 5000) = Value.int .i64 (Int.ofNat m) := by rw [hw, hm]; rfl
  have hmm : decide (0 ≤ Int.ofNat m ∧ Int.ofNat m ≤ Int.ofNat m ∧ Int.ofNat m ≤ 1073741824) = true := decide_eq_true ⟨Int.natCast_nonneg m, Int.le_refl _, by show (m : Int) ≤ _; omega⟩
  have hofn : wrapF .i64 (Int.ofNat m + 19) = (m : Int) + 19 := wrap64' (by show -9223372036854775808 ≤ (m : Int) + 19; omega) (by show (m : Int) + 19 < _; omega)
  by_cases h1 : kind < 1
  · refine go (rA kind n m) ?_
    have a1 : decide (kind < 1) = true := decide_eq_true h1
    have a2 : decide (kind ≥ 1) = false := decide_eq_false (by omega)
    simp only [cA, List.forall_mem_cons, a1, a2, hmm, hwv]
    simp
  have a1 : decide (kind < 1) = false := decide_eq_false h1
  have a2 : decide (kind ≥ 1) = true := decide_eq_true (by omega)
  have hhead : ∀ p ∈ headC kind n m, p := by
    simp only [headC, List.forall_mem_cons, a2, hmm, hwv]
    simp
  by_cases h4 : kind > 4
  · refine go (rB kind n m) ?_
    have a3 : decide (kind > 4) = true := decide_eq_true h4
    have a4 : decide (kind ≤ 4) = false := decide_eq_false (by omega)
    simp only [cB, List.forall_mem_append, List.forall_mem_cons, a1, a3, a4]
    exact ⟨by simp, hhead⟩
  have a3 : decide (kind > 4) = false := decide_eq_false h4
  have a4 : decide (kind ≤ 4) = true := decide_eq_true (by omega)
  by_cases hl : 4077 < m
  · refine go (rL kind n m) ?_
    have a5 : decide (wrapF .i64 (Int.ofNat m + 19) > 4096) = true := decide_eq_true (by rw [hofn]; omega)
    have a6 : decide ((m : Int) > 4077) = true := decide_eq_true (by omega)
    simp only [cL, List.forall_mem_append, List.forall_mem_cons, a1, a3, a4, a5, a6]
    exact ⟨by simp, hhead⟩
  have a5 : decide (wrapF .i64 (Int.ofNat m + 19) > 4096) = false := decide_eq_false (by rw [hofn]; omega)
  have a6 : decide ((m : Int) > 4077) = false := decide_eq_false (by omega)
  have hN := N32_eq hm5
  have hk32 : wrapF .u32 kind = kind := by simp only [wrapF]; omega
  have hkb : b8 (wrapF .u32 kind) 0 = kind := by rw [hk32, b8_zero]; omega
  have hkc : kindC kind kind := decide_eq_true (wrap64' (by omega) (by omega))
  have hb1 : b8 (N32 m) 1 = (19 + (m : Int)) / 256 := by rw [hN]; exact b8_one (by omega) (by omega)
  have hb0 : b8 (N32 m) 0 = (19 + (m : Int)) % 256 := by rw [hN]; exact b8_zero _
  have a7 : decide (0 + m * 1 ≤ (zc m).size) = true := decide_eq_true (by rw [zc_size]; omega)
  by_cases h0 : m = 0
  · refine go (rZ kind n m) ?_
    have a8 : (m == 0) = true := by simp [h0]
    have k1 : kind0 kind := by unfold kind0; rw [hkb]; exact hkc
    have k2 : len0 m := decide_eq_true (by rw [hofn]; omega)
    have k3 : sum0 m := decide_eq_true (by rw [hb1, hb0, sum_eq (by omega) (by omega)]; omega)
    simp only [cZ, List.forall_mem_append, List.forall_mem_cons, a1, a3, a4, a5, a6, a7, a8]
    exact ⟨by simp [k1, k2, k3], hhead⟩
  · refine go (rM kind n m (b8 (N32 m) 1) (b8 (N32 m) 0) (b8 (wrapF .u32 kind) 0)) ?_
    have a8 : (m == 0) = false := by simp [h0]
    have k1 : kindC kind (b8 (wrapF .u32 kind) 0) := by rw [hkb]; exact hkc
    have k2 : lenC m := decide_eq_true (by rw [hofn]; unfold T; omega)
    have k3 : sumC m (b8 (N32 m) 1) (b8 (N32 m) 0) := decide_eq_true (by rw [hb1, hb0, sum_eq (by omega) (by omega)]; unfold T; omega)
    have r16 : rowC kind m 16 (b8 (N32 m) 1) := row_at kind m 16 _ (by omega) rfl
    have r17 : rowC kind m 17 (b8 (N32 m) 0) := row_at kind m 17 _ (by omega) rfl
    have r18 : rowC kind m 18 (b8 (wrapF .u32 kind) 0) := row_at kind m 18 _ (by omega) rfl
    have i16 : inC 16 m := decide_eq_true ⟨by omega, by unfold T; omega⟩
    have i17 : inC 17 m := decide_eq_true ⟨by omega, by unfold T; omega⟩
    have i18 : inC 18 m := decide_eq_true ⟨by omega, by unfold T; omega⟩
    have t1 : decide (0 + T m ≤ 1073741824) = true := decide_eq_true (by unfold T; omega)
    have t2 : (T m == 0) = false := by unfold T; simp
    have t3 : decide (0 + T m * 1 ≤ (Wc kind m).size) = true := decide_eq_true (by rw [Wc_size]; unfold T; omega)
    have t4 : decide (T m ≤ 1073741824) = true := decide_eq_true (by unfold T; omega)
    simp only [cM, List.forall_mem_append, List.forall_mem_cons, a1, a3, a4, a5, a6, a7, a8, t1, t2, t3, t4]
    exact ⟨by simp [k1, k2, k3, r16, r17, r18, i16, i17, i18], hhead⟩
end FrameSz
end Go.Proofs.Ytddlejbcnjmfmaa
