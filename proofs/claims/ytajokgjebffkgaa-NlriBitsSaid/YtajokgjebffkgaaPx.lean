/- Prefixes' functions by summaries: what each answers, for any arguments. -/
import Derived.Test.YtajokgjebffkgaaBa
namespace Go.Proofs.Ytajokgjebffkgaa
open Go Go.Ev Go.RowKit
set_option maxRecDepth 100000
def maskN (n : Int) : Nat := if n < 1 then 0 else if n ≥ 32 then 4294967295 else 4294967296 - 2 ^ (32 - n).toNat
def clN (n : Int) : Int := if n < 0 then 0 else if n > 32 then 32 else n
def inU (a : Int) : Bool := decide (0 ≤ a) && decide (a < 4294967296)
def rightB (a n : Int) : Bool := decide (0 ≤ n) && decide (n ≤ 32) && decide ((a.toNat ^^^ a.toNat &&& maskN n) = 0)
def lessB (a n b m : Int) : Bool := rightB a n && rightB b m && (decide (a < b) || decide (a = b) && decide (n < m))
def hasB (a n x : Int) : Bool := rightB a n && decide (((x.toNat &&& maskN n : Nat) : Int) = a)
def coversB (a n b m : Int) : Bool := rightB b m && decide (n ≤ m) && hasB a n b
def pfx (a n : Int) : Value := .agg #[.int .u32 a, .int .i64 n]
def maskG : PFun
  | [.int .i64 n] => some (none, .int .u32 (maskN n))
  | _ => none
def ofG : PFun
  | [.int .u32 a, .int .i64 n] => some (some (inU a), pfx ((a.toNat &&& maskN (clN n) : Nat) : Int) (clN n))
  | _ => none
def on1 (f : Int → Int → Value) : PFun
  | [.agg ⟨[.int .u32 a, .int .i64 n]⟩] => some (some (inU a), f a n)
  | _ => none
def on2 (f : Int → Int → Int → Int → Value) : PFun
  | [.agg ⟨[.int .u32 a, .int .i64 n]⟩, .agg ⟨[.int .u32 b, .int .i64 m]⟩] => some (some (inU a && inU b), f a n b m)
  | _ => none
def rightG : PFun := on1 fun a n => .bool (rightB a n)
def lessG : PFun := on2 fun a n b m => .bool (lessB a n b m)
def hasG : PFun
  | [.agg ⟨[.int .u32 a, .int .i64 n]⟩, .int .u32 x] => some (some (inU a && inU x), .bool (hasB a n x))
  | _ => none

theorem maskN_le (n : Int) : maskN n ≤ 4294967295 := by
  unfold maskN; split
  · omega
  · split
    · omega
    · have := Nat.two_pow_pos (32 - n).toNat; omega
theorem fitsU_in (a : Int) : fitsU .u32 a = inU a := by
  cases a with
  | ofNat m => simp only [fitsU, inU]; rw [Bool.eq_iff_iff]; simp; omega
  | negSucc m => simp [fitsU, inU]
theorem fitsU_mask (n : Int) : fitsU .u32 ((maskN n : Nat) : Int) = true := by
  have := maskN_le n; simp [fitsU]; omega
theorem inU_spec {a : Int} : inU a = true ↔ 0 ≤ a ∧ a < 4294967296 := by simp [inU]
theorem val_leaf (v : Value) : (PT.leaf v).val = some v := rfl
theorem val_test (b : Bool) (t e : PT) : (PT.test b t e).val = if b = true then t.val else e.val := by cases b <;> rfl
theorem val_need (b d : Bool) (t : PT) : (PT.need b d t).val = if b = d then t.val else none := by cases b <;> cases d <;> rfl
theorem val_reck (n : Nat) (t : PT) : (PT.reck n t).val = t.val := rfl

theorem mask1 (n : Int) : evRun Try.prog noEnv 50 89 [.int .i64 n] Try.prog.globals.size (some [.bit true]) = some (.int .u32 0, [decide (n < 1) = true]) := by kernel_rfl
theorem mask2 (n : Int) : evRun Try.prog noEnv 50 89 [.int .i64 n] Try.prog.globals.size (some [.bit false, .bit true]) = some (.int .u32 4294967295, [decide (n ≥ 32) = true, decide (n < 1) = false]) := by kernel_rfl
theorem mask3 (n : Int) : evRun Try.prog noEnv 50 89 [.int .i64 n] Try.prog.globals.size (some [.bit false, .bit false, .bit true]) = some (.int .u32 (wrapF IntKind.u32 (4294967295 * ((2 ^ min (wrapF IntKind.i64 (32 - n)).toNat (bitsF IntKind.u32) : Nat) : Int))), [decide (0 ≤ wrapF IntKind.i64 (32 - n)) = true, decide (n ≥ 32) = false, decide (n < 1) = false]) := by kernel_rfl
theorem mask_arith : ∀ m : Fin 32, 1 ≤ m.val → wrapF IntKind.u32 (4294967295 * ((2 ^ min (wrapF IntKind.i64 (32 - (m.val : Int))).toNat (bitsF IntKind.u32) : Nat) : Int)) = (maskN m.val : Int) ∧ 0 ≤ wrapF IntKind.i64 (32 - (m.val : Int)) := by decide +kernel
theorem maskG_args {args : List Value} {p : Option Bool} {v : Value} (h : maskG args = some (p, v)) : ∃ n, args = [.int .i64 n] ∧ v = .int .u32 (maskN n) := by
  unfold maskG at h
  split at h
  · rename_i n
    simp only [Option.some.injEq, Prod.mk.injEq] at h
    exact ⟨n, rfl, h.2.symm⟩
  · cases h
theorem mask_sum : PureSum Try.prog 89 maskG := by
  refine .of_calls Try.func89 (by kernel_rfl) rfl fun args p v h hp ha => ?_
  obtain ⟨n, rfl, rfl⟩ := maskG_args h
  refine ⟨rfl, fun W => ?_⟩
  by_cases h1 : n < 1
  · rw [show maskN n = 0 by simp [maskN, h1]]
    exact calls_of_run noEnv_sound good Try.func89 rfl (mask1 n) (by simp [h1]) rfl rfl W
  by_cases h2 : n ≥ 32
  · rw [show maskN n = 4294967295 by simp [maskN, h1, h2]]
    exact calls_of_run noEnv_sound good Try.func89 rfl (mask2 n) (by simp [h1, h2]) rfl rfl W
  obtain ⟨m, rfl⟩ : ∃ m : Nat, n = m := ⟨n.toNat, by omega⟩
  have := mask_arith ⟨m, by omega⟩ (by simp; omega)
  rw [← this.1]
  exact calls_of_run noEnv_sound good Try.func89 rfl (mask3 m) (by simp only [List.forall_mem_cons]; refine ⟨decide_eq_true this.2, decide_eq_false h2, decide_eq_false h1, by simp⟩) rfl rfl W

def pathBig : List Ans := (List.replicate 32 [Ans.bit true, .bit true, .bit true, .reck 2]).flatten ++ [.bit true, .bit true, .bit true, .reck 0]
def condsBig (n : Int) : Nat → List Prop
  | 0 => []
  | k + 1 => (decide (((k : Nat) : Int) < n) = true) :: (decide (((k : Nat) : Int) < n) = true) :: (decide (((k : Nat) : Int) < n) = true) :: condsBig n k
theorem refMaskBig (n : Int) : evRun Try.prog noEnv 50 88 [.int .i64 n] Try.prog.globals.size (some pathBig) = some (.int .u32 4294967295, condsBig n 33) := by kernel_rfl
noncomputable def okN (n : Nat) : Bool := match evRun Try.prog noEnv 50 88 [.int .i64 n] Try.prog.globals.size none with
  | some (.int .u32 x, []) => decide (x = (maskN n : Int))
  | _ => false
theorem refMaskMid : (List.range 33).all okN = true := by kernel_rfl
theorem okN_all {n : Nat} (h : n < 33) : okN n = true := List.all_eq_true.1 refMaskMid n (List.mem_range.2 h)
theorem condsBig_all {n : Int} : ∀ k : Nat, (k : Int) ≤ n → ∀ p ∈ condsBig n k, p
  | 0, _ => by simp [condsBig]
  | k + 1, h => by
    have h1 : decide ((k : Int) < n) = true := decide_eq_true (by omega)
    simp only [condsBig, List.forall_mem_cons]
    exact ⟨h1, h1, h1, condsBig_all k (by omega)⟩
theorem refMaskLow (n : Int) : evRun Try.prog noEnv 50 88 [.int .i64 n] Try.prog.globals.size (some [.bit false, .bit false, .bit false, .reck 0]) = some (.int .u32 0, [decide (0 < n) = false, decide (0 < n) = false, decide (0 < n) = false]) := by kernel_rfl
theorem rmask_sum : PureSum Try.prog 88 maskG := by
  refine .of_calls Try.func88 (by kernel_rfl) rfl fun args p v h hp ha => ?_
  obtain ⟨n, rfl, rfl⟩ := maskG_args h
  refine ⟨rfl, fun W => ?_⟩
  by_cases h1 : n < 1
  · rw [show maskN n = 0 by simp [maskN, h1]]
    have : decide (0 < n) = false := decide_eq_false (by omega)
    exact calls_of_run noEnv_sound good Try.func88 rfl (refMaskLow n) (by simp only [List.forall_mem_cons]; exact ⟨this, this, this, by simp⟩) rfl rfl W
  by_cases h2 : n ≥ 33
  · rw [show maskN n = 4294967295 by simp only [maskN, if_neg h1]; rw [if_pos (by omega)]]
    exact calls_of_run noEnv_sound good Try.func88 rfl (refMaskBig n) (condsBig_all 33 (by omega)) rfl rfl W
  obtain ⟨m, rfl⟩ : ∃ m : Nat, n = m := ⟨n.toNat, by omega⟩
  have := okN_all (n := m) (by omega)
  unfold okN at this
  split at this
  · rename_i x hx
    have hx2 := of_decide_eq_true this
    subst hx2
    exact calls_of_run noEnv_sound good Try.func88 rfl hx (by simp) rfl rfl W
  · cases this

def E0 : Env := pureEnv [(89, maskG), (88, maskG)]
theorem E0_sound : E0.Sound Try.prog := pureEnv_sound ⟨mask_sum, rmask_sum, trivial⟩
def ofT (a : Int) (n : Int) : Go.Ev.PT :=
  Go.Ev.PT.need
  (Go.Ev.fitsU Go.IntKind.u32 a &&
    Go.Ev.fitsU Go.IntKind.u32
      (↑(Go.Proofs.Ytajokgjebffkgaa.maskN (if 32 < if 0 > n then 0 else n then 32 else if 0 > n then 0 else n)) :
        Int))
  Bool.true
  (Go.Ev.PT.reck 0
    (Go.Ev.PT.leaf
      (Go.Value.agg
        #[Go.Value.int Go.IntKind.u32
            (↑(a.toNat &&&
                  (↑(Go.Proofs.Ytajokgjebffkgaa.maskN
                          (if 32 < if 0 > n then 0 else n then 32 else if 0 > n then 0 else n)) :
                      Int).toNat) :
              Int),
          Go.Value.int Go.IntKind.i64 (if 32 < if 0 > n then 0 else n then 32 else if 0 > n then 0 else n)])))
def rofT (a : Int) (n : Int) : Go.Ev.PT :=
  Go.Ev.PT.test (Decidable.decide (n < 0))
  (Go.Ev.PT.reck 0
    (Go.Ev.PT.need
      (Go.Ev.fitsU Go.IntKind.u32 a && Go.Ev.fitsU Go.IntKind.u32 (↑(Go.Proofs.Ytajokgjebffkgaa.maskN 0) : Int))
      Bool.true
      (Go.Ev.PT.reck 0
        (Go.Ev.PT.leaf
          (Go.Value.agg
            #[Go.Value.int Go.IntKind.u32
                (↑(a.toNat &&& (↑(Go.Proofs.Ytajokgjebffkgaa.maskN 0) : Int).toNat) : Int),
              Go.Value.int Go.IntKind.i64 (Int.ofNat 0)])))))
  (Go.Ev.PT.test (Decidable.decide (n > 32))
    (Go.Ev.PT.need
      (Go.Ev.fitsU Go.IntKind.u32 a && Go.Ev.fitsU Go.IntKind.u32 (↑(Go.Proofs.Ytajokgjebffkgaa.maskN 32) : Int))
      Bool.true
      (Go.Ev.PT.reck 0
        (Go.Ev.PT.leaf
          (Go.Value.agg
            #[Go.Value.int Go.IntKind.u32
                (↑(a.toNat &&& (↑(Go.Proofs.Ytajokgjebffkgaa.maskN 32) : Int).toNat) : Int),
              Go.Value.int Go.IntKind.i64 (Int.ofNat 32)]))))
    (Go.Ev.PT.need
      (Go.Ev.fitsU Go.IntKind.u32 a && Go.Ev.fitsU Go.IntKind.u32 (↑(Go.Proofs.Ytajokgjebffkgaa.maskN n) : Int))
      Bool.true
      (Go.Ev.PT.reck 0
        (Go.Ev.PT.leaf
          (Go.Value.agg
            #[Go.Value.int Go.IntKind.u32
                (↑(a.toNat &&& (↑(Go.Proofs.Ytajokgjebffkgaa.maskN n) : Int).toNat) : Int),
              Go.Value.int Go.IntKind.i64 n])))))
def rightT (a : Int) (n : Int) : Go.Ev.PT :=
  Go.Ev.PT.test (Decidable.decide (n ≥ 0))
  (Go.Ev.PT.need (Decidable.decide (n ≥ 0)) Bool.true
    (Go.Ev.PT.need (Decidable.decide (n ≥ 0)) Bool.true
      (Go.Ev.PT.need (Decidable.decide (n ≥ 0)) Bool.true
        (Go.Ev.PT.test (Decidable.decide (n ≤ 32))
          (Go.Ev.PT.need (Decidable.decide (n ≤ 32)) Bool.true
            (Go.Ev.PT.need (Decidable.decide (n ≤ 32)) Bool.true
              (Go.Ev.PT.need (Decidable.decide (n ≤ 32)) Bool.true
                (Go.Ev.PT.need (Decidable.decide (n ≤ 32)) Bool.true
                  (Go.Ev.PT.need (Decidable.decide (n ≤ 32)) Bool.true
                    (Go.Ev.PT.need
                      (Go.Ev.fitsU Go.IntKind.u32 a &&
                        Go.Ev.fitsU Go.IntKind.u32 (↑(Go.Proofs.Ytajokgjebffkgaa.maskN n) : Int))
                      Bool.true
                      (Go.Ev.PT.need (Decidable.decide (n ≤ 32)) Bool.true
                        (Go.Ev.PT.need (Decidable.decide (n ≤ 32)) Bool.true
                          (Go.Ev.PT.leaf
                            (Go.Value.bool
                              (Decidable.decide
                                ((↑(a.toNat ^^^ a.toNat &&& (↑(Go.Proofs.Ytajokgjebffkgaa.maskN n) : Int).toNat) :
                                    Int) =
                                  0))))))))))))
          (Go.Ev.PT.need (Decidable.decide (n ≤ 32)) Bool.false
            (Go.Ev.PT.need (Decidable.decide (n ≤ 32)) Bool.false
              (Go.Ev.PT.need (Decidable.decide (n ≤ 32)) Bool.false
                (Go.Ev.PT.need (Decidable.decide (n ≤ 32)) Bool.false
                  (Go.Ev.PT.need (Decidable.decide (n ≤ 32)) Bool.false
                    (Go.Ev.PT.need (Decidable.decide (n ≤ 32)) Bool.false
                      (Go.Ev.PT.need (Decidable.decide (n ≤ 32)) Bool.false
                        (Go.Ev.PT.leaf (Go.Value.bool Bool.false)))))))))))))
  (Go.Ev.PT.need (Decidable.decide (n ≥ 0)) Bool.false
    (Go.Ev.PT.need (Decidable.decide (n ≥ 0)) Bool.false
      (Go.Ev.PT.need (Decidable.decide (n ≥ 0)) Bool.false
        (Go.Ev.PT.reck 7 (Go.Ev.PT.leaf (Go.Value.bool Bool.false))))))
def rrightT (a : Int) (n : Int) : Go.Ev.PT :=
  Go.Ev.PT.test (Decidable.decide (n ≥ 0))
  (Go.Ev.PT.need (Decidable.decide (n ≥ 0)) Bool.true
    (Go.Ev.PT.need (Decidable.decide (n ≥ 0)) Bool.true
      (Go.Ev.PT.need (Decidable.decide (n ≥ 0)) Bool.true
        (Go.Ev.PT.test (Decidable.decide (n ≤ 32))
          (Go.Ev.PT.need (Decidable.decide (n ≤ 32)) Bool.true
            (Go.Ev.PT.need (Decidable.decide (n ≤ 32)) Bool.true
              (Go.Ev.PT.need (Decidable.decide (n ≤ 32)) Bool.true
                (Go.Ev.PT.need (Decidable.decide (n ≤ 32)) Bool.true
                  (Go.Ev.PT.need (Decidable.decide (n ≤ 32)) Bool.true
                    (Go.Ev.PT.need
                      (Go.Ev.fitsU Go.IntKind.u32 a &&
                        Go.Ev.fitsU Go.IntKind.u32 (↑(Go.Proofs.Ytajokgjebffkgaa.maskN n) : Int))
                      Bool.true
                      (Go.Ev.PT.need (Decidable.decide (n ≤ 32)) Bool.true
                        (Go.Ev.PT.need (Decidable.decide (n ≤ 32)) Bool.true
                          (Go.Ev.PT.leaf
                            (Go.Value.bool
                              (Decidable.decide
                                ((↑(a.toNat ^^^ a.toNat &&& (↑(Go.Proofs.Ytajokgjebffkgaa.maskN n) : Int).toNat) :
                                    Int) =
                                  0))))))))))))
          (Go.Ev.PT.need (Decidable.decide (n ≤ 32)) Bool.false
            (Go.Ev.PT.need (Decidable.decide (n ≤ 32)) Bool.false
              (Go.Ev.PT.need (Decidable.decide (n ≤ 32)) Bool.false
                (Go.Ev.PT.need (Decidable.decide (n ≤ 32)) Bool.false
                  (Go.Ev.PT.need (Decidable.decide (n ≤ 32)) Bool.false
                    (Go.Ev.PT.need (Decidable.decide (n ≤ 32)) Bool.false
                      (Go.Ev.PT.need (Decidable.decide (n ≤ 32)) Bool.false
                        (Go.Ev.PT.leaf (Go.Value.bool Bool.false)))))))))))))
  (Go.Ev.PT.need (Decidable.decide (n ≥ 0)) Bool.false
    (Go.Ev.PT.need (Decidable.decide (n ≥ 0)) Bool.false
      (Go.Ev.PT.need (Decidable.decide (n ≥ 0)) Bool.false
        (Go.Ev.PT.reck 7 (Go.Ev.PT.leaf (Go.Value.bool Bool.false))))))
set_option maxRecDepth 100000 in
theorem ofT_fits (a n : Int) : (ofT a n).Fits fun π => evRun Try.prog E0 60 63 [.int .u32 a, .int .i64 n] Try.prog.globals.size (some π) := by unfold PT.Fits; kernel_rfl
set_option maxRecDepth 100000 in
theorem rofT_fits (a n : Int) : (rofT a n).Fits fun π => evRun Try.prog E0 60 56 [.int .u32 a, .int .i64 n] Try.prog.globals.size (some π) := by unfold PT.Fits; kernel_rfl
set_option maxRecDepth 100000 in
theorem rightT_fits (a n : Int) : (rightT a n).Fits fun π => evRun Try.prog E0 60 58 [pfx a n] Try.prog.globals.size (some π) := by unfold PT.Fits; kernel_rfl
set_option maxRecDepth 100000 in
theorem rrightT_fits (a n : Int) : (rrightT a n).Fits fun π => evRun Try.prog E0 60 82 [pfx a n] Try.prog.globals.size (some π) := by unfold PT.Fits; kernel_rfl

theorem clN_eq (n : Int) : (if 32 < if 0 > n then 0 else n then 32 else if 0 > n then 0 else n) = clN n := by
  unfold clN; repeat' split
  all_goals omega
theorem ofT_val (a n : Int) (h : inU a = true) : (ofT a n).val = some (pfx ((a.toNat &&& maskN (clN n) : Nat) : Int) (clN n)) := by
  simp only [ofT, val_need, val_reck, val_leaf, clN_eq, fitsU_in, h, Bool.true_and, Int.toNat_natCast, pfx]
  rw [← fitsU_in, fitsU_mask, if_pos rfl]
theorem rofT_val (a n : Int) (h : inU a = true) : (rofT a n).val = some (pfx ((a.toNat &&& maskN (clN n) : Nat) : Int) (clN n)) := by
  simp only [rofT, val_test, val_need, val_reck, val_leaf, fitsU_in, h, Bool.true_and, Int.toNat_natCast, pfx]
  simp only [← fitsU_in, fitsU_mask, if_true, decide_eq_true_eq]
  by_cases h1 : n < 0
  · rw [if_pos h1, show clN n = 0 by simp [clN, h1]]; rfl
  · rw [if_neg h1]
    by_cases h2 : n > 32
    · rw [if_pos h2, show clN n = 32 by simp [clN, h1, h2]]; rfl
    · rw [if_neg h2, show clN n = n by simp [clN, h1, h2]]
theorem rightT_val (a n : Int) (h : inU a = true) : (rightT a n).val = some (.bool (rightB a n)) := by
  simp only [rightT, val_test, val_need, val_reck, val_leaf, fitsU_in, h, Bool.true_and, Int.toNat_natCast, rightB]
  simp only [← fitsU_in, fitsU_mask, if_true, decide_eq_true_eq]
  by_cases h1 : n ≥ 0 <;> by_cases h2 : n ≤ 32 <;> simp [h1, h2]
theorem rrightT_val (a n : Int) (h : inU a = true) : (rrightT a n).val = some (.bool (rightB a n)) := by
  simp only [rrightT, val_test, val_need, val_reck, val_leaf, fitsU_in, h, Bool.true_and, Int.toNat_natCast, rightB]
  simp only [← fitsU_in, fitsU_mask, if_true, decide_eq_true_eq]
  by_cases h1 : n ≥ 0 <;> by_cases h2 : n ≤ 32 <;> simp [h1, h2]
theorem ofG_args {args : List Value} {p : Option Bool} {v : Value} (h : ofG args = some (p, v)) : ∃ a n, args = [.int .u32 a, .int .i64 n] ∧ p = some (inU a) ∧ v = pfx ((a.toNat &&& maskN (clN n) : Nat) : Int) (clN n) := by
  unfold ofG at h
  split at h
  · rename_i a n
    simp only [Option.some.injEq, Prod.mk.injEq] at h
    exact ⟨a, n, rfl, h.1.symm, h.2.symm⟩
  · cases h
theorem on1_args {f : Int → Int → Value} {args : List Value} {p : Option Bool} {v : Value} (h : on1 f args = some (p, v)) : ∃ a n, args = [pfx a n] ∧ p = some (inU a) ∧ v = f a n := by
  unfold on1 at h
  split at h
  · rename_i a n
    simp only [Option.some.injEq, Prod.mk.injEq] at h
    exact ⟨a, n, rfl, h.1.symm, h.2.symm⟩
  · cases h
theorem on2_args {f : Int → Int → Int → Int → Value} {args : List Value} {p : Option Bool} {v : Value} (h : on2 f args = some (p, v)) : ∃ a n b m, args = [pfx a n, pfx b m] ∧ p = some (inU a && inU b) ∧ v = f a n b m := by
  unfold on2 at h
  split at h
  · rename_i a n b m
    simp only [Option.some.injEq, Prod.mk.injEq] at h
    exact ⟨a, n, b, m, rfl, h.1.symm, h.2.symm⟩
  · cases h
theorem hasG_args {args : List Value} {p : Option Bool} {v : Value} (h : hasG args = some (p, v)) : ∃ a n x, args = [pfx a n, .int .u32 x] ∧ p = some (inU a && inU x) ∧ v = .bool (hasB a n x) := by
  unfold hasG at h
  split at h
  · rename_i a n x
    simp only [Option.some.injEq, Prod.mk.injEq] at h
    exact ⟨a, n, x, rfl, h.1.symm, h.2.symm⟩
  · cases h
theorem of_sum : PureSum Try.prog 63 ofG := .of_tree E0_sound good Try.func63 (by kernel_rfl) rfl fun args p v h hp ha => by
  obtain ⟨a, n, rfl, rfl, rfl⟩ := ofG_args h
  exact ⟨rfl, _, ofT_fits a n, ofT_val a n hp⟩
theorem rof_sum : PureSum Try.prog 56 ofG := .of_tree E0_sound good Try.func56 (by kernel_rfl) rfl fun args p v h hp ha => by
  obtain ⟨a, n, rfl, rfl, rfl⟩ := ofG_args h
  exact ⟨rfl, _, rofT_fits a n, rofT_val a n hp⟩
theorem right_sum : PureSum Try.prog 58 rightG := .of_tree E0_sound good Try.func58 (by kernel_rfl) rfl fun args p v h hp ha => by
  obtain ⟨a, n, rfl, rfl, rfl⟩ := on1_args h
  exact ⟨rfl, _, rightT_fits a n, rightT_val a n hp⟩
theorem rright_sum : PureSum Try.prog 82 rightG := .of_tree E0_sound good Try.func82 (by kernel_rfl) rfl fun args p v h hp ha => by
  obtain ⟨a, n, rfl, rfl, rfl⟩ := on1_args h
  exact ⟨rfl, _, rrightT_fits a n, rrightT_val a n hp⟩
theorem rightB_spec {a n : Int} : rightB a n = true ↔ 0 ≤ n ∧ n ≤ 32 ∧ (a.toNat ^^^ a.toNat &&& maskN n) = 0 := by
  simp [rightB, and_assoc]
def anyN (n : Int) : Int := n % 33
def anyA (a n : Int) : Int := ((a.toNat &&& maskN (anyN n) : Nat) : Int)
def anyV (a n : Int) : Value := pfx (anyA a n) (anyN n)
def anyG : PFun
  | [.int .u32 a, .int .i64 n] => some (some (inU a), anyV a n)
  | _ => none
theorem anyG_args {args : List Value} {p : Option Bool} {v : Value} (h : anyG args = some (p, v)) : ∃ a n, args = [.int .u32 a, .int .i64 n] ∧ p = some (inU a) ∧ v = anyV a n := by
  unfold anyG at h
  split at h
  · simp only [Option.some.injEq, Prod.mk.injEq] at h
    exact ⟨_, _, rfl, h.1.symm, h.2.symm⟩
  · cases h
def Ea : Env := pureEnv [(13, withinG), (56, ofG)]
theorem Ea_sound : Ea.Sound Try.prog := pureEnv_sound ⟨within_sum, rof_sum, trivial⟩
def anyT (a n : Int) : PT := .reck 0 (.need (inU a) true (.reck 0 (.leaf (pfx ((a.toNat &&& maskN (clN (withinV n 0 32)) : Nat) : Int) (clN (withinV n 0 32))))))
theorem anyT_fits (a n : Int) : (anyT a n).Fits fun π => evRun Try.prog Ea 60 17 [.int .u32 a, .int .i64 n] Try.prog.globals.size (some π) := by unfold PT.Fits; kernel_rfl
theorem anyT_val (a n : Int) (h : inU a = true) : (anyT a n).val = some (anyV a n) := by
  have b1 := Int.emod_nonneg n (show (33 : Int) ≠ 0 by decide)
  have b2 := Int.emod_lt_of_pos n (show (0 : Int) < 33 by decide)
  have e : clN (withinV n 0 32) = anyN n := by
    have : withinV n 0 32 = n % 33 := by unfold withinV; rw [Int.zero_add]; rfl
    rw [this]; unfold clN anyN; rw [if_neg (by omega), if_neg (by omega)]
  simp only [anyT, val_need, val_reck, val_leaf, h, e, anyV, anyA, if_true]
theorem any_sum : PureSum Try.prog 17 anyG := .of_tree Ea_sound good Try.func17 (by kernel_rfl) rfl fun args p v h hp _ => by
  obtain ⟨a, n, rfl, rfl, rfl⟩ := anyG_args h
  exact ⟨rfl, _, anyT_fits a n, anyT_val a n hp⟩
/-- The first k bits of 32. -/
def fl (x k : Nat) : Nat := x / 2 ^ (32 - k) * 2 ^ (32 - k)
theorem fl_bit (x k i : Nat) : (fl x k).testBit i = (decide (32 - k ≤ i) && x.testBit i) := by
  unfold fl
  rw [← Nat.shiftRight_eq_div_pow, ← Nat.shiftLeft_eq, Nat.testBit_shiftLeft, Nat.testBit_shiftRight]
  by_cases h : 32 - k ≤ i
  · simp [h, show 32 - k + (i - (32 - k)) = i by omega]
  · simp [h]
theorem maskN_nat (k : Nat) (h : k ≤ 32) : maskN (k : Int) = fl 4294967295 k := by
  have : ∀ k : Fin 33, maskN (k.val : Int) = fl 4294967295 k.val := by decide +kernel
  exact this ⟨k, by omega⟩
theorem ones_bit (i : Nat) : (4294967295 : Nat).testBit i = decide (i < 32) := by
  have : (4294967295 : Nat) = 2 ^ 32 - 1 := by decide
  rw [this, Nat.testBit_two_pow_sub_one]
theorem and_mask {x k : Nat} (hx : x < 4294967296) (h : k ≤ 32) : x &&& maskN (k : Int) = fl x k := by
  apply Nat.eq_of_testBit_eq
  intro i
  rw [maskN_nat k h, Nat.testBit_and, fl_bit, fl_bit, ones_bit]
  by_cases hi : i < 32
  · simp [hi, Bool.and_comm]
  · have : x.testBit i = false := Nat.testBit_lt_two_pow (Nat.lt_of_lt_of_le hx (by
      have := Nat.pow_le_pow_right (show 0 < 2 by decide) (show 32 ≤ i by omega)
      simpa using this))
    simp [this]
theorem fl_fl {x j k : Nat} (h : j ≤ k) : fl (fl x k) j = fl x j := by
  apply Nat.eq_of_testBit_eq
  intro i
  rw [fl_bit, fl_bit, fl_bit]
  by_cases hi : 32 - j ≤ i
  · simp [hi, show 32 - k ≤ i by omega]
  · simp [hi]
theorem fl_le (x k : Nat) : fl x k ≤ x := Nat.div_mul_le_self _ _
theorem fl_mono {x y k : Nat} (h : x ≤ y) : fl x k ≤ fl y k := Nat.mul_le_mul_right _ (Nat.div_le_div_right h)
theorem fl_zero {x : Nat} (h : x < 4294967296) : fl x 0 = 0 := by
  unfold fl; rw [Nat.div_eq_of_lt (by simpa using h)]
theorem xor_zero {a b : Nat} : a ^^^ b = 0 ↔ a = b := by
  constructor
  · intro h
    apply Nat.eq_of_testBit_eq
    intro i
    have := congrArg (fun x => Nat.testBit x i) h
    simp only [Nat.testBit_xor, Nat.zero_testBit] at this
    cases h1 : a.testBit i <;> cases h2 : b.testBit i <;> simp [h1, h2] at this ⊢
  · rintro rfl; exact Nat.xor_self a
/-- A prefix. -/
def Pf (a n : Nat) : Prop := a < 4294967296 ∧ n ≤ 32 ∧ fl a n = a
def Cov (a n b m : Nat) : Prop := n ≤ m ∧ fl b n = a
theorem Cov.refl {a n : Nat} (h : Pf a n) : Cov a n a n := ⟨Nat.le_refl _, h.2.2⟩
theorem Cov.trans {a n b m c k : Nat} (h : Cov a n b m) (g : Cov b m c k) : Cov a n c k :=
  ⟨Nat.le_trans h.1 g.1, by rw [← h.2, ← g.2, fl_fl h.1]⟩
theorem Cov.antisymm {a n b m : Nat} (ha : Pf a n) (h : Cov a n b m) (g : Cov b m a n) : a = b ∧ n = m := by
  have hn : n = m := Nat.le_antisymm h.1 g.1
  subst hn
  exact ⟨by rw [← g.2, ha.2.2], rfl⟩
theorem pf_of {a n : Int} (h1 : inU a = true) (h2 : rightB a n = true) : ∃ x k : Nat, a = (x : Int) ∧ n = (k : Int) ∧ Pf x k := by
  obtain ⟨b1, b2⟩ := inU_spec.1 h1
  obtain ⟨c1, c2, c3⟩ := rightB_spec.1 h2
  refine ⟨a.toNat, n.toNat, by omega, by omega, by omega, by omega, ?_⟩
  have hn : n = (n.toNat : Int) := by omega
  rw [hn, and_mask (by omega) (by omega)] at c3
  exact (xor_zero.1 c3).symm
theorem right_iff {x k : Nat} (hx : x < 4294967296) : rightB (x : Int) (k : Int) = true ↔ Pf x k := by
  rw [rightB_spec]
  constructor
  · rintro ⟨_, h2, h3⟩
    rw [Int.toNat_natCast, and_mask hx (by omega)] at h3
    exact ⟨hx, by omega, (xor_zero.1 h3).symm⟩
  · rintro ⟨_, h2, h3⟩
    exact ⟨by omega, by omega, by rw [Int.toNat_natCast, and_mask hx h2, h3, Nat.xor_self]⟩
theorem inU_nat {x : Nat} : inU (x : Int) = true ↔ x < 4294967296 := by rw [inU_spec]; omega
theorem any_pf (a n : Int) (h : inU a = true) : ∃ x k : Nat, anyV a n = pfx x k ∧ Pf x k ∧ (x : Int) = anyA a n ∧ (k : Int) = anyN n := by
  have b1 := Int.emod_nonneg n (show (33 : Int) ≠ 0 by decide)
  have b2 := Int.emod_lt_of_pos n (show (0 : Int) < 33 by decide)
  have hu := inU_spec.1 h
  have hk : anyN n = ((n % 33).toNat : Int) := by unfold anyN; omega
  have hx : anyA a n = ((fl a.toNat (n % 33).toNat : Nat) : Int) := by
    unfold anyA; rw [hk, and_mask (by omega) (by omega)]
  refine ⟨fl a.toNat (n % 33).toNat, (n % 33).toNat, ?_, ⟨Nat.lt_of_le_of_lt (fl_le _ _) (by omega), by omega, fl_fl (Nat.le_refl _)⟩, hx.symm, hk.symm⟩
  unfold anyV; rw [hk, hx]
end Go.Proofs.Ytajokgjebffkgaa
