/- Chapter 1's functions by summaries: what each answers, for any arguments. -/
import Derived.Test.YtdgdojlhncbggaaDoorRows
import Derived.WalkKit
import Derived.Test.YtdgdojlhncbggaaDoorEvT
namespace Go.Proofs.YtdgdojlhncbggaaDoor
open Go Go.Ev Go.RowKit
set_option maxRecDepth 100000
theorem good : Ev.Good Tryd.prog := ⟨by kernel_rfl, by kernel_rfl, by kernel_rfl⟩
/-- n bits from the highest on. -/
def maskN (n : Int) : Nat := if n < 1 then 0 else if n ≥ 32 then 4294967295 else 4294967296 - 2 ^ (32 - n).toNat
def clN (n : Int) : Int := if n < 0 then 0 else if n > 32 then 32 else n
def inU (a : Int) : Bool := decide (0 ≤ a) && decide (a < 4294967296)
def rightB (a n : Int) : Bool := decide (0 ≤ n) && decide (n ≤ 32) && decide ((a.toNat ^^^ a.toNat &&& maskN n) = 0)
def lessB (a n b m : Int) : Bool := rightB a n && rightB b m && (decide (a < b) || decide (a = b) && decide (n < m))
def hasB (a n x : Int) : Bool := rightB a n && decide (((x.toNat &&& maskN n : Nat) : Int) = a)
def coversB (a n b m : Int) : Bool := rightB b m && decide (n ≤ m) && hasB a n b
def pfx (a n : Int) : Value := .agg #[.int .u32 a, .int .i64 n]
def maskG : PFun
  | [.int .i64 n] => some (none, .int .u32 (maskN n))
  | _ => none
def ofG : PFun
  | [.int .u32 a, .int .i64 n] => some (some (inU a), pfx ((a.toNat &&& maskN (clN n) : Nat) : Int) (clN n))
  | _ => none
def on1 (f : Int → Int → Value) : PFun
  | [.agg ⟨[.int .u32 a, .int .i64 n]⟩] => some (some (inU a), f a n)
  | _ => none
def on2 (f : Int → Int → Int → Int → Value) : PFun
  | [.agg ⟨[.int .u32 a, .int .i64 n]⟩, .agg ⟨[.int .u32 b, .int .i64 m]⟩] => some (some (inU a && inU b), f a n b m)
  | _ => none
def rightG : PFun := on1 fun a n => .bool (rightB a n)
def lessG : PFun := on2 fun a n b m => .bool (lessB a n b m)
def hasG : PFun
  | [.agg ⟨[.int .u32 a, .int .i64 n]⟩, .int .u32 x] => some (some (inU a && inU x), .bool (hasB a n x))
  | _ => none

theorem maskN_le (n : Int) : maskN n ≤ 4294967295 := by
  unfold maskN; split
  · omega
  · split
    · omega
    · have := Nat.two_pow_pos (32 - n).toNat; omega
theorem fitsU_in (a : Int) : fitsU .u32 a = inU a := by
  cases a with
  | ofNat m => simp only [fitsU, inU]; rw [Bool.eq_iff_iff]; simp; omega
  | negSucc m => simp [fitsU, inU]
theorem fitsU_mask (n : Int) : fitsU .u32 ((maskN n : Nat) : Int) = true := by
  have := maskN_le n; simp [fitsU]; omega
theorem inU_spec {a : Int} : inU a = true ↔ 0 ≤ a ∧ a < 4294967296 := by simp [inU]
theorem val_leaf (v : Value) : (PT.leaf v).val = some v := rfl
theorem val_test (b : Bool) (t e : PT) : (PT.test b t e).val = if b = true then t.val else e.val := by cases b <;> rfl
theorem val_need (b d : Bool) (t : PT) : (PT.need b d t).val = if b = d then t.val else none := by cases b <;> cases d <;> rfl
theorem val_reck (n : Nat) (t : PT) : (PT.reck n t).val = t.val := rfl

theorem mask1 (n : Int) : evRun Tryd.prog noEnv 50 11 [.int .i64 n] 4 (some [.bit true]) = some (.int .u32 0, [decide (n < 1) = true]) := by kernel_rfl
theorem mask2 (n : Int) : evRun Tryd.prog noEnv 50 11 [.int .i64 n] 4 (some [.bit false, .bit true]) = some (.int .u32 4294967295, [decide (n ≥ 32) = true, decide (n < 1) = false]) := by kernel_rfl
theorem mask3 (n : Int) : evRun Tryd.prog noEnv 50 11 [.int .i64 n] 4 (some [.bit false, .bit false, .bit true]) = some (.int .u32 (wrapF IntKind.u32 (4294967295 * ((2 ^ min (wrapF IntKind.i64 (32 - n)).toNat (bitsF IntKind.u32) : Nat) : Int))), [decide (0 ≤ wrapF IntKind.i64 (32 - n)) = true, decide (n ≥ 32) = false, decide (n < 1) = false]) := by kernel_rfl
theorem mask_arith : ∀ m : Fin 32, 1 ≤ m.val → wrapF IntKind.u32 (4294967295 * ((2 ^ min (wrapF IntKind.i64 (32 - (m.val : Int))).toNat (bitsF IntKind.u32) : Nat) : Int)) = (maskN m.val : Int) ∧ 0 ≤ wrapF IntKind.i64 (32 - (m.val : Int)) := by decide +kernel
theorem maskG_args {args : List Value} {p : Option Bool} {v : Value} (h : maskG args = some (p, v)) : ∃ n, args = [.int .i64 n] ∧ v = .int .u32 (maskN n) := by
  unfold maskG at h
  split at h
  · rename_i n
    simp only [Option.some.injEq, Prod.mk.injEq] at h
    exact ⟨n, rfl, h.2.symm⟩
  · cases h
theorem mask_sum : PureSum Tryd.prog 11 maskG := by
  refine .of_calls Tryd.func11 (by kernel_rfl) rfl fun args p v h hp ha => ?_
  obtain ⟨n, rfl, rfl⟩ := maskG_args h
  refine ⟨rfl, fun W => ?_⟩
  by_cases h1 : n < 1
  · rw [show maskN n = 0 by simp [maskN, h1]]
    exact calls_of_run noEnv_sound good Tryd.func11 rfl (mask1 n) (by simp [h1]) rfl rfl W
  by_cases h2 : n ≥ 32
  · rw [show maskN n = 4294967295 by simp [maskN, h1, h2]]
    exact calls_of_run noEnv_sound good Tryd.func11 rfl (mask2 n) (by simp [h1, h2]) rfl rfl W
  obtain ⟨m, rfl⟩ : ∃ m : Nat, n = m := ⟨n.toNat, by omega⟩
  have := mask_arith ⟨m, by omega⟩ (by simp; omega)
  rw [← this.1]
  exact calls_of_run noEnv_sound good Tryd.func11 rfl (mask3 m) (by simp only [List.forall_mem_cons]; refine ⟨decide_eq_true this.2, decide_eq_false h2, decide_eq_false h1, by simp⟩) rfl rfl W

def pathBig : List Ans := (List.replicate 32 [Ans.bit true, .bit true, .bit true, .reck 2]).flatten ++ [.bit true, .bit true, .bit true, .reck 0]
def condsBig (n : Int) : Nat → List Prop
  | 0 => []
  | k + 1 => (decide (((k : Nat) : Int) < n) = true) :: (decide (((k : Nat) : Int) < n) = true) :: (decide (((k : Nat) : Int) < n) = true) :: condsBig n k
theorem refMaskBig (n : Int) : evRun Tryd.prog noEnv 50 12 [.int .i64 n] 4 (some pathBig) = some (.int .u32 4294967295, condsBig n 33) := by kernel_rfl
noncomputable def okN (n : Nat) : Bool := match evRun Tryd.prog noEnv 50 12 [.int .i64 n] 4 none with
  | some (.int .u32 x, []) => decide (x = (maskN n : Int))
  | _ => false
theorem refMaskMid : (List.range 33).all okN = true := by kernel_rfl
theorem okN_all {n : Nat} (h : n < 33) : okN n = true := List.all_eq_true.1 refMaskMid n (List.mem_range.2 h)
theorem condsBig_all {n : Int} : ∀ k : Nat, (k : Int) ≤ n → ∀ p ∈ condsBig n k, p
  | 0, _ => by simp [condsBig]
  | k + 1, h => by
    have h1 : decide ((k : Int) < n) = true := decide_eq_true (by omega)
    simp only [condsBig, List.forall_mem_cons]
    exact ⟨h1, h1, h1, condsBig_all k (by omega)⟩
theorem refMaskLow (n : Int) : evRun Tryd.prog noEnv 50 12 [.int .i64 n] 4 (some [.bit false, .bit false, .bit false, .reck 0]) = some (.int .u32 0, [decide (0 < n) = false, decide (0 < n) = false, decide (0 < n) = false]) := by kernel_rfl
theorem rmask_sum : PureSum Tryd.prog 12 maskG := by
  refine .of_calls Tryd.func12 (by kernel_rfl) rfl fun args p v h hp ha => ?_
  obtain ⟨n, rfl, rfl⟩ := maskG_args h
  refine ⟨rfl, fun W => ?_⟩
  by_cases h1 : n < 1
  · rw [show maskN n = 0 by simp [maskN, h1]]
    have : decide (0 < n) = false := decide_eq_false (by omega)
    exact calls_of_run noEnv_sound good Tryd.func12 rfl (refMaskLow n) (by simp only [List.forall_mem_cons]; exact ⟨this, this, this, by simp⟩) rfl rfl W
  by_cases h2 : n ≥ 33
  · rw [show maskN n = 4294967295 by simp only [maskN, if_neg h1]; rw [if_pos (by omega)]]
    exact calls_of_run noEnv_sound good Tryd.func12 rfl (refMaskBig n) (condsBig_all 33 (by omega)) rfl rfl W
  obtain ⟨m, rfl⟩ : ∃ m : Nat, n = m := ⟨n.toNat, by omega⟩
  have := okN_all (n := m) (by omega)
  unfold okN at this
  split at this
  · rename_i x hx
    have hx2 := of_decide_eq_true this
    subst hx2
    exact calls_of_run noEnv_sound good Tryd.func12 rfl hx (by simp) rfl rfl W
  · cases this

def E0 : Env := pureEnv [(11, maskG), (12, maskG)]
theorem E0_sound : E0.Sound Tryd.prog := pureEnv_sound ⟨mask_sum, rmask_sum, trivial⟩
def ofT (a : Int) (n : Int) : Go.Ev.PT :=
  Go.Ev.PT.need
  (Go.Ev.fitsU Go.IntKind.u32 a &&
    Go.Ev.fitsU Go.IntKind.u32
      (↑(Go.Proofs.YtdgdojlhncbggaaDoor.maskN (if 32 < if 0 > n then 0 else n then 32 else if 0 > n then 0 else n)) :
        Int))
  Bool.true
  (Go.Ev.PT.reck 0
    (Go.Ev.PT.leaf
      (Go.Value.agg
        #[Go.Value.int Go.IntKind.u32
            (↑(a.toNat &&&
                  (↑(Go.Proofs.YtdgdojlhncbggaaDoor.maskN
                          (if 32 < if 0 > n then 0 else n then 32 else if 0 > n then 0 else n)) :
                      Int).toNat) :
              Int),
          Go.Value.int Go.IntKind.i64 (if 32 < if 0 > n then 0 else n then 32 else if 0 > n then 0 else n)])))
def rofT (a : Int) (n : Int) : Go.Ev.PT :=
  Go.Ev.PT.test (Decidable.decide (n < 0))
  (Go.Ev.PT.reck 0
    (Go.Ev.PT.need
      (Go.Ev.fitsU Go.IntKind.u32 a && Go.Ev.fitsU Go.IntKind.u32 (↑(Go.Proofs.YtdgdojlhncbggaaDoor.maskN 0) : Int))
      Bool.true
      (Go.Ev.PT.reck 0
        (Go.Ev.PT.leaf
          (Go.Value.agg
            #[Go.Value.int Go.IntKind.u32
                (↑(a.toNat &&& (↑(Go.Proofs.YtdgdojlhncbggaaDoor.maskN 0) : Int).toNat) : Int),
              Go.Value.int Go.IntKind.i64 (Int.ofNat 0)])))))
  (Go.Ev.PT.test (Decidable.decide (n > 32))
    (Go.Ev.PT.need
      (Go.Ev.fitsU Go.IntKind.u32 a && Go.Ev.fitsU Go.IntKind.u32 (↑(Go.Proofs.YtdgdojlhncbggaaDoor.maskN 32) : Int))
      Bool.true
      (Go.Ev.PT.reck 0
        (Go.Ev.PT.leaf
          (Go.Value.agg
            #[Go.Value.int Go.IntKind.u32
                (↑(a.toNat &&& (↑(Go.Proofs.YtdgdojlhncbggaaDoor.maskN 32) : Int).toNat) : Int),
              Go.Value.int Go.IntKind.i64 (Int.ofNat 32)]))))
    (Go.Ev.PT.need
      (Go.Ev.fitsU Go.IntKind.u32 a && Go.Ev.fitsU Go.IntKind.u32 (↑(Go.Proofs.YtdgdojlhncbggaaDoor.maskN n) : Int))
      Bool.true
      (Go.Ev.PT.reck 0
        (Go.Ev.PT.leaf
          (Go.Value.agg
            #[Go.Value.int Go.IntKind.u32
                (↑(a.toNat &&& (↑(Go.Proofs.YtdgdojlhncbggaaDoor.maskN n) : Int).toNat) : Int),
              Go.Value.int Go.IntKind.i64 n])))))
def rightT (a : Int) (n : Int) : Go.Ev.PT :=
  Go.Ev.PT.test (Decidable.decide (n ≥ 0))
  (Go.Ev.PT.need (Decidable.decide (n ≥ 0)) Bool.true
    (Go.Ev.PT.need (Decidable.decide (n ≥ 0)) Bool.true
      (Go.Ev.PT.need (Decidable.decide (n ≥ 0)) Bool.true
        (Go.Ev.PT.test (Decidable.decide (n ≤ 32))
          (Go.Ev.PT.need (Decidable.decide (n ≤ 32)) Bool.true
            (Go.Ev.PT.need (Decidable.decide (n ≤ 32)) Bool.true
              (Go.Ev.PT.need (Decidable.decide (n ≤ 32)) Bool.true
                (Go.Ev.PT.need (Decidable.decide (n ≤ 32)) Bool.true
                  (Go.Ev.PT.need (Decidable.decide (n ≤ 32)) Bool.true
                    (Go.Ev.PT.need
                      (Go.Ev.fitsU Go.IntKind.u32 a &&
                        Go.Ev.fitsU Go.IntKind.u32 (↑(Go.Proofs.YtdgdojlhncbggaaDoor.maskN n) : Int))
                      Bool.true
                      (Go.Ev.PT.need (Decidable.decide (n ≤ 32)) Bool.true
                        (Go.Ev.PT.need (Decidable.decide (n ≤ 32)) Bool.true
                          (Go.Ev.PT.leaf
                            (Go.Value.bool
                              (Decidable.decide
                                ((↑(a.toNat ^^^ a.toNat &&& (↑(Go.Proofs.YtdgdojlhncbggaaDoor.maskN n) : Int).toNat) :
                                    Int) =
                                  0))))))))))))
          (Go.Ev.PT.need (Decidable.decide (n ≤ 32)) Bool.false
            (Go.Ev.PT.need (Decidable.decide (n ≤ 32)) Bool.false
              (Go.Ev.PT.need (Decidable.decide (n ≤ 32)) Bool.false
                (Go.Ev.PT.need (Decidable.decide (n ≤ 32)) Bool.false
                  (Go.Ev.PT.need (Decidable.decide (n ≤ 32)) Bool.false
                    (Go.Ev.PT.need (Decidable.decide (n ≤ 32)) Bool.false
                      (Go.Ev.PT.need (Decidable.decide (n ≤ 32)) Bool.false
                        (Go.Ev.PT.leaf (Go.Value.bool Bool.false)))))))))))))
  (Go.Ev.PT.need (Decidable.decide (n ≥ 0)) Bool.false
    (Go.Ev.PT.need (Decidable.decide (n ≥ 0)) Bool.false
      (Go.Ev.PT.need (Decidable.decide (n ≥ 0)) Bool.false
        (Go.Ev.PT.reck 7 (Go.Ev.PT.leaf (Go.Value.bool Bool.false))))))
def rrightT (a : Int) (n : Int) : Go.Ev.PT :=
  Go.Ev.PT.test (Decidable.decide (n ≥ 0))
  (Go.Ev.PT.need (Decidable.decide (n ≥ 0)) Bool.true
    (Go.Ev.PT.need (Decidable.decide (n ≥ 0)) Bool.true
      (Go.Ev.PT.need (Decidable.decide (n ≥ 0)) Bool.true
        (Go.Ev.PT.test (Decidable.decide (n ≤ 32))
          (Go.Ev.PT.need (Decidable.decide (n ≤ 32)) Bool.true
            (Go.Ev.PT.need (Decidable.decide (n ≤ 32)) Bool.true
              (Go.Ev.PT.need (Decidable.decide (n ≤ 32)) Bool.true
                (Go.Ev.PT.need (Decidable.decide (n ≤ 32)) Bool.true
                  (Go.Ev.PT.need (Decidable.decide (n ≤ 32)) Bool.true
                    (Go.Ev.PT.need
                      (Go.Ev.fitsU Go.IntKind.u32 a &&
                        Go.Ev.fitsU Go.IntKind.u32 (↑(Go.Proofs.YtdgdojlhncbggaaDoor.maskN n) : Int))
                      Bool.true
                      (Go.Ev.PT.need (Decidable.decide (n ≤ 32)) Bool.true
                        (Go.Ev.PT.need (Decidable.decide (n ≤ 32)) Bool.true
                          (Go.Ev.PT.leaf
                            (Go.Value.bool
                              (Decidable.decide
                                ((↑(a.toNat ^^^ a.toNat &&& (↑(Go.Proofs.YtdgdojlhncbggaaDoor.maskN n) : Int).toNat) :
                                    Int) =
                                  0))))))))))))
          (Go.Ev.PT.need (Decidable.decide (n ≤ 32)) Bool.false
            (Go.Ev.PT.need (Decidable.decide (n ≤ 32)) Bool.false
              (Go.Ev.PT.need (Decidable.decide (n ≤ 32)) Bool.false
                (Go.Ev.PT.need (Decidable.decide (n ≤ 32)) Bool.false
                  (Go.Ev.PT.need (Decidable.decide (n ≤ 32)) Bool.false
                    (Go.Ev.PT.need (Decidable.decide (n ≤ 32)) Bool.false
                      (Go.Ev.PT.need (Decidable.decide (n ≤ 32)) Bool.false
                        (Go.Ev.PT.leaf (Go.Value.bool Bool.false)))))))))))))
  (Go.Ev.PT.need (Decidable.decide (n ≥ 0)) Bool.false
    (Go.Ev.PT.need (Decidable.decide (n ≥ 0)) Bool.false
      (Go.Ev.PT.need (Decidable.decide (n ≥ 0)) Bool.false
        (Go.Ev.PT.reck 7 (Go.Ev.PT.leaf (Go.Value.bool Bool.false))))))
set_option maxRecDepth 100000 in
theorem ofT_fits (a n : Int) : (ofT a n).Fits fun π => evRun Tryd.prog E0 60 13 [.int .u32 a, .int .i64 n] Tryd.prog.globals.size (some π) := by unfold PT.Fits; kernel_rfl
set_option maxRecDepth 100000 in
theorem rofT_fits (a n : Int) : (rofT a n).Fits fun π => evRun Tryd.prog E0 60 14 [.int .u32 a, .int .i64 n] Tryd.prog.globals.size (some π) := by unfold PT.Fits; kernel_rfl
set_option maxRecDepth 100000 in
theorem rightT_fits (a n : Int) : (rightT a n).Fits fun π => evRun Tryd.prog E0 60 28 [pfx a n] Tryd.prog.globals.size (some π) := by unfold PT.Fits; kernel_rfl
set_option maxRecDepth 100000 in
theorem rrightT_fits (a n : Int) : (rrightT a n).Fits fun π => evRun Tryd.prog E0 60 31 [pfx a n] Tryd.prog.globals.size (some π) := by unfold PT.Fits; kernel_rfl

theorem clN_eq (n : Int) : (if 32 < if 0 > n then 0 else n then 32 else if 0 > n then 0 else n) = clN n := by
  unfold clN; repeat' split
  all_goals omega
theorem ofT_val (a n : Int) (h : inU a = true) : (ofT a n).val = some (pfx ((a.toNat &&& maskN (clN n) : Nat) : Int) (clN n)) := by
  simp only [ofT, val_need, val_reck, val_leaf, clN_eq, fitsU_in, h, fitsU_mask, Bool.true_and, Int.toNat_natCast, if_true, pfx]
  rw [← fitsU_in, fitsU_mask, if_pos rfl]
theorem rofT_val (a n : Int) (h : inU a = true) : (rofT a n).val = some (pfx ((a.toNat &&& maskN (clN n) : Nat) : Int) (clN n)) := by
  simp only [rofT, val_test, val_need, val_reck, val_leaf, fitsU_in, h, Bool.true_and, Int.toNat_natCast, pfx]
  simp only [← fitsU_in, fitsU_mask, if_true, decide_eq_true_eq]
  by_cases h1 : n < 0
  · rw [if_pos h1, show clN n = 0 by simp [clN, h1]]; rfl
  · rw [if_neg h1]
    by_cases h2 : n > 32
    · rw [if_pos h2, show clN n = 32 by simp [clN, h1, h2]]; rfl
    · rw [if_neg h2, show clN n = n by simp [clN, h1, h2]]
theorem rightT_val (a n : Int) (h : inU a = true) : (rightT a n).val = some (.bool (rightB a n)) := by
  simp only [rightT, val_test, val_need, val_reck, val_leaf, fitsU_in, h, Bool.true_and, Int.toNat_natCast, rightB]
  simp only [← fitsU_in, fitsU_mask, if_true, decide_eq_true_eq]
  by_cases h1 : n ≥ 0 <;> by_cases h2 : n ≤ 32 <;> simp [h1, h2]
theorem rrightT_val (a n : Int) (h : inU a = true) : (rrightT a n).val = some (.bool (rightB a n)) := by
  simp only [rrightT, val_test, val_need, val_reck, val_leaf, fitsU_in, h, Bool.true_and, Int.toNat_natCast, rightB]
  simp only [← fitsU_in, fitsU_mask, if_true, decide_eq_true_eq]
  by_cases h1 : n ≥ 0 <;> by_cases h2 : n ≤ 32 <;> simp [h1, h2]
theorem ofG_args {args : List Value} {p : Option Bool} {v : Value} (h : ofG args = some (p, v)) : ∃ a n, args = [.int .u32 a, .int .i64 n] ∧ p = some (inU a) ∧ v = pfx ((a.toNat &&& maskN (clN n) : Nat) : Int) (clN n) := by
  unfold ofG at h
  split at h
  · rename_i a n
    simp only [Option.some.injEq, Prod.mk.injEq] at h
    exact ⟨a, n, rfl, h.1.symm, h.2.symm⟩
  · cases h
theorem on1_args {f : Int → Int → Value} {args : List Value} {p : Option Bool} {v : Value} (h : on1 f args = some (p, v)) : ∃ a n, args = [pfx a n] ∧ p = some (inU a) ∧ v = f a n := by
  unfold on1 at h
  split at h
  · rename_i a n
    simp only [Option.some.injEq, Prod.mk.injEq] at h
    exact ⟨a, n, rfl, h.1.symm, h.2.symm⟩
  · cases h
theorem on2_args {f : Int → Int → Int → Int → Value} {args : List Value} {p : Option Bool} {v : Value} (h : on2 f args = some (p, v)) : ∃ a n b m, args = [pfx a n, pfx b m] ∧ p = some (inU a && inU b) ∧ v = f a n b m := by
  unfold on2 at h
  split at h
  · rename_i a n b m
    simp only [Option.some.injEq, Prod.mk.injEq] at h
    exact ⟨a, n, b, m, rfl, h.1.symm, h.2.symm⟩
  · cases h
theorem hasG_args {args : List Value} {p : Option Bool} {v : Value} (h : hasG args = some (p, v)) : ∃ a n x, args = [pfx a n, .int .u32 x] ∧ p = some (inU a && inU x) ∧ v = .bool (hasB a n x) := by
  unfold hasG at h
  split at h
  · rename_i a n x
    simp only [Option.some.injEq, Prod.mk.injEq] at h
    exact ⟨a, n, x, rfl, h.1.symm, h.2.symm⟩
  · cases h
theorem of_sum : PureSum Tryd.prog 13 ofG := .of_tree E0_sound good Tryd.func13 (by kernel_rfl) rfl fun args p v h hp ha => by
  obtain ⟨a, n, rfl, rfl, rfl⟩ := ofG_args h
  exact ⟨rfl, _, ofT_fits a n, ofT_val a n hp⟩
theorem rof_sum : PureSum Tryd.prog 14 ofG := .of_tree E0_sound good Tryd.func14 (by kernel_rfl) rfl fun args p v h hp ha => by
  obtain ⟨a, n, rfl, rfl, rfl⟩ := ofG_args h
  exact ⟨rfl, _, rofT_fits a n, rofT_val a n hp⟩
theorem right_sum : PureSum Tryd.prog 28 rightG := .of_tree E0_sound good Tryd.func28 (by kernel_rfl) rfl fun args p v h hp ha => by
  obtain ⟨a, n, rfl, rfl, rfl⟩ := on1_args h
  exact ⟨rfl, _, rightT_fits a n, rightT_val a n hp⟩
theorem rright_sum : PureSum Tryd.prog 31 rightG := .of_tree E0_sound good Tryd.func31 (by kernel_rfl) rfl fun args p v h hp ha => by
  obtain ⟨a, n, rfl, rfl, rfl⟩ := on1_args h
  exact ⟨rfl, _, rrightT_fits a n, rrightT_val a n hp⟩
def E1 : Env := pureEnv [(11, maskG), (12, maskG), (13, ofG), (14, ofG), (28, rightG), (31, rightG)]
theorem E1_sound : E1.Sound Tryd.prog := pureEnv_sound ⟨mask_sum, rmask_sum, of_sum, rof_sum, right_sum, rright_sum, trivial⟩
def lessT (a : Int) (n : Int) (b : Int) (m : Int) : Go.Ev.PT :=
  Go.Ev.PT.need (Go.Proofs.YtdgdojlhncbggaaDoor.inU a) Bool.true
  (Go.Ev.PT.test (!Go.Proofs.YtdgdojlhncbggaaDoor.rightB a n)
    (Go.Ev.PT.need (!Go.Proofs.YtdgdojlhncbggaaDoor.rightB a n) Bool.true
      (Go.Ev.PT.need (!Go.Proofs.YtdgdojlhncbggaaDoor.rightB a n) Bool.true
        (Go.Ev.PT.need (!Go.Proofs.YtdgdojlhncbggaaDoor.rightB a n) Bool.true
          (Go.Ev.PT.reck 0 (Go.Ev.PT.leaf (Go.Value.bool Bool.false))))))
    (Go.Ev.PT.need (!Go.Proofs.YtdgdojlhncbggaaDoor.rightB a n) Bool.false
      (Go.Ev.PT.need (Go.Proofs.YtdgdojlhncbggaaDoor.inU b) Bool.true
        (Go.Ev.PT.need (!Go.Proofs.YtdgdojlhncbggaaDoor.rightB a n) Bool.false
          (Go.Ev.PT.need (!Go.Proofs.YtdgdojlhncbggaaDoor.rightB a n) Bool.false
            (Go.Ev.PT.test (!Go.Proofs.YtdgdojlhncbggaaDoor.rightB b m) (Go.Ev.PT.leaf (Go.Value.bool Bool.false))
              (Go.Ev.PT.test (!Decidable.decide (a = b)) (Go.Ev.PT.leaf (Go.Value.bool (Decidable.decide (a < b))))
                (Go.Ev.PT.leaf (Go.Value.bool (Decidable.decide (n < m)))))))))))
def rlessT (a : Int) (n : Int) (b : Int) (m : Int) : Go.Ev.PT :=
  Go.Ev.PT.need (Go.Proofs.YtdgdojlhncbggaaDoor.inU a) Bool.true
  (Go.Ev.PT.test (!Go.Proofs.YtdgdojlhncbggaaDoor.rightB a n)
    (Go.Ev.PT.need (!Go.Proofs.YtdgdojlhncbggaaDoor.rightB a n) Bool.true
      (Go.Ev.PT.need (!Go.Proofs.YtdgdojlhncbggaaDoor.rightB a n) Bool.true
        (Go.Ev.PT.need (!Go.Proofs.YtdgdojlhncbggaaDoor.rightB a n) Bool.true
          (Go.Ev.PT.reck 0 (Go.Ev.PT.leaf (Go.Value.bool Bool.false))))))
    (Go.Ev.PT.need (!Go.Proofs.YtdgdojlhncbggaaDoor.rightB a n) Bool.false
      (Go.Ev.PT.need (Go.Proofs.YtdgdojlhncbggaaDoor.inU b) Bool.true
        (Go.Ev.PT.need (!Go.Proofs.YtdgdojlhncbggaaDoor.rightB a n) Bool.false
          (Go.Ev.PT.need (!Go.Proofs.YtdgdojlhncbggaaDoor.rightB a n) Bool.false
            (Go.Ev.PT.test (!Go.Proofs.YtdgdojlhncbggaaDoor.rightB b m) (Go.Ev.PT.leaf (Go.Value.bool Bool.false))
              (Go.Ev.PT.test (Decidable.decide (a < b))
                (Go.Ev.PT.need (Decidable.decide (a < b)) Bool.true
                  (Go.Ev.PT.need (Decidable.decide (a < b)) Bool.true
                    (Go.Ev.PT.need (Decidable.decide (a < b)) Bool.true
                      (Go.Ev.PT.need (Decidable.decide (a < b)) Bool.true
                        (Go.Ev.PT.need (Decidable.decide (a < b)) Bool.true
                          (Go.Ev.PT.need (Decidable.decide (a < b)) Bool.true
                            (Go.Ev.PT.need (Decidable.decide (a < b)) Bool.true
                              (Go.Ev.PT.leaf (Go.Value.bool Bool.true)))))))))
                (Go.Ev.PT.need (Decidable.decide (a < b)) Bool.false
                  (Go.Ev.PT.need (Decidable.decide (a < b)) Bool.false
                    (Go.Ev.PT.need (Decidable.decide (a < b)) Bool.false
                      (Go.Ev.PT.need (Decidable.decide (a < b)) Bool.false
                        (Go.Ev.PT.need (Decidable.decide (a < b)) Bool.false
                          (Go.Ev.PT.test (Decidable.decide (a = b))
                            (Go.Ev.PT.need (Decidable.decide (a = b)) Bool.true
                              (Go.Ev.PT.need (Decidable.decide (a = b)) Bool.true
                                (Go.Ev.PT.need (Decidable.decide (a = b)) Bool.true
                                  (Go.Ev.PT.need (Decidable.decide (a = b)) Bool.true
                                    (Go.Ev.PT.need (Decidable.decide (a < b)) Bool.false
                                      (Go.Ev.PT.need (Decidable.decide (a = b)) Bool.true
                                        (Go.Ev.PT.need (Decidable.decide (a < b)) Bool.false
                                          (Go.Ev.PT.leaf (Go.Value.bool (Decidable.decide (n < m)))))))))))
                            (Go.Ev.PT.need (Decidable.decide (a = b)) Bool.false
                              (Go.Ev.PT.need (Decidable.decide (a = b)) Bool.false
                                (Go.Ev.PT.need (Decidable.decide (a = b)) Bool.false
                                  (Go.Ev.PT.need (Decidable.decide (a = b)) Bool.false
                                    (Go.Ev.PT.need (Decidable.decide (a < b)) Bool.false
                                      (Go.Ev.PT.need (Decidable.decide (a = b)) Bool.false
                                        (Go.Ev.PT.need (Decidable.decide (a < b)) Bool.false
                                          (Go.Ev.PT.leaf (Go.Value.bool Bool.false))))))))))))))))))))))
def hasT (a : Int) (n : Int) (x : Int) : Go.Ev.PT :=
  Go.Ev.PT.need (Go.Proofs.YtdgdojlhncbggaaDoor.inU a) Bool.true
  (Go.Ev.PT.test (Go.Proofs.YtdgdojlhncbggaaDoor.rightB a n)
    (Go.Ev.PT.need (Go.Proofs.YtdgdojlhncbggaaDoor.rightB a n) Bool.true
      (Go.Ev.PT.need (Go.Proofs.YtdgdojlhncbggaaDoor.rightB a n) Bool.true
        (Go.Ev.PT.need (Go.Proofs.YtdgdojlhncbggaaDoor.rightB a n) Bool.true
          (Go.Ev.PT.need (Go.Proofs.YtdgdojlhncbggaaDoor.rightB a n) Bool.true
            (Go.Ev.PT.need (Go.Proofs.YtdgdojlhncbggaaDoor.rightB a n) Bool.true
              (Go.Ev.PT.need (Go.Proofs.YtdgdojlhncbggaaDoor.rightB a n) Bool.true
                (Go.Ev.PT.need
                  (Go.Ev.fitsU Go.IntKind.u32 x &&
                    Go.Ev.fitsU Go.IntKind.u32 (↑(Go.Proofs.YtdgdojlhncbggaaDoor.maskN n) : Int))
                  Bool.true
                  (Go.Ev.PT.need (Go.Proofs.YtdgdojlhncbggaaDoor.rightB a n) Bool.true
                    (Go.Ev.PT.need (Go.Proofs.YtdgdojlhncbggaaDoor.rightB a n) Bool.true
                      (Go.Ev.PT.leaf
                        (Go.Value.bool
                          (Decidable.decide
                            ((↑(x.toNat &&& (↑(Go.Proofs.YtdgdojlhncbggaaDoor.maskN n) : Int).toNat) : Int) =
                              a)))))))))))))
    (Go.Ev.PT.need (Go.Proofs.YtdgdojlhncbggaaDoor.rightB a n) Bool.false
      (Go.Ev.PT.need (Go.Proofs.YtdgdojlhncbggaaDoor.rightB a n) Bool.false
        (Go.Ev.PT.need (Go.Proofs.YtdgdojlhncbggaaDoor.rightB a n) Bool.false
          (Go.Ev.PT.need (Go.Proofs.YtdgdojlhncbggaaDoor.rightB a n) Bool.false
            (Go.Ev.PT.need (Go.Proofs.YtdgdojlhncbggaaDoor.rightB a n) Bool.false
              (Go.Ev.PT.need (Go.Proofs.YtdgdojlhncbggaaDoor.rightB a n) Bool.false
                (Go.Ev.PT.need (Go.Proofs.YtdgdojlhncbggaaDoor.rightB a n) Bool.false
                  (Go.Ev.PT.need (Go.Proofs.YtdgdojlhncbggaaDoor.rightB a n) Bool.false
                    (Go.Ev.PT.leaf (Go.Value.bool Bool.false)))))))))))
def rhasT (a : Int) (n : Int) (x : Int) : Go.Ev.PT :=
  Go.Ev.PT.need (Go.Proofs.YtdgdojlhncbggaaDoor.inU a) Bool.true
  (Go.Ev.PT.test (Go.Proofs.YtdgdojlhncbggaaDoor.rightB a n)
    (Go.Ev.PT.need (Go.Proofs.YtdgdojlhncbggaaDoor.rightB a n) Bool.true
      (Go.Ev.PT.need (Go.Proofs.YtdgdojlhncbggaaDoor.rightB a n) Bool.true
        (Go.Ev.PT.need (Go.Proofs.YtdgdojlhncbggaaDoor.rightB a n) Bool.true
          (Go.Ev.PT.need (Go.Proofs.YtdgdojlhncbggaaDoor.rightB a n) Bool.true
            (Go.Ev.PT.need (Go.Proofs.YtdgdojlhncbggaaDoor.rightB a n) Bool.true
              (Go.Ev.PT.need (Go.Proofs.YtdgdojlhncbggaaDoor.rightB a n) Bool.true
                (Go.Ev.PT.need
                  (Go.Ev.fitsU Go.IntKind.u32 x &&
                    Go.Ev.fitsU Go.IntKind.u32 (↑(Go.Proofs.YtdgdojlhncbggaaDoor.maskN n) : Int))
                  Bool.true
                  (Go.Ev.PT.need (Go.Proofs.YtdgdojlhncbggaaDoor.rightB a n) Bool.true
                    (Go.Ev.PT.need (Go.Proofs.YtdgdojlhncbggaaDoor.rightB a n) Bool.true
                      (Go.Ev.PT.leaf
                        (Go.Value.bool
                          (Decidable.decide
                            ((↑(x.toNat &&& (↑(Go.Proofs.YtdgdojlhncbggaaDoor.maskN n) : Int).toNat) : Int) =
                              a)))))))))))))
    (Go.Ev.PT.need (Go.Proofs.YtdgdojlhncbggaaDoor.rightB a n) Bool.false
      (Go.Ev.PT.need (Go.Proofs.YtdgdojlhncbggaaDoor.rightB a n) Bool.false
        (Go.Ev.PT.need (Go.Proofs.YtdgdojlhncbggaaDoor.rightB a n) Bool.false
          (Go.Ev.PT.need (Go.Proofs.YtdgdojlhncbggaaDoor.rightB a n) Bool.false
            (Go.Ev.PT.need (Go.Proofs.YtdgdojlhncbggaaDoor.rightB a n) Bool.false
              (Go.Ev.PT.need (Go.Proofs.YtdgdojlhncbggaaDoor.rightB a n) Bool.false
                (Go.Ev.PT.need (Go.Proofs.YtdgdojlhncbggaaDoor.rightB a n) Bool.false
                  (Go.Ev.PT.need (Go.Proofs.YtdgdojlhncbggaaDoor.rightB a n) Bool.false
                    (Go.Ev.PT.leaf (Go.Value.bool Bool.false)))))))))))
set_option maxRecDepth 100000 in
theorem lessT_fits (a n b m : Int) : (lessT a n b m).Fits fun π => evRun Tryd.prog E1 60 22 [pfx a n, pfx b m] Tryd.prog.globals.size (some π) := by unfold PT.Fits; kernel_rfl
set_option maxRecDepth 100000 in
theorem rlessT_fits (a n b m : Int) : (rlessT a n b m).Fits fun π => evRun Tryd.prog E1 60 32 [pfx a n, pfx b m] Tryd.prog.globals.size (some π) := by unfold PT.Fits; kernel_rfl
set_option maxRecDepth 100000 in
theorem hasT_fits (a n x : Int) : (hasT a n x).Fits fun π => evRun Tryd.prog E1 60 23 [pfx a n, .int .u32 x] Tryd.prog.globals.size (some π) := by unfold PT.Fits; kernel_rfl
set_option maxRecDepth 100000 in
theorem rhasT_fits (a n x : Int) : (rhasT a n x).Fits fun π => evRun Tryd.prog E1 60 33 [pfx a n, .int .u32 x] Tryd.prog.globals.size (some π) := by unfold PT.Fits; kernel_rfl
theorem lessT_val (a n b m : Int) (h : asked (some (inU a && inU b))) : (lessT a n b m).val = some (.bool (lessB a n b m)) := by
  simp only [asked, Bool.and_eq_true] at h
  simp only [lessT, val_test, val_need, val_reck, val_leaf, h.1, h.2, lessB]
  cases hr : rightB a n <;> cases hs : rightB b m <;> by_cases h1 : a < b <;> by_cases h2 : a = b <;> simp [h1, h2] <;> omega
theorem rlessT_val (a n b m : Int) (h : asked (some (inU a && inU b))) : (rlessT a n b m).val = some (.bool (lessB a n b m)) := by
  simp only [asked, Bool.and_eq_true] at h
  simp only [rlessT, val_test, val_need, val_reck, val_leaf, h.1, h.2, lessB]
  cases hr : rightB a n <;> cases hs : rightB b m <;> by_cases h1 : a < b <;> by_cases h2 : a = b <;> simp [h1, h2] <;> omega
theorem hasT_val (a n x : Int) (h : asked (some (inU a && inU x))) : (hasT a n x).val = some (.bool (hasB a n x)) := by
  simp only [asked, Bool.and_eq_true] at h
  simp only [hasT, val_test, val_need, val_reck, val_leaf, h.1, h.2, fitsU_mask, fitsU_in, Bool.true_and, Int.toNat_natCast, hasB]
  simp only [← fitsU_in, fitsU_mask, if_true]
  cases hr : rightB a n <;> simp
theorem rhasT_val (a n x : Int) (h : asked (some (inU a && inU x))) : (rhasT a n x).val = some (.bool (hasB a n x)) := by
  simp only [asked, Bool.and_eq_true] at h
  simp only [rhasT, val_test, val_need, val_reck, val_leaf, h.1, h.2, fitsU_mask, fitsU_in, Bool.true_and, Int.toNat_natCast, hasB]
  simp only [← fitsU_in, fitsU_mask, if_true]
  cases hr : rightB a n <;> simp
theorem less_sum : PureSum Tryd.prog 22 lessG := .of_tree E1_sound good Tryd.func22 (by kernel_rfl) rfl fun args p v h hp ha => by
  obtain ⟨a, n, b, m, rfl, rfl, rfl⟩ := on2_args h
  exact ⟨rfl, _, lessT_fits a n b m, lessT_val a n b m hp⟩
theorem rless_sum : PureSum Tryd.prog 32 lessG := .of_tree E1_sound good Tryd.func32 (by kernel_rfl) rfl fun args p v h hp ha => by
  obtain ⟨a, n, b, m, rfl, rfl, rfl⟩ := on2_args h
  exact ⟨rfl, _, rlessT_fits a n b m, rlessT_val a n b m hp⟩
theorem has_sum : PureSum Tryd.prog 23 hasG := .of_tree E1_sound good Tryd.func23 (by kernel_rfl) rfl fun args p v h hp ha => by
  obtain ⟨a, n, x, rfl, rfl, rfl⟩ := hasG_args h
  exact ⟨rfl, _, hasT_fits a n x, hasT_val a n x hp⟩
theorem rhas_sum : PureSum Tryd.prog 33 hasG := .of_tree E1_sound good Tryd.func33 (by kernel_rfl) rfl fun args p v h hp ha => by
  obtain ⟨a, n, x, rfl, rfl, rfl⟩ := hasG_args h
  exact ⟨rfl, _, rhasT_fits a n x, rhasT_val a n x hp⟩
end Go.Proofs.YtdgdojlhncbggaaDoor
