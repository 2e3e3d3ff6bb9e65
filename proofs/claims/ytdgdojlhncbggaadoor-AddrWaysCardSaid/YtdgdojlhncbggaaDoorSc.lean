/- Chapter 1: the summaries with named parts; the closed runs. -/
import Derived.Test.YtdgdojlhncbggaaDoorSm
namespace Go.Proofs.YtdgdojlhncbggaaDoor
open Go Go.Ev Go.RowKit
set_option maxRecDepth 100000
def upB (a n : Int) : Bool := rightB a n && !decide (n = 0)
def upA (a n : Int) : Int := if upB a n then ((a.toNat &&& maskN (n - 1) : Nat) : Int) else 0
def upN (a n : Int) : Int := if upB a n then n - 1 else 0
def halfB (a n : Int) : Bool := rightB a n && !decide (n = 32)
def halfA2 (a n : Int) (h : Bool) : Int := if halfB a n then halfA a n h else 0
def halfN (a n : Int) : Int := if halfB a n then n + 1 else 0
def meetB (a n b m : Int) : Bool := rightB a n && rightB b m
def meetN (a n b m : Int) : Int := if meetB a n b m then ((meetK (a.toNat ^^^ b.toNat) (min n m).toNat : Nat) : Int) else 0
def meetA (a n b m : Int) : Int := if meetB a n b m then ((a.toNat &&& maskN (meetN a n b m) : Nat) : Int) else 0
def anyN (n : Int) : Int := n % 33
def anyA (a n : Int) : Int := ((a.toNat &&& maskN (anyN n) : Nat) : Int)
def upV2 (a n : Int) : Value := .tuple #[pfx (upA a n) (upN a n), .bool (upB a n)]
def upG2 : PFun := on1 upV2
def halfV2 (a n : Int) (h : Bool) : Value := .tuple #[pfx (halfA2 a n h) (halfN a n), .bool (halfB a n)]
def halfG2 : PFun
  | [.agg ⟨[.int .u32 a, .int .i64 n]⟩, .bool h] => some (some (inU a), halfV2 a n h)
  | _ => none
def anyV2 (a n : Int) : Value := pfx (anyA a n) (anyN n)
def anyG2 : PFun
  | [.int .u32 a, .int .i64 n] => some (some (inU a), anyV2 a n)
  | _ => none
def meetV2 (a n b m : Int) : Value := pfx (meetA a n b m) (meetN a n b m)
def meetG2 : PFun := on2 meetV2
def knownG : PFun
  | [] => some (none, .bool true)
  | _ => none
def E3 : Env := pureEnv [(11, maskG), (13, ofG), (28, rightG), (22, lessG), (23, hasG), (25, coversG), (21, upG2), (20, halfG2), (24, meetG2), (19, anyG2), (18, knownG)]

theorem up2_eq : upG2 = upG := by
  have : upV2 = upV := by
    funext a n
    unfold upV2 upV upA upN
    by_cases h : (rightB a n && !decide (n = 0)) = true
    · have hB : upB a n = true := h
      rw [if_pos h, if_pos hB, if_pos hB, hB]
    · have hB : ¬ upB a n = true := h
      rw [if_neg h, if_neg hB, if_neg hB, Bool.not_eq_true _ |>.mp hB]
  unfold upG2 upG; rw [this]
theorem half2_eq : halfG2 = halfG := by
  have : halfV2 = halfV := by
    funext a n hi
    unfold halfV2 halfV halfA2 halfN
    by_cases h : (rightB a n && !decide (n = 32)) = true
    · have hB : halfB a n = true := h
      rw [if_pos h, if_pos hB, if_pos hB, hB]
    · have hB : ¬ halfB a n = true := h
      rw [if_neg h, if_neg hB, if_neg hB, Bool.not_eq_true _ |>.mp hB]
  unfold halfG2; rw [this]; rfl
theorem any2_eq : anyG2 = anyG := by
  have : anyV2 = anyV := rfl
  unfold anyG2; rw [this]; rfl
theorem meet2_eq : meetG2 = meetG := by
  have : meetV2 = meetV := by
    funext a n b m
    unfold meetV2 meetV meetA meetN meetB
    split <;> simp_all
  unfold meetG2 meetG; rw [this]
theorem known_run : runTrue Tryd.prog (ixEnv 55) 100 18 #[] Tryd.prog.globals.size = true := by kernel_rfl
theorem ix_sound : (ixEnv 55).Sound Tryd.prog := ixEnv_sound Tryd.func55 (by kernel_rfl) rfl (by kernel_rfl) (by kernel_rfl)
theorem known_sum : PureSum Tryd.prog 18 knownG := .of_calls Tryd.func18 (by kernel_rfl) rfl fun args p v h hp ha => by
  unfold knownG at h
  split at h
  · simp only [Option.some.injEq, Prod.mk.injEq] at h
    obtain ⟨rfl, rfl⟩ := h
    exact ⟨rfl, fun W => calls_true ix_sound good Tryd.func18 rfl known_run rfl W⟩
  · cases h
theorem E3_sound : E3.Sound Tryd.prog := pureEnv_sound ⟨mask_sum, of_sum, right_sum, less_sum, has_sum, covers_sum, up2_eq ▸ up_sum, half2_eq ▸ half_sum, meet2_eq ▸ meet_sum, any2_eq ▸ any_sum, known_sum, trivial⟩
theorem any_pf (a n : Int) (h : inU a = true) : ∃ x k : Nat, anyV2 a n = pfx x k ∧ Pf x k ∧ (x : Int) = anyA a n ∧ (k : Int) = anyN n := by
  have b1 := Int.emod_nonneg n (show (33 : Int) ≠ 0 by decide)
  have b2 := Int.emod_lt_of_pos n (show (0 : Int) < 33 by decide)
  have hu := inU_spec.1 h
  have hk : anyN n = ((n % 33).toNat : Int) := by unfold anyN; omega
  have hx : anyA a n = ((fl a.toNat (n % 33).toNat : Nat) : Int) := by
    unfold anyA; rw [hk, and_mask (by omega) (by omega)]
  refine ⟨fl a.toNat (n % 33).toNat, (n % 33).toNat, ?_, ⟨Nat.lt_of_le_of_lt (fl_le _ _) (by omega), by omega, fl_fl (Nat.le_refl _)⟩, hx.symm, hk.symm⟩
  unfold anyV2; rw [hk, hx]
theorem inU_wf {a : Int} (h : (Lit.int .u32 a).wf = true) : inU a = true := by
  rw [inU_spec]; simp [Lit.wf, IntKind.min, IntKind.max, IntKind.signed, IntKind.bits] at h; omega
theorem pf_in {x k : Nat} (h : Pf x k) : inU (x : Int) = true := inU_nat.2 h.1
theorem meet_eq {a n b m : Nat} (h : Pf a n) (g : Pf b m) : meetN (a : Int) (n : Int) (b : Int) (m : Int) = (mk' a n b m : Int) ∧ meetA (a : Int) (n : Int) (b : Int) (m : Int) = (fl a (mk' a n b m) : Int) := by
  have hB : meetB (a : Int) (n : Int) (b : Int) (m : Int) = true := by unfold meetB; rw [(right_iff h.1).2 h, (right_iff g.1).2 g]; rfl
  have e1 : meetN (a : Int) (n : Int) (b : Int) (m : Int) = (mk' a n b m : Int) := by
    unfold meetN mk'; rw [if_pos hB, Int.toNat_natCast, Int.toNat_natCast, show (min (n : Int) (m : Int)).toNat = min n m by omega]
  have hp := meet_pf h g
  refine ⟨e1, ?_⟩
  unfold meetA
  rw [if_pos hB, e1, Int.toNat_natCast, and_mask h.1 hp.2.1]
theorem meet2_pf {a n b m : Nat} (h : Pf a n) (g : Pf b m) : meetV2 (a : Int) (n : Int) (b : Int) (m : Int) = pfx (fl a (mk' a n b m) : Nat) (mk' a n b m : Nat) := by
  obtain ⟨e1, e2⟩ := meet_eq h g
  unfold meetV2; rw [e1, e2]
abbrev oArgs (a b c n m k : Int) : Array Value := #[.int .u32 a, .int .u32 b, .int .u32 c, .int .i64 n, .int .i64 m, .int .i64 k]
abbrev rArgs (a b n m : Int) : Array Value := #[.int .u32 a, .int .u32 b, .int .i64 n, .int .i64 m]
def meetsPre (pa pn qa qn ra rn ua un xa xn va vn ya yn : Int) : List Ans := [.bit true, .as (pfx pa pn), .bit true, .as (pfx qa qn), .bit true, .as (pfx ra rn), .reck 2, .bit true, .as (pfx ua un), .bit true, .as (pfx xa xn), .reck 0, .bit true, .as (pfx va vn), .bit true, .as (pfx ya yn), .reck 0]
def orderPre (pa pn qa qn ra rn : Int) : List Ans := [.bit true, .as (pfx pa pn), .bit true, .as (pfx qa qn), .bit true, .as (pfx ra rn), .reck 2]
def rulesPre (pa pn qa qn la ln ha hn : Int) (ok is : Bool) : List Ans := [.bit true, .as (pfx pa pn), .bit true, .as (pfx qa qn), .reck 1, .bit true, .as (.tuple #[pfx la ln, .bool ok]), .reck 0, .bit true, .as (.tuple #[pfx ha hn, .bool is]), .reck 0]
end Go.Proofs.YtdgdojlhncbggaaDoor
