/- P1.1: a mask has so many bits; a prefix has just the addresses from its first to its last. -/
import Derived.Test.YtdgdojlhncbggaaDoorSc
namespace Go.Proofs.YtdgdojlhncbggaaDoor
open Go Go.Ev Go.RowKit
set_option maxRecDepth 100000
namespace Parts
/-- So many times the same. -/
def needs : Nat → Bool → Bool → PT → PT
  | 0, _, _, t => t
  | k + 1, b, d, t => .need b d (needs k b d t)
theorem val_needs (k : Nat) (b d : Bool) (t : PT) : (needs (k + 1) b d t).val = if b = d then t.val else none := by
  induction k with
  | zero => simp only [needs, PT.val_need]
  | succ k ih =>
    rw [needs, PT.val_need, ih]
    by_cases h : b = d
    · rw [if_pos h]
    · rw [if_neg h, if_neg h]
def compZ (K : Nat) : Int := IntKind.u32.wrap (↑(BitVec.ofInt IntKind.u32.bits (if IntKind.u32.signed = true then -1 else IntKind.u32.max) ^^^ BitVec.ofInt IntKind.u32.bits (↑(maskN (K : Int)) : Int)).toNat : Int)
def lastZ (pa : Int) (K : Nat) : Int := (↑(pa.toNat ||| (compZ K).toNat) : Int)
def restZ (a : Int) (K : Nat) : Int := (↑(a.toNat ^^^ a.toNat &&& (↑(maskN (K : Int)) : Int).toNat) : Int)
def otherZ (a pa : Int) (K : Nat) : Int := (↑(pa.toNat ||| (restZ a K).toNat) : Int)
def partsT (a pa : Int) (K : Nat) : PT := (needs 1 (fitsU IntKind.u32 pa && fitsU IntKind.u32 (compZ K)) true (PT.reck (132 + K) (needs 1 (inU pa && inU pa) true (PT.reck 1 (needs 3 (!hasB pa (K : Int) pa) false (needs 1 (inU pa && inU (lastZ pa K)) true (needs 2 (!hasB pa (K : Int) pa) false (needs 6 (!hasB pa (K : Int) (lastZ pa K)) false (needs 1 (fitsU IntKind.u32 a && fitsU IntKind.u32 (↑(maskN (K : Int)) : Int)) true (needs 1 (!hasB pa (K : Int) (lastZ pa K)) false (needs 1 (fitsU IntKind.u32 pa && fitsU IntKind.u32 (restZ a K)) true (needs 1 (!hasB pa (K : Int) (lastZ pa K)) false (needs 1 (inU pa && inU (otherZ a pa K)) true (needs 2 (!hasB pa (K : Int) (lastZ pa K)) false (needs 1 (!hasB pa (K : Int) (otherZ a pa K)) false (PT.test (decide (pa = 0)) (needs 6 (decide (pa = 0)) true (PT.reck 2 (needs 4 (decide ((lastZ pa K) = 4294967295)) false (needs 1 (inU pa && inU (wrapF IntKind.u32 ((lastZ pa K) + 1))) true (needs 1 (decide ((lastZ pa K) = 4294967295)) false (PT.reck 0 (needs 1 (decide ((lastZ pa K) = 4294967295)) false (PT.reck 0 (needs 2 (!hasB pa (K : Int) (wrapF IntKind.u32 ((lastZ pa K) + 1))) true (PT.leaf (Value.bool true))))))))))) (needs 4 (decide (pa = 0)) false (needs 1 (inU pa && inU (wrapF IntKind.u32 (pa - 1))) true (needs 2 (decide (pa = 0)) false (needs 3 (!hasB pa (K : Int) (wrapF IntKind.u32 (pa - 1))) true (PT.test (decide ((lastZ pa K) = 4294967295)) (needs 4 (decide ((lastZ pa K) = 4294967295)) true (needs 1 (!hasB pa (K : Int) (wrapF IntKind.u32 (pa - 1))) true (needs 1 (decide ((lastZ pa K) = 4294967295)) true (needs 1 (!hasB pa (K : Int) (wrapF IntKind.u32 (pa - 1))) true (PT.reck 1 (PT.leaf (Value.bool true))))))) (needs 3 (decide ((lastZ pa K) = 4294967295)) false (needs 1 (inU pa && inU (wrapF IntKind.u32 ((lastZ pa K) + 1))) true (needs 1 (decide ((lastZ pa K) = 4294967295)) false (needs 1 (!hasB pa (K : Int) (wrapF IntKind.u32 (pa - 1))) true (needs 1 (decide ((lastZ pa K) = 4294967295)) false (needs 1 (!hasB pa (K : Int) (wrapF IntKind.u32 (pa - 1))) true (needs 2 (!hasB pa (K : Int) (wrapF IntKind.u32 ((lastZ pa K) + 1))) true (PT.leaf (Value.bool true))))))))))))))))))))))))))))))
def partsPre (pa : Int) (K : Nat) : List Ans := [.bit true, .as (pfx pa K), .reck 0, .as (.int .u32 (maskN K))]
def partsC (a n pa : Int) (K : Nat) : List Prop := [Value.int .u32 (maskN (K : Int)) = Value.int .u32 (maskN K), anyV2 a n = pfx pa K, inU a = true]
abbrev pArgs (a n : Int) : Array Value := #[.int .u32 a, .int .i64 n]
def Row (a n pa : Int) (K : Nat) : Prop := (partsT a pa K).FitsFrom (fun π => evRun Tryd.prog E3 200 10 (pArgs a n).toList Tryd.prog.globals.size (some (partsPre pa K ++ π))) (partsC a n pa K)
theorem row1 (a n pa : Int) : Row a n pa 1 := by unfold Row PT.FitsFrom; kernel_rfl
theorem row2 (a n pa : Int) : Row a n pa 2 := by unfold Row PT.FitsFrom; kernel_rfl
theorem row3 (a n pa : Int) : Row a n pa 3 := by unfold Row PT.FitsFrom; kernel_rfl
theorem row4 (a n pa : Int) : Row a n pa 4 := by unfold Row PT.FitsFrom; kernel_rfl
theorem row5 (a n pa : Int) : Row a n pa 5 := by unfold Row PT.FitsFrom; kernel_rfl
theorem row6 (a n pa : Int) : Row a n pa 6 := by unfold Row PT.FitsFrom; kernel_rfl
theorem row7 (a n pa : Int) : Row a n pa 7 := by unfold Row PT.FitsFrom; kernel_rfl
theorem row8 (a n pa : Int) : Row a n pa 8 := by unfold Row PT.FitsFrom; kernel_rfl
theorem row9 (a n pa : Int) : Row a n pa 9 := by unfold Row PT.FitsFrom; kernel_rfl
theorem row10 (a n pa : Int) : Row a n pa 10 := by unfold Row PT.FitsFrom; kernel_rfl
theorem row11 (a n pa : Int) : Row a n pa 11 := by unfold Row PT.FitsFrom; kernel_rfl
theorem row12 (a n pa : Int) : Row a n pa 12 := by unfold Row PT.FitsFrom; kernel_rfl
theorem row13 (a n pa : Int) : Row a n pa 13 := by unfold Row PT.FitsFrom; kernel_rfl
theorem row14 (a n pa : Int) : Row a n pa 14 := by unfold Row PT.FitsFrom; kernel_rfl
theorem row15 (a n pa : Int) : Row a n pa 15 := by unfold Row PT.FitsFrom; kernel_rfl
theorem row16 (a n pa : Int) : Row a n pa 16 := by unfold Row PT.FitsFrom; kernel_rfl
theorem row17 (a n pa : Int) : Row a n pa 17 := by unfold Row PT.FitsFrom; kernel_rfl
theorem row18 (a n pa : Int) : Row a n pa 18 := by unfold Row PT.FitsFrom; kernel_rfl
theorem row19 (a n pa : Int) : Row a n pa 19 := by unfold Row PT.FitsFrom; kernel_rfl
theorem row20 (a n pa : Int) : Row a n pa 20 := by unfold Row PT.FitsFrom; kernel_rfl
theorem row21 (a n pa : Int) : Row a n pa 21 := by unfold Row PT.FitsFrom; kernel_rfl
theorem row22 (a n pa : Int) : Row a n pa 22 := by unfold Row PT.FitsFrom; kernel_rfl
theorem row23 (a n pa : Int) : Row a n pa 23 := by unfold Row PT.FitsFrom; kernel_rfl
theorem row24 (a n pa : Int) : Row a n pa 24 := by unfold Row PT.FitsFrom; kernel_rfl
theorem row25 (a n pa : Int) : Row a n pa 25 := by unfold Row PT.FitsFrom; kernel_rfl
theorem row26 (a n pa : Int) : Row a n pa 26 := by unfold Row PT.FitsFrom; kernel_rfl
theorem row27 (a n pa : Int) : Row a n pa 27 := by unfold Row PT.FitsFrom; kernel_rfl
theorem row28 (a n pa : Int) : Row a n pa 28 := by unfold Row PT.FitsFrom; kernel_rfl
theorem row29 (a n pa : Int) : Row a n pa 29 := by unfold Row PT.FitsFrom; kernel_rfl
theorem row30 (a n pa : Int) : Row a n pa 30 := by unfold Row PT.FitsFrom; kernel_rfl
theorem row31 (a n pa : Int) : Row a n pa 31 := by unfold Row PT.FitsFrom; kernel_rfl
theorem row32 (a n pa : Int) : Row a n pa 32 := by unfold Row PT.FitsFrom; kernel_rfl
theorem rows (a n pa : Int) : ∀ K : Nat, 1 ≤ K → K ≤ 32 → Row a n pa K
  | 0, h, _ => absurd h (by decide)
  | 1, _, _ => row1 a n pa
  | 2, _, _ => row2 a n pa
  | 3, _, _ => row3 a n pa
  | 4, _, _ => row4 a n pa
  | 5, _, _ => row5 a n pa
  | 6, _, _ => row6 a n pa
  | 7, _, _ => row7 a n pa
  | 8, _, _ => row8 a n pa
  | 9, _, _ => row9 a n pa
  | 10, _, _ => row10 a n pa
  | 11, _, _ => row11 a n pa
  | 12, _, _ => row12 a n pa
  | 13, _, _ => row13 a n pa
  | 14, _, _ => row14 a n pa
  | 15, _, _ => row15 a n pa
  | 16, _, _ => row16 a n pa
  | 17, _, _ => row17 a n pa
  | 18, _, _ => row18 a n pa
  | 19, _, _ => row19 a n pa
  | 20, _, _ => row20 a n pa
  | 21, _, _ => row21 a n pa
  | 22, _, _ => row22 a n pa
  | 23, _, _ => row23 a n pa
  | 24, _, _ => row24 a n pa
  | 25, _, _ => row25 a n pa
  | 26, _, _ => row26 a n pa
  | 27, _, _ => row27 a n pa
  | 28, _, _ => row28 a n pa
  | 29, _, _ => row29 a n pa
  | 30, _, _ => row30 a n pa
  | 31, _, _ => row31 a n pa
  | 32, _, _ => row32 a n pa
  | K + 33, _, h => absurd h (by omega)

def zPath : List Ans := [.reck 148, .bit true, .reck 0, .bit true, .reck 0, .bit true, .reck 1, .bit false, .reck 19]
def zConds (a n : Int) : List Prop := [(!hasB 0 ((0 : Nat) : Int) (otherZ a 0 0)) = false, (inU 0 && inU (otherZ a 0 0)) = true, (fitsU .u32 0 && fitsU .u32 (restZ a 0)) = true, (fitsU .u32 a && fitsU .u32 ((maskN ((0 : Nat) : Int) : Nat) : Int)) = true,
  Value.int .u32 (maskN ((0 : Nat) : Int)) = Value.int .u32 (maskN ((0 : Nat) : Int)), anyV2 a n = pfx 0 ((0 : Nat) : Int), inU a = true]
theorem zRun (a n : Int) : evRun Tryd.prog E3 200 10 (pArgs a n).toList Tryd.prog.globals.size (some (partsPre 0 0 ++ zPath)) = some (.bool true, zConds a n) := by kernel_rfl

theorem comp_eq : ∀ K : Fin 33, compZ K.val = ((2 ^ (32 - K.val) - 1 : Nat) : Int) := by decide +kernel
theorem rest_nat (x K : Nat) (hx : x < 4294967296) (hK : K ≤ 32) : restZ (x : Int) K = ((x ^^^ fl x K : Nat) : Int) := by
  unfold restZ; rw [Int.toNat_natCast, Int.toNat_natCast, and_mask hx hK]
theorem rest_bit (x K i : Nat) : (x ^^^ fl x K).testBit i = (decide (i < 32 - K) && x.testBit i) := by
  rw [Nat.testBit_xor, fl_bit]
  by_cases h : 32 - K ≤ i
  · simp [h, show ¬ i < 32 - K by omega]
  · simp [h, show i < 32 - K by omega]
theorem low_bit (K i : Nat) : (2 ^ (32 - K) - 1).testBit i = decide (i < 32 - K) := Nat.testBit_two_pow_sub_one _ _
theorem fl_or {p x K : Nat} (hp : Pf p K) (hx : ∀ i, 32 - K ≤ i → x.testBit i = false) : fl (p ||| x) K = p := by
  apply Nat.eq_of_testBit_eq
  intro i
  rw [fl_bit, Nat.testBit_or]
  by_cases h : 32 - K ≤ i
  · simp [h, hx i h]
  · rw [← hp.2.2, fl_bit]; simp [h]
theorem last_or {p K : Nat} (hp : Pf p K) : p ||| (2 ^ (32 - K) - 1) = p + (2 ^ (32 - K) - 1) := by
  have hmul : p / 2 ^ (32 - K) * 2 ^ (32 - K) = p := hp.2.2
  have h2 : 2 ^ (32 - K) - 1 < 2 ^ (32 - K) := by have := Nat.two_pow_pos (32 - K); omega
  have := Nat.shiftLeft_add_eq_or_of_lt h2 (p / 2 ^ (32 - K))
  rw [Nat.shiftLeft_eq, hmul] at this
  exact this.symm
theorem comp_nat {K : Nat} (h : K ≤ 32) : compZ K = ((2 ^ (32 - K) - 1 : Nat) : Int) := comp_eq ⟨K, by omega⟩
theorem last_nat {p K : Nat} (hp : Pf p K) : lastZ (p : Int) K = ((p + (2 ^ (32 - K) - 1) : Nat) : Int) := by
  unfold lastZ
  rw [comp_nat hp.2.1, Int.toNat_natCast, Int.toNat_natCast, last_or hp]
theorem wrapU {x : Int} (h1 : 0 ≤ x) (h2 : x < 4294967296) : wrapF .u32 x = x := by simp only [wrapF]; omega
theorem parts_val (a : Nat) {pa K : Nat} (ha : a < 4294967296) (hp : Pf pa K) (hK : 1 ≤ K) : (partsT (a : Int) (pa : Int) K).val = some (.bool true) := by
  have hK2 := hp.2.1
  have hd := Nat.two_pow_pos (32 - K)
  have hd2 : 2 ^ (32 - K) ≤ 2147483648 := by
    have := Nat.pow_le_pow_right (show 0 < 2 by decide) (show 32 - K ≤ 31 by omega)
    simpa using this
  have hmul : pa / 2 ^ (32 - K) * 2 ^ (32 - K) = pa := hp.2.2
  have hlt : pa + (2 ^ (32 - K) - 1) < 4294967296 := by
    have e : 2 ^ K * 2 ^ (32 - K) = 4294967296 := by rw [← Nat.pow_add, show K + (32 - K) = 32 by omega]
    have h1 : pa / 2 ^ (32 - K) < 2 ^ K := by
      rw [Nat.div_lt_iff_lt_mul hd, e]; exact hp.1
    have h2 : (pa / 2 ^ (32 - K) + 1) * 2 ^ (32 - K) ≤ 2 ^ K * 2 ^ (32 - K) := Nat.mul_le_mul_right _ h1
    have h3 : (pa / 2 ^ (32 - K) + 1) * 2 ^ (32 - K) = pa + 2 ^ (32 - K) := by rw [Nat.add_mul, hmul, Nat.one_mul]
    rw [e, h3] at h2
    omega
  have hL := last_nat hp
  have hLN := last_or hp
  have up := pf_in hp
  have ua : inU (a : Int) = true := inU_nat.2 ha
  have uL : inU (lastZ (pa : Int) K) = true := by rw [hL]; exact inU_nat.2 hlt
  have hpp : hasB (pa : Int) (K : Int) (pa : Int) = true := (has_iff hp hp.1).2 hp.2.2
  have hpL : hasB (pa : Int) (K : Int) (lastZ (pa : Int) K) = true := by
    rw [hL, has_iff hp hlt, ← hLN]
    exact fl_or hp fun i hi => by rw [low_bit]; simp; omega
  have hR := rest_nat a K ha hK2
  have hxr : (a ^^^ fl a K) < 4294967296 := by have := xor_le (a := a) (b := fl a K) (by omega) (by have := fl_le a K; omega); omega
  have hO : otherZ (a : Int) (pa : Int) K = ((pa ||| (a ^^^ fl a K) : Nat) : Int) := by unfold otherZ; rw [hR, Int.toNat_natCast, Int.toNat_natCast]
  have hOlt : pa ||| (a ^^^ fl a K) < 4294967296 := Nat.or_lt_two_pow (n := 32) hp.1 hxr
  have uO : inU (otherZ (a : Int) (pa : Int) K) = true := by rw [hO]; exact inU_nat.2 hOlt
  have hpO : hasB (pa : Int) (K : Int) (otherZ (a : Int) (pa : Int) K) = true := by
    rw [hO, has_iff hp hOlt]
    exact fl_or hp fun i hi => by rw [rest_bit]; simp; omega
  have f1 : fitsU .u32 (pa : Int) = true := by rw [fitsU_in]; exact up
  have f2 : fitsU .u32 (a : Int) = true := by rw [fitsU_in]; exact ua
  have f3 : fitsU .u32 (compZ K) = true := by rw [comp_nat hK2, fitsU_in]; exact inU_nat.2 (by omega)
  have f4 : fitsU .u32 (restZ (a : Int) K) = true := by rw [hR, fitsU_in]; exact inU_nat.2 hxr
  have down : ¬ (pa : Int) = 0 → inU (wrapF .u32 ((pa : Int) - 1)) = true ∧ hasB (pa : Int) (K : Int) (wrapF .u32 ((pa : Int) - 1)) = false := by
    intro h0
    have e : wrapF .u32 ((pa : Int) - 1) = ((pa - 1 : Nat) : Int) := by rw [wrapU (by omega) (by have := hp.1; omega)]; omega
    rw [e]
    refine ⟨inU_nat.2 (by have := hp.1; omega), ?_⟩
    rw [← Bool.not_eq_true, has_iff hp (by have := hp.1; omega)]
    have := fl_le (pa - 1) K
    omega
  have beyond : ¬ lastZ (pa : Int) K = 4294967295 → inU (wrapF .u32 (lastZ (pa : Int) K + 1)) = true ∧ hasB (pa : Int) (K : Int) (wrapF .u32 (lastZ (pa : Int) K + 1)) = false := by
    intro h0
    rw [hL] at h0 ⊢
    have e : wrapF .u32 (((pa + (2 ^ (32 - K) - 1) : Nat) : Int) + 1) = ((pa + 2 ^ (32 - K) : Nat) : Int) := by rw [wrapU (by omega) (by omega)]; omega
    have hlt2 : pa + 2 ^ (32 - K) < 4294967296 := by omega
    rw [e]
    refine ⟨inU_nat.2 hlt2, ?_⟩
    rw [← Bool.not_eq_true, has_iff hp hlt2]
    have : fl (pa + 2 ^ (32 - K)) K = pa + 2 ^ (32 - K) := by
      unfold fl
      rw [Nat.add_div_right _ hd, Nat.add_mul, hmul, Nat.one_mul]
    omega
  have zero : (pa : Int) = 0 → ¬ lastZ (pa : Int) K = 4294967295 := by intro h; rw [hL]; omega
  simp only [partsT, PT.val_test, val_needs, PT.val_reck, PT.val_leaf, up, ua, uL, uO, f1, f2, f3, f4, fitsU_mask, hpp, hpL, hpO]
  by_cases h0 : (pa : Int) = 0
  · obtain ⟨b1, b2⟩ := beyond (zero h0)
    simp only [h0, zero h0, b1, b2, decide_true, decide_false]
    have z2 := zero h0
    rw [h0] at z2 b1 b2
    simp only [z2, b1, b2, decide_false, Bool.not_false, Bool.not_true, Bool.and_self, if_true]
  · obtain ⟨d1, d2⟩ := down h0
    by_cases h1 : lastZ (pa : Int) K = 4294967295
    · have h2 : decide ((pa : Int) = 0) = false := decide_eq_false h0
      simp only [h1, h2, d1, d2, decide_true, Bool.and_self, Bool.not_false, Bool.not_true, if_true, if_false, Bool.false_eq_true]
    · obtain ⟨b1, b2⟩ := beyond h1
      have h2 : decide ((pa : Int) = 0) = false := decide_eq_false h0
      have h3 : decide (lastZ (pa : Int) K = 4294967295) = false := decide_eq_false h1
      simp only [h2, h3, d1, d2, b1, b2, Bool.and_self, Bool.not_false, Bool.not_true, if_true, if_false, Bool.false_eq_true]
theorem pf_zero0 : Pf 0 0 := ⟨by decide, by decide, fl_zero (by decide)⟩
theorem parts_walk (a n : Int) (wa : (Lit.int .u32 a).wf = true) (_ : (Lit.int .i64 n).wf = true) (W : World) :
    Calls Tryd.prog 10 (pArgs a n) W fun e W' => e = .returned (.bool true) ∧ Below W.heap.size W W' := by
  have ha := inU_wf wa
  obtain ⟨pa, K, e1, hp, _⟩ := any_pf a n ha
  have hau := inU_spec.1 ha
  obtain ⟨x, rfl⟩ : ∃ x : Nat, a = x := ⟨a.toNat, by omega⟩
  have hx : x < 4294967296 := by omega
  rcases Nat.eq_zero_or_pos K with rfl | hK
  · have hz : pa = 0 := by rw [← hp.2.2]; exact fl_zero hp.1
    subst hz
    have hR := rest_nat x 0 hx (by decide)
    have hxr : (x ^^^ fl x 0) < 4294967296 := by have := xor_le (a := x) (b := fl x 0) (by omega) (by have := fl_le x 0; omega); omega
    have hO : otherZ (x : Int) 0 0 = ((x ^^^ fl x 0 : Nat) : Int) := by unfold otherZ; rw [hR, Int.toNat_natCast]; simp
    exact calls_of_run E3_sound good Tryd.func10 rfl (zRun x n) (by
      simp only [zConds, List.forall_mem_cons]
      refine ⟨?_, ?_, ?_, ?_, trivial, e1, ha, by simp⟩
      · rw [hO]
        have := (has_iff pf_zero0 hxr).2 (fl_zero hxr)
        have h2 : hasB 0 ((0 : Nat) : Int) ((x ^^^ fl x 0 : Nat) : Int) = true := this
        rw [h2]; rfl
      · rw [hO, inU_nat.2 hxr]; rfl
      · rw [hR, fitsU_in ((x ^^^ fl x 0 : Nat) : Int), inU_nat.2 hxr]; rfl
      · rw [fitsU_mask, fitsU_in, ha]; rfl) rfl rfl W
  · exact PT.callsFrom E3_sound good Tryd.func10 rfl (rows x n pa K hK hp.2.1) (by simp only [partsC, List.forall_mem_cons]; exact ⟨trivial, e1, ha, by simp⟩) (parts_val x hx hp hK) rfl rfl W
end Parts
end Go.Proofs.YtdgdojlhncbggaaDoor
