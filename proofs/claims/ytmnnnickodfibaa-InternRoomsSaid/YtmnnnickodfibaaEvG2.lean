/- THE EVALUATOR: whole numbers. -/
import Derived.Test.YtmnnnickodfibaaEvG
namespace Go.Ev
open Go.RowKit
variable {P : Program} {B : Nat}

theorem wrapF_eq (k : IntKind) (n : Int) : wrapF k n = k.wrap n := by
  cases k <;> simp [wrapF, IntKind.wrap, IntKind.bits, IntKind.signed]
theorem bitsF_eq (k : IntKind) : bitsF k = k.bits := by cases k <;> rfl
/-- So many bits has a kind for what is no less than zero. -/
def topOf (k : IntKind) : Nat := if k.signed then k.bits - 1 else k.bits
theorem topOf_le (k : IntKind) : topOf k ≤ k.bits := by cases k <;> decide
theorem fitsU_spec {k : IntKind} {n : Int} (h : fitsU k n = true) : 0 ≤ n ∧ n < ((2 ^ topOf k : Nat) : Int) := by
  cases n with
  | negSucc m => simp [fitsU] at h
  | ofNat m => cases k <;> simp [fitsU, topOf, IntKind.signed, IntKind.bits] at h ⊢ <;> omega
theorem back_nat {k : IntKind} {n : Nat} (hs : n < 2 ^ topOf k) : k.wrap (n : Int) = (n : Int) := by
  rw [← wrapF_eq]
  cases k <;> simp [topOf, IntKind.signed, IntKind.bits] at hs <;> simp only [wrapF] <;> first | omega | (split <;> omega)
theorem ofInt_nat {k : IntKind} {n : Int} (h : 0 ≤ n) (h2 : n < ((2 ^ k.bits : Nat) : Int)) : (BitVec.ofInt k.bits n).toNat = n.toNat := by
  rw [BitVec.toNat_ofInt]
  rw [Int.emod_eq_of_lt h h2]

theorem evInt_spec {op : BinOp} {k k' : IntKind} {x y : Int} {ty : TypeId} {s s' : St} {v : Value} (h : evInt op k x k' y s = some (v, s')) (hh : s'.Holds) (xo yo : Operand) (w : World) :
    Same s s' ∧ flat v = true ∧ ((do eqGuard op ty xo yo (.int k x) (.int k' y); Go.binOp op ty (.int k x) (.int k' y)) : Sem Value).run P w = .ok v w := by
  have hg : (eqGuard op ty xo yo (.int k x) (.int k' y)).run P w = .ok () w := by cases op <;> rfl
  have fin : ∀ {u : Value} {s1 : St}, some (u, s1) = some (v, s') → Same s s1 → flat u = true → (Go.binOp op ty (.int k x) (.int k' y)).run P w = .ok u w →
      Same s s' ∧ flat v = true ∧ ((do eqGuard op ty xo yo (.int k x) (.int k' y); Go.binOp op ty (.int k x) (.int k' y)) : Sem Value).run P w = .ok v w := by
    intro u s1 he hs hf hr
    simp only [Option.some.injEq, Prod.mk.injEq] at he
    obtain ⟨rfl, rfl⟩ := he
    exact ⟨hs, hf, by rw [Sem.run_bind, hg, Result.andThen_ok]; exact hr⟩
  have bit : ∀ {s1 : St}, need s (fitsU k x && fitsU k y) = some s1 → s1.Holds → Same s s1 ∧ (x.toNat < 2 ^ topOf k ∧ y.toNat < 2 ^ topOf k) ∧ (BitVec.ofInt k.bits x).toNat = x.toNat ∧ (BitVec.ofInt k.bits y).toNat = y.toNat := by
    intro s1 hn h1
    obtain ⟨hs, hc⟩ := need_spec hn
    have hc := hc h1
    simp only [Bool.and_eq_true] at hc
    obtain ⟨a2, a3⟩ := fitsU_spec hc.1
    obtain ⟨b2, b3⟩ := fitsU_spec hc.2
    have hle : ((2 ^ topOf k : Nat) : Int) ≤ ((2 ^ k.bits : Nat) : Int) := by exact_mod_cast Nat.pow_le_pow_right (by decide) (topOf_le k)
    exact ⟨hs, ⟨by omega, by omega⟩, ofInt_nat a2 (by omega), ofInt_nat b2 (by omega)⟩
  have hp : ∀ n : Nat, ((2 ^ n : Nat) : Int) = (2 : Int) ^ n := fun n => by rw [Int.natCast_pow]; rfl
  have nd : ∀ {b : Bool} {u : Value}, ifNeed s b u = some (v, s') → ∃ s1, need s b = some s1 ∧ some (u, s1) = some (v, s') ∧ s1.Holds := by
    intro b u h
    unfold ifNeed at h
    split at h
    · rename_i s1 hn
      refine ⟨s1, hn, h, ?_⟩
      simp only [Option.some.injEq, Prod.mk.injEq] at h; obtain ⟨_, rfl⟩ := h; exact hh
    · cases h
  unfold evInt at h
  split at h
  · obtain ⟨s1, hn, h, hh1⟩ := nd h
    obtain ⟨hs, hc⟩ := need_spec hn
    have hy : 0 ≤ y := by simpa using hc hh1
    refine fin h hs rfl ?_
    have hny : ¬ y < 0 := by omega
    rw [wrapF_eq, bitsF_eq, hp]
    simp [Go.binOp, Op.shift, hny]
  · obtain ⟨s1, hn, h, hh1⟩ := nd h
    obtain ⟨hs, hc⟩ := need_spec hn
    have hy : 0 ≤ y := by simpa using hc hh1
    refine fin h hs rfl ?_
    have hny : ¬ y < 0 := by omega
    rw [bitsF_eq, hp]
    simp [Go.binOp, Op.shift, hny]
  · split at h
    case isFalse => cases h
    rename_i hk
    subst hk
    unfold evIntSame at h
    split at h
    · exact fin h (.refl _) rfl (by rw [wrapF_eq]; simp [Go.binOp, Op.intArith])
    · exact fin h (.refl _) rfl (by rw [wrapF_eq]; simp [Go.binOp, Op.intArith])
    · exact fin h (.refl _) rfl (by rw [wrapF_eq]; simp [Go.binOp, Op.intArith])
    · obtain ⟨s1, hn, h, hh1⟩ := nd h
      obtain ⟨hs, hc⟩ := need_spec hn
      have hy : y ≠ 0 := by simpa using hc hh1
      exact fin h hs rfl (by rw [wrapF_eq]; simp [Go.binOp, Op.intDiv, hy])
    · obtain ⟨s1, hn, h, hh1⟩ := nd h
      obtain ⟨hs, hc⟩ := need_spec hn
      have hy : y ≠ 0 := by simpa using hc hh1
      exact fin h hs rfl (by simp [Go.binOp, Op.intDiv, hy])
    · exact fin h (.refl _) rfl (by simp [Go.binOp, Op.intCmp]; rfl)
    · exact fin h (.refl _) rfl (by simp [Go.binOp, Op.intCmp]; rfl)
    · exact fin h (.refl _) rfl (by simp [Go.binOp, Op.intCmp])
    · exact fin h (.refl _) rfl (by simp [Go.binOp, Op.intCmp])
    · exact fin h (.refl _) rfl (by simp [Go.binOp, Op.intCmp])
    · exact fin h (.refl _) rfl (by simp [Go.binOp, Op.intCmp])
    · obtain ⟨s1, hn, h, hh1⟩ := nd h
      obtain ⟨hs, e1, e2, e3⟩ := bit hn hh1
      exact fin h hs rfl (by simp only [Go.binOp, Op.intBits, ne_eq, not_true, if_false, Sem.run_pure, BitVec.toNat_and, e2, e3, back_nat (Nat.and_lt_two_pow _ e1.2)])
    · obtain ⟨s1, hn, h, hh1⟩ := nd h
      obtain ⟨hs, e1, e2, e3⟩ := bit hn hh1
      exact fin h hs rfl (by simp only [Go.binOp, Op.intBits, ne_eq, not_true, if_false, Sem.run_pure, BitVec.toNat_or, e2, e3, back_nat (Nat.or_lt_two_pow e1.1 e1.2)])
    · obtain ⟨s1, hn, h, hh1⟩ := nd h
      obtain ⟨hs, e1, e2, e3⟩ := bit hn hh1
      exact fin h hs rfl (by simp only [Go.binOp, Op.intBits, ne_eq, not_true, if_false, Sem.run_pure, BitVec.toNat_xor, e2, e3, back_nat (Nat.xor_lt_two_pow e1.1 e1.2)])
    · obtain ⟨s1, hn, h, hh1⟩ := nd h
      obtain ⟨hs, e1, e2, e3⟩ := bit hn hh1
      refine fin h hs rfl ?_
      have hx : x.toNat ^^^ (x.toNat &&& y.toNat) = (BitVec.ofInt k.bits x &&& ~~~BitVec.ofInt k.bits y).toNat := by
        rw [← e2, ← e3, ← BitVec.toNat_and, ← BitVec.toNat_xor]
        congr 1
        ext i hi
        simp
        cases (BitVec.ofInt k.bits x)[i] <;> cases (BitVec.ofInt k.bits y)[i] <;> rfl
      have hb := back_nat (k := k) (Nat.xor_lt_two_pow e1.1 (Nat.and_lt_two_pow x.toNat e1.2))
      rw [hx] at hb
      rw [hx]
      simp only [Go.binOp, Op.intBits, ne_eq, not_true, if_false, Sem.run_pure, hb]
    · cases h
end Go.Ev
