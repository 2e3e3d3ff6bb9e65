/- The faster run: operations that touch no object, or make one. -/
import Derived.Test.YtmnnnickodfibaaEvQ3
namespace Go.Ev
open Go.RowKit
variable {P : Program} {cs : CallFn} {cf : FCall}

theorem sNil_path : sNil.path = none := rfl
theorem heapless_unOp {o : Oper} {op : UnOp} {ty : TypeId} {x : Operand} (ho : o.op = .unOp op ty x) : Heapless P o := by
  intro cs t s v s0 hs h
  simp only [evOp, ho] at h ⊢
  exact evFlat_lift hs sNil_path h
theorem heapless_binOp {o : Oper} {op : BinOp} {ty ty' : TypeId} {x y : Operand} (ho : o.op = .binOp op ty x y ty') : Heapless P o := by
  intro cs t s v s0 hs h
  simp only [evOp, ho] at h ⊢
  exact evBin_lift hs sNil_path h
theorem heapless_index {o : Oper} {ty : TypeId} {x y : Operand} (ho : o.op = .index ty x y) : Heapless P o := by
  intro cs t s v s0 hs h
  simp only [evOp, ho, with2] at h ⊢
  split at h
  · exact evIndex_lift hs sNil_path h
  · cases h
theorem heapless_build {o : Oper} {ty : TypeId} {ps : Array (Nat × Operand)} (ho : o.op = .build ty ps) : Heapless P o := by
  intro cs t s v s0 hs h
  simp only [evOp, ho, withPs] at h ⊢
  split at h
  · exact evBuild_lift h
  · cases h
theorem heapless_makeFunc {o : Oper} {fn : Fn} {a c : Array Operand} (ho : o.op = .makeFunc fn a c) : Heapless P o := by
  intro cs t s v s0 hs h
  simp only [evOp, ho, evMakeFunc] at h ⊢
  split at h
  · split at h
    · simp only [Option.some.injEq, Prod.mk.injEq] at h
      obtain ⟨rfl, _⟩ := h
      rfl
    · cases h
  · cases h
theorem evLen_lift {ts : Array TypeId} {x : Value} {s s0 s1 : St} {v : Value} (h : evLen P ts x s0 = some (v, s1)) : evLen P ts x s = some (v, s) := by
  unfold evLen at h ⊢
  split at h
  · split at h
    · rw [force_eq] at h
      simp only [Option.some.injEq, Prod.mk.injEq] at h
      obtain ⟨rfl, _⟩ := h
      rw [force_eq]
    · rw [force_eq] at h
      simp only [Option.some.injEq, Prod.mk.injEq] at h
      obtain ⟨rfl, _⟩ := h
      rw [force_eq]
    · simp only [Option.some.injEq, Prod.mk.injEq] at h
      obtain ⟨rfl, _⟩ := h
      rfl
    · cases h
  · cases h
theorem heapless_len {o : Oper} {c : Call} {x : Operand} (ho : o.op = .call c) (hc : c.callee = .builtin .len) (ha : c.args.toList = [x]) : Heapless P o := by
  intro cs t s v s0 hs h
  simp only [evOp, ho, evCallAny, hc, isMinMax, evCallOp, ha] at h ⊢
  cases hx : opndsL P t [x] with
  | none => rw [hx] at h; cases h
  | some l =>
    rw [hx] at h
    match l, h with
    | [u], h => exact evLen_lift h
theorem heapless_minMax {o : Oper} {c : Call} (ho : o.op = .call c) (hc : isMinMax c.callee = true) : Heapless P o := by
  intro cs t s v s0 hs h
  simp only [evOp, ho, evCallAny, hc, if_true] at h ⊢
  exact evFlat_lift hs sNil_path h
theorem heapless_convert {o : Oper} {src dst : TypeId} {x : Operand} (ho : o.op = .convert src dst x) (hA : ∀ v s, evStrToBytes P src dst v s = none) (hB : ∀ v s, evBytesToStr P src dst v s = none) : Heapless P o := by
  intro cs t s v s0 hs h
  simp only [evOp, ho, evConv, hA, hB] at h ⊢
  cases hx : opnd P t x with
  | none => rw [hx] at h; cases h
  | some u =>
    rw [hx] at h
    have key : ∀ s : St, s.path = none → evConvInt P src dst u s = (evConvInt P src dst u sNil).map fun p => (p.1, s) := by
      intro s hs
      unfold evConvInt
      split
      · rw [named_closed hs, named_closed sNil_path]; rfl
      · rfl
    simp only at h ⊢
    rw [key s hs]
    cases he : evConvInt P src dst u sNil with
    | some p =>
      rw [he] at h
      simp only [Option.some.injEq] at h
      subst h; rfl
    | none =>
      rw [he] at h
      exact evFlat_lift hs sNil_path h
theorem conv_types {src dst : TypeId} (h1 : ¬ ((∃ e, P.underlying src = some (.slice e)) ∧ P.underlying dst = some .string)) (h2 : ¬ (P.underlying src = some .string ∧ ∃ e, P.underlying dst = some (.slice e))) :
    (∀ v s, evStrToBytes P src dst v s = none) ∧ (∀ v s, evBytesToStr P src dst v s = none) := by
  constructor
  · intro v s
    unfold evStrToBytes
    split
    · rename_i ha hb
      exact absurd ⟨ha, _, hb⟩ h2
    · rfl
  · intro v s
    unfold evBytesToStr
    split
    · rename_i ha hb
      exact absurd ⟨⟨_, ha⟩, hb⟩ h1
    · rename_i ha hb
      exact absurd ⟨⟨_, ha⟩, hb⟩ h1
    · rfl

/-! One object is made, or none. -/
def Fresh (P : Program) (o : Oper) : Prop := ∀ (cs : CallFn) (t : Tr) (s : St) (v : Value) (s0 : St), s.path = none → evOp P noCall o t sNil = some (v, s0) →
  (s0.heap.toList = [] ∧ evOp P cs o t s = some (v, s)) ∨ ∃ ob : AObj, s0.heap.toList = [ob] ∧ ob.st = 1 ∧ ob.prev = [] ∧ ob.sym = false ∧ ob.ver = 0 ∧
    ((∃ b off, v = .pointer (some ⟨b, off, none⟩) ∧ evOp P cs o t s = some (.pointer (some ⟨lenQ s.heap, off, none⟩), { s with heap := pushQ s.heap ob })) ∨
     (∃ b off len cap, v = .slice (some ⟨b, off, none⟩) len cap ∧ evOp P cs o t s = some (.slice (some ⟨lenQ s.heap, off, none⟩) len 0, { s with heap := pushQ s.heap ob })))
theorem freshR_spec {o : Oper} (ho : Fresh P o) {t : Tr} {h : HT} {n low : Nat} {k : FK} {r : FR} (hr : freshR P o t h n low k = r) (hb : r ≠ .bad) : Res P cs o t h n low k r := by
  unfold freshR at hr
  split at hr
  case h_2 => exact absurd hr.symm hb
  rename_i v s0 hs0
  rcases ho cs t (toS h n low) v s0 rfl hs0 with ⟨h1, h2⟩ | ⟨ob, h1, h2, h3, h4, h5, h6⟩
  · rw [h1] at hr
    exact ⟨v, h, n, low, h2, hr⟩
  rw [h1] at hr
  simp only at hr
  have hr := valsK_spec hr hb
  simp only [litK_eq] at hr
  have hob : ({ cells := ⟨ob.cells.toList⟩, esz := ob.esz, st := 1, prev := [] } : AObj) = ob := by
    obtain ⟨c, e, st, p, sy, ve⟩ := ob
    simp only at h2 h3 h4 h5
    subst h2; subst h3; subst h4; subst h5; rfl
  rcases h6 with ⟨b, off, rfl, h7⟩ | ⟨b, off, len, cap, rfl, h7⟩
  · simp only [htP_eq, hob] at hr
    refine ⟨_, _, _, _, ?_, hr⟩
    rw [h7, toS_len, toS_push]; rfl
  · simp only [htP_eq, hob] at hr
    refine ⟨_, _, _, _, ?_, hr⟩
    rw [h7, toS_len, toS_push]; rfl
theorem fresh_alloc {o : Oper} {ty : TypeId} (ho : o.op = .alloc ty) : Fresh P o := by
  intro cs t s v s0 hs h
  simp only [evOp, ho, evAlloc] at h ⊢
  split at h
  case h_2 => cases h
  split at h
  case h_2 => cases h
  split at h
  case isFalse => cases h
  rename_i hz
  simp only [Option.some.injEq, Prod.mk.injEq] at h
  obtain ⟨rfl, rfl⟩ := h
  simp only [hz, if_true]
  exact .inr ⟨_, rfl, rfl, rfl, rfl, rfl, .inl ⟨_, _, rfl, rfl⟩⟩
theorem fresh_box {o : Oper} {ty : TypeId} {x : Operand} (ho : o.op = .box ty x) : Fresh P o := by
  intro cs t s v s0 hs h
  simp only [evOp, ho, evBox] at h ⊢
  split at h
  case h_2 => cases h
  split at h
  case isFalse => cases h
  rename_i hz
  simp only [Option.some.injEq, Prod.mk.injEq] at h
  obtain ⟨rfl, rfl⟩ := h
  simp only [hz, if_true]
  exact .inr ⟨_, rfl, rfl, rfl, rfl, rfl, .inl ⟨_, _, rfl, rfl⟩⟩
theorem fresh_buildSlice {o : Oper} {ty : TypeId} {len : Nat} {ps : Array (Nat × Operand)} (ho : o.op = .buildSlice ty len ps) : Fresh P o := by
  intro cs t s v s0 hs h
  simp only [evOp, ho, withPs] at h ⊢
  split at h
  case h_2 => cases h
  rename_i vs hvs
  unfold evBuildSlice at h ⊢
  split at h
  case h_2 => cases h
  split at h
  case h_2 => cases h
  split at h
  case h_2 => cases h
  split at h
  case isFalse => cases h
  rename_i hc
  rw [if_pos hc]
  split at h
  case h_2 => cases h
  split at h
  case isFalse => cases h
  rename_i hz
  simp only [Option.some.injEq, Prod.mk.injEq] at h
  obtain ⟨rfl, rfl⟩ := h
  simp only [hz, if_true]
  exact .inr ⟨_, rfl, rfl, rfl, rfl, rfl, .inr ⟨_, _, _, _, rfl, rfl⟩⟩
theorem fresh_makeSlice {o : Oper} {ty : TypeId} {l c : Operand} (ho : o.op = .makeSlice ty l c) : Fresh P o := by
  intro cs t s v s0 hs h
  obtain ⟨hp, lw, pa, co⟩ := s
  simp only at hs
  subst hs
  have hs : (⟨hp, lw, none, co⟩ : St).path = none := rfl
  simp only [evOp, ho, with2] at h ⊢
  split at h
  case h_2 => cases h
  unfold evMakeSlice at h ⊢
  split at h
  case h_2 => cases h
  split at h
  case h_2 => cases h
  split at h
  case h_2 => cases h
  split at h
  case isFalse => cases h
  rename_i hc
  rw [if_pos hc]
  split at h
  case h_2 => cases h
  rename_i s1 hn
  obtain ⟨k1, k2⟩ := need_lift hs sNil_path hn
  subst k2
  simp only [Option.some.injEq, Prod.mk.injEq] at h
  obtain ⟨rfl, rfl⟩ := h
  simp only [k1]
  exact .inr ⟨_, rfl, rfl, rfl, rfl, rfl, .inr ⟨_, _, _, _, rfl, rfl⟩⟩
theorem fresh_strToBytes {o : Oper} {src dst : TypeId} {x : Operand} (ho : o.op = .convert src dst x) (hsrc : P.underlying src = some .string) {e : TypeId} (hdst : P.underlying dst = some (.slice e)) : Fresh P o := by
  intro cs t s v s0 hs h
  obtain ⟨hp, lw, pa, co⟩ := s
  simp only at hs
  subst hs
  simp only [evOp, ho, evConv] at h ⊢
  split at h
  case h_2 => cases h
  rename_i u hu
  have hno : ∀ s, evConvInt P src dst u s = none := by
    intro s; unfold evConvInt; split
    · rename_i h2; rw [hdst] at h2; cases h2
    · rfl
  have hno2 : ∀ s, evBytesToStr P src dst u s = none := by
    intro s; unfold evBytesToStr; split
    · rename_i h1 h2; rw [hdst] at h2; cases h2
    · rename_i h1 h2; rw [hdst] at h2; cases h2
    · rfl
  simp only [hno, hno2] at h ⊢
  cases he : evStrToBytes P src dst u sNil with
  | some p =>
    rw [he] at h
    simp only [Option.some.injEq] at h
    subst h
    unfold evStrToBytes at he ⊢
    split at he
    case h_2 => cases he
    split at he
    case h_2 => cases he
    simp only [Option.some.injEq, Prod.mk.injEq] at he
    obtain ⟨rfl, rfl⟩ := he
    exact .inr ⟨_, rfl, rfl, rfl, rfl, rfl, .inr ⟨_, _, _, _, rfl, rfl⟩⟩
  | none =>
    rw [he] at h
    have hn : evStrToBytes P src dst u ⟨hp, lw, none, co⟩ = none := by
      unfold evStrToBytes at he ⊢
      simp only [hsrc, hdst] at he ⊢
      cases u <;> first | rfl | skip
      simp only at he ⊢
      split at he
      · cases he
      · rfl
    rw [hn]
    refine .inl ⟨?_, evFlat_lift rfl sNil_path h⟩
    have h : evFlat P o t sNil = some (v, s0) := h
    have : s0 = sNil := by
      unfold evFlat at h
      split at h
      case h_2 => cases h
      split at h
      case isFalse => cases h
      split at h
      case h_2 => cases h
      split at h
      case isFalse => cases h
      rw [named_closed sNil_path] at h
      simp only [Option.some.injEq, Prod.mk.injEq] at h
      exact h.2.symm
    subst this; rfl
end Go.Ev
