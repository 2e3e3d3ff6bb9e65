/- THE EVALUATOR: one step of a region; a region that draws nothing. -/
import Derived.Test.YtmnnnickodfibaaEvH
namespace Go.Ev
open Go.RowKit
variable {P : Program} {B : Nat}

theorem opndsL_congr {t u : Tr} : ∀ (xs : List Operand), (∀ x ∈ xs, opnd P t x = opnd P u x) → opndsL P t xs = opndsL P u xs
  | [], _ => rfl
  | x :: r, h => by
    simp only [opndsL]
    rw [h x List.mem_cons_self, opndsL_congr r fun y hy => h y (List.mem_cons_of_mem _ hy)]
theorem partsL_congr {t u : Tr} : ∀ (xs : List (Nat × Operand)), (∀ x ∈ xs, opnd P t x.2 = opnd P u x.2) → partsL P t xs = partsL P u xs
  | [], _ => rfl
  | (i, x) :: r, h => by
    have h1 := h (i, x) List.mem_cons_self
    simp only at h1
    simp only [partsL]
    rw [h1, partsL_congr r fun y hy => h y (List.mem_cons_of_mem _ hy)]
theorem opndO_congr {t u : Tr} : ∀ (x : Option Operand), (∀ y ∈ x.toArray, opnd P t y = opnd P u y) → opndO P t x = opndO P u x
  | none, _ => rfl
  | some x, h => by simp only [opndO]; rw [h x (by simp)]

theorem evFlat_congr {t u : Tr} {o : Oper} {s : St} (hs : ∀ cs b, o.op ≠ .select cs b) (h : ∀ x ∈ o.op.operands, opnd P t x = opnd P u x) : evFlat P o t s = evFlat P o u s := by
  unfold evFlat
  rw [opndsL_congr _ fun x hx => h x (by simpa using hx)]
  have : execOp (fun x => (opnd P t x).getD gone) o = execOp (fun x => (opnd P u x).getD gone) o := execOp_congr o hs fun x hx => by simp only [h x hx]
  rw [this]

theorem evMove_congr {t u : Tr} {x : Operand} {s : St} (h : opnd P t x = opnd P u x) : evMove P t x s = evMove P u x s := by unfold evMove; rw [h]
theorem evOp_congr {call : CallFn} {t u : Tr} {o : Oper} {s : St} (h : ∀ x ∈ o.op.operands, opnd P t x = opnd P u x) : evOp P call o t s = evOp P call o u s := by
  have hf := fun (hs : ∀ cs b, o.op ≠ .select cs b) => evFlat_congr (s := s) hs h
  obtain ⟨dst, op, ty, pos, after, guard⟩ := o
  cases op <;> simp only [Op.operands] at h <;> simp only [evOp]
  case move x => exact evMove_congr (h x (by simp))
  case assign x => exact evMove_congr (h x (by simp))
  case pick c a b => simp only [evPick, h c (by simp), evMove_congr (h a (by simp)), evMove_congr (h b (by simp))]
  case box e x => simp only [evBox, h x (by simp)]
  case build ty2 ps =>
    have e : partsL P t ps.toList = partsL P u ps.toList := partsL_congr _ fun x hx => h x.2 (by simp; exact ⟨x.1, by simpa using hx⟩)
    simp only [withPs, e]
  case buildSlice ty2 l ps =>
    have e : partsL P t ps.toList = partsL P u ps.toList := partsL_congr _ fun x hx => h x.2 (by simp; exact ⟨x.1, by simpa using hx⟩)
    simp only [withPs, e]
  case load ty2 x => simp only [with1, h x (by simp)]
  case store ty2 x y => simp only [with2, h x (by simp), h y (by simp)]
  case nilCheck x => simp only [evNilCheck, h x (by simp)]
  case binOp op2 ty2 x y ty3 => simp only [evBin, evBinInt, evBinFlat, h x (by simp), h y (by simp), hf (by simp)]
  case unOp => exact hf (by simp)
  case convert src d x => simp only [evConv, h x (by simp), hf (by simp)]
  case makeFunc fn first captured =>
    have e1 : opndsL P t first.toList = opndsL P u first.toList := opndsL_congr _ fun x hx => h x (by simp; left; simpa using hx)
    have e2 : opndsL P t captured.toList = opndsL P u captured.toList := opndsL_congr _ fun x hx => h x (by simp; right; simpa using hx)
    simp only [evMakeFunc, e1, e2]
  case makeSlice ty2 l c => simp only [with2, h l (by simp), h c (by simp)]
  case slice ty2 x lo hi mx =>
    simp only [evSliceOp, h x (by simp), opndO_congr lo fun y hy => h y (by simp at hy ⊢; simp [hy]), opndO_congr hi fun y hy => h y (by simp at hy ⊢; simp [hy]), opndO_congr mx fun y hy => h y (by simp at hy ⊢; simp [hy])]
  case fieldAddr ty2 x f => simp only [with1, h x (by simp)]
  case field ty2 x f => simp only [with1, h x (by simp)]
  case indexAddr ty2 x y => simp only [with2, h x (by simp), h y (by simp)]
  case index ty2 x y => simp only [with2, h x (by simp), h y (by simp)]
  case extract x i => simp only [evExtract, h x (by simp)]
  case call c =>
    unfold evCallAny
    split
    · exact hf (by simp)
    · obtain ⟨callee, args, at'⟩ := c
      have ha : opndsL P t args.toList = opndsL P u args.toList := opndsL_congr _ fun x hx => h x (by simp [Call.operands]; right; simpa using hx)
      simp only [evCallOp]
      cases callee with
      | value f => simp only [h f (by simp [Call.operands]), ha]
      | invoke r m => rfl
      | builtin b => cases b <;> simp only [ha]

/-- What is asked only grows. -/
def Grows (s s' : St) : Prop := ∃ l, s'.cons = l ++ s.cons
theorem Grows.refl (s : St) : Grows s s := ⟨[], rfl⟩
theorem Grows.trans {s s' s'' : St} (h : Grows s s') (k : Grows s' s'') : Grows s s'' := by
  obtain ⟨l, e⟩ := h
  obtain ⟨l', e'⟩ := k
  exact ⟨l' ++ l, by rw [e', e, List.append_assoc]⟩
theorem Grows.holds {s s' : St} (h : Grows s s') (hh : s'.Holds) : s.Holds := by
  obtain ⟨l, e⟩ := h
  exact fun p hp => hh p (by rw [e]; exact List.mem_append_right _ hp)
theorem Grows.of {s s' : St} (h : Grows s s') (s'' : St) (e : s''.cons = s'.cons) : Grows s s'' := by
  obtain ⟨l, e'⟩ := h; exact ⟨l, by rw [e, e']⟩
theorem need_grows {s s' : St} {b : Bool} (h : need s b = some s') : Grows s s' := (need_spec h).1.cons
theorem test_grows {s s' : St} {b d : Bool} (h : test s b = some (d, s')) : Grows s s' := (test_spec h).1.cons
theorem read_grows {s s' : St} {o : AObj} {off n : Nat} {cs : Array Value} (h : readCells s o off n = some (cs, s')) : Grows s s' := by
  unfold readCells at h
  repeat' split at h
  all_goals first | (cases h; done) | (simp only [Option.some.injEq, Prod.mk.injEq] at h; obtain ⟨_, rfl⟩ := h; first | exact .refl _ | exact ⟨[_], rfl⟩)
theorem storeAt_grows {s s' : St} {b off : Nat} {cs : List Value} (h : storeCellsAt s b off cs = some s') : Grows s s' := storeCellsAt_cons h
theorem strOf_grows {s s' : St} {cs : Array Value} {v : Value} (h : strOf cs s = some (v, s')) : Grows s s' := by
  unfold strOf at h
  repeat' split at h
  all_goals first | (cases h; done) | (simp only [Option.some.injEq, Prod.mk.injEq] at h; obtain ⟨_, rfl⟩ := h; first | exact .refl _ | exact ⟨[_], rfl⟩)
theorem tail_grows {s s' : St} {esz n : Nat} {x : Value} {cs : Array Value} {b : Bool} (h : evTail P esz x s = some (n, cs, b, s')) : Grows s s' := by
  unfold evTail at h
  repeat' split at h
  all_goals first | (cases h; done) | (simp only [Option.some.injEq, Prod.mk.injEq] at h; obtain ⟨_, _, _, rfl⟩ := h; first | exact .refl _ | exact need_grows ‹_›)
theorem bounds_grows {s s' : St} {len cap l h0 : Nat} {lo hi : Option Value} (h : evBounds len cap lo hi s = some (l, h0, s')) : Grows s s' := by
  unfold evBounds at h
  split at h
  case h_2 => cases h
  rename_i h1 s1 hm
  have k : Grows s s1 := by
    repeat' split at hm
    all_goals first | (cases hm; done) | (simp only [Option.some.injEq, Prod.mk.injEq] at hm; obtain ⟨_, rfl⟩ := hm; first | exact .refl _ | exact need_grows ‹_›)
  repeat' split at h
  all_goals first | (cases h; done) | (simp only [Option.some.injEq, Prod.mk.injEq] at h; obtain ⟨_, _, rfl⟩ := h; first | exact k | exact k.trans (need_grows ‹_›))

theorem append_grows {s s' : St} {at' : Array TypeId} {x y v : Value} (h : evAppend P at' x y s = some (v, s')) : Grows s s' := by
  unfold evAppend at h
  try simp only [lenQ_eq, pushQ_eq, setQ_eq] at h
  split at h
  case h_2 => cases h
  split at h
  case h_2 => cases h
  split at h
  case h_2 => cases h
  split at h
  case h_1 => cases h
  split at h
  case isFalse => cases h
  split at h
  case h_2 => cases h
  rename_i htail
  have k0 := tail_grows htail
  split at h
  · split at h
    · simp only [Option.some.injEq, Prod.mk.injEq] at h; obtain ⟨_, rfl⟩ := h; exact k0.trans (test_grows ‹_›)
    · split at h
      case h_2 => cases h
      rename_i ht1 _ _ hn
      simp only [Option.some.injEq, Prod.mk.injEq] at h; obtain ⟨_, rfl⟩ := h
      exact ((k0.trans (test_grows ht1)).trans (need_grows hn)).of _ rfl
    · cases h
  · split at h
    · simp only [Option.some.injEq, Prod.mk.injEq] at h; obtain ⟨_, rfl⟩ := h; exact k0.trans (test_grows ‹_›)
    · split at h
      case h_2 => cases h
      rename_i ht1 _ _ hn
      simp only [Option.some.injEq, Prod.mk.injEq] at h; obtain ⟨_, rfl⟩ := h
      exact ((k0.trans (test_grows ht1)).trans (need_grows hn)).of _ rfl
    · cases h
  · split at h
    case h_2 => cases h
    split at h
    case isFalse => cases h
    split at h
    · simp only [Option.some.injEq, Prod.mk.injEq] at h; obtain ⟨_, rfl⟩ := h; exact k0.trans (test_grows ‹_›)
    · rename_i ht1
      have k1 := k0.trans (test_grows ht1)
      split at h
      · rename_i ht2
        have k2 := k1.trans (test_grows ht2)
        split at h
        case h_2 => cases h
        rename_i hn
        simp only [Option.some.injEq, Prod.mk.injEq] at h; obtain ⟨_, rfl⟩ := h
        exact (k2.trans (need_grows hn)).of _ rfl
      · rename_i ht2
        have k2 := k1.trans (test_grows ht2)
        split at h
        case h_2 => cases h
        rename_i hn
        split at h
        case h_2 => cases h
        simp only [Option.some.injEq, Prod.mk.injEq] at h; obtain ⟨_, rfl⟩ := h
        exact (k2.trans (need_grows hn)).trans (storeAt_grows ‹_›)
      · cases h
    · cases h
  · cases h

def CallGrows (call : CallFn) : Prop := ∀ (f : FuncId) (args : Array Value) (s : St) (v : Value) (s' : St), call f args s = some (v, s') → Grows s s'

theorem appendA_grows {s s' : St} {at' : Array TypeId} {x y v : Value} (h : evAppendA P at' x y s = some (v, s')) : Grows s s' := by
  unfold evAppendA at h
  try simp only [lenQ_eq, pushQ_eq, setQ_eq] at h
  split at h
  · split at h
    case h_2 => cases h
    split at h
    case h_2 => cases h
    split at h
    case h_2 => cases h
    split at h
    case h_2 => cases h
    split at h
    case isFalse => cases h
    exact append_grows h
  · exact append_grows h
theorem evCallOp_grows {call : CallFn} (hc : CallGrows call) {c : Call} {t : Tr} {s s' : St} {v : Value} (h : evCallOp P call c t s = some (v, s')) : Grows s s' := by
  unfold evCallOp at h
  split at h
  · split at h
    · exact hc _ _ _ _ _ h
    · cases h
  · split at h
    · unfold evLen at h
      repeat' split at h
      all_goals first | (cases h; done) | skip
      all_goals try rw [force_eq] at h
      all_goals (simp only [Option.some.injEq, Prod.mk.injEq] at h; obtain ⟨_, rfl⟩ := h; exact .refl _)
    · cases h
  · split at h
    · exact appendA_grows h
    · cases h
  · split at h
    · unfold evCopy at h
      repeat' split at h
      all_goals first | (cases h; done) | skip
      all_goals (simp only [Option.some.injEq, Prod.mk.injEq] at h; obtain ⟨_, rfl⟩ := h)
      all_goals first | exact tail_grows ‹_› | exact (tail_grows ‹_›).trans (storeAt_grows ‹_›)
    · cases h
  · split at h
    · unfold evClear at h
      repeat' split at h
      all_goals first | (cases h; done) | skip
      all_goals (simp only [Option.some.injEq, Prod.mk.injEq] at h; obtain ⟨_, rfl⟩ := h)
      all_goals first | exact .refl _ | exact storeAt_grows ‹_›
    · cases h
  · cases h

theorem named_grows {s s' : St} {v u : Value} (h : named s v = some (u, s')) : Grows s s' := (named_spec h).1.cons
theorem evFlat_grows {o : Oper} {t : Tr} {s s' : St} {v : Value} (h : evFlat P o t s = some (v, s')) : Grows s s' := by
  unfold evFlat at h
  split at h
  case h_2 => cases h
  split at h
  case isFalse => cases h
  split at h
  case h_2 => cases h
  split at h
  · exact named_grows h
  · cases h

theorem evOp_grows {call : CallFn} (hc : CallGrows call) {o : Oper} {t : Tr} {s s' : St} {v : Value} (h : evOp P call o t s = some (v, s')) : Grows s s' := by
  have fin : ∀ {u : Value} {s1 : St}, some (u, s1) = some (v, s') → Grows s s1 → Grows s s' := by
    intro u s1 he hg
    simp only [Option.some.injEq, Prod.mk.injEq] at he
    obtain ⟨_, rfl⟩ := he
    exact hg
  have fin' : ∀ {u : Value} {s1 : St}, some (u, s1) = some (v, s') → ∀ s2, Grows s s2 → s1.cons = s2.cons → Grows s s' := fun he s2 hg e => fin he (hg.of _ e)
  have mv : ∀ {x : Operand} {s1 : St}, evMove P t x s1 = some (v, s') → Grows s s1 → Grows s s' := by
    intro x s1 hx hg
    unfold evMove at hx
    split at hx
    · exact fin hx hg
    · cases hx
  have w1 : ∀ {x : Operand} {k : Value → Option (Value × St)}, with1 P t x k = some (v, s') → ∃ u, k u = some (v, s') := by
    intro x k hx
    unfold with1 at hx
    split at hx
    · exact ⟨_, hx⟩
    · cases hx
  have w2 : ∀ {x y : Operand} {k : Value → Value → Option (Value × St)}, with2 P t x y k = some (v, s') → ∃ u z, k u z = some (v, s') := by
    intro x y k hx
    unfold with2 at hx
    split at hx
    · exact ⟨_, _, hx⟩
    · cases hx
  have ws : ∀ {x : List (Nat × Operand)} {k : List (Nat × Value) → Option (Value × St)}, withPs P t x k = some (v, s') → ∃ u, k u = some (v, s') := by
    intro x k hx
    unfold withPs at hx
    split at hx
    · exact ⟨_, hx⟩
    · cases hx
  obtain ⟨dst, op, ty, pos, after, guard⟩ := o
  cases op <;> simp only [evOp] at h
  case move => exact mv h (.refl _)
  case assign => exact mv h (.refl _)
  case pick c x y =>
    unfold evPick at h
    split at h
    case h_2 => cases h
    split at h
    · exact mv h (test_grows ‹_›)
    · exact mv h (test_grows ‹_›)
    · cases h
  case unOp => exact evFlat_grows h
  case call c =>
    unfold evCallAny at h
    split at h
    · exact evFlat_grows h
    · exact evCallOp_grows hc h
  case binOp =>
    unfold evBin at h
    split at h
    · unfold evBinInt at h
      split at h
      · rename_i hi
        refine Grows.trans ?_ (named_grows h)
        unfold evInt evIntSame ifNeed at hi
        repeat' split at hi
        all_goals first
          | (cases hi; done)
          | (simp only [Option.some.injEq, Prod.mk.injEq] at hi; obtain ⟨_, rfl⟩ := hi; first | exact .refl _ | exact need_grows ‹_›)
      · rw [cond_eq_ite] at h
        split at h
        · cases h
        · exact evFlat_grows h
    case h_3 => cases h
    split at h
    · unfold evBinFlat at h
      split at h
      · split at h
        · exact fin h (.refl _)
        · exact evFlat_grows h
      split at h
      · exact fin h (.refl _)
      split at h
      · rename_i r0 hfo
        simp only [Option.some.injEq] at h
        subst h
        unfold evFloat at hfo
        split at hfo
        case h_2 => cases hfo
        split at hfo
        · exact fin hfo ⟨[_], rfl⟩
        · cases hfo
      · exact evFlat_grows h
    · unfold evBinNil at h
      repeat' split at h
      all_goals first | (cases h; done) | exact fin h (.refl _)
  case convert =>
    unfold evConv at h
    try simp only [lenQ_eq, pushQ_eq, setQ_eq] at h
    split at h
    case h_2 => cases h
    split at h
    · rename_i r h1
      simp only [Option.some.injEq] at h; subst h
      unfold evConvInt at h1
      try simp only [lenQ_eq, pushQ_eq, setQ_eq] at h1
      split at h1
      · exact named_grows h1
      · cases h1
    · split at h
      · rename_i r h1
        simp only [Option.some.injEq] at h; subst h
        unfold evStrToBytes at h1
        repeat' split at h1
        all_goals first | (cases h1; done) | exact fin h1 ⟨[], rfl⟩
      · split at h
        · rename_i r h1
          simp only [Option.some.injEq] at h; subst h
          unfold evBytesToStr at h1
          repeat' split at h1
          all_goals first | (cases h1; done) | exact fin h1 (.refl _) | exact (read_grows ‹_›).trans (strOf_grows h1)
        · exact evFlat_grows h
  case load =>
    obtain ⟨u, h⟩ := w1 h
    unfold evLoad at h
    repeat' split at h
    all_goals first | (cases h; done) | exact fin h (read_grows ‹_›)
  case store =>
    obtain ⟨u, z, h⟩ := w2 h
    unfold evStore at h
    repeat' split at h
    all_goals first | (cases h; done) | exact fin h (storeAt_grows ‹_›)
  case build =>
    obtain ⟨u, h⟩ := ws h
    unfold evBuild at h
    repeat' split at h
    all_goals first | (cases h; done) | exact fin h (.refl _)
  case buildSlice =>
    obtain ⟨u, h⟩ := ws h
    unfold evBuildSlice at h
    try simp only [lenQ_eq, pushQ_eq, setQ_eq] at h
    repeat' split at h
    all_goals first | (cases h; done) | exact fin h ⟨[], rfl⟩
  case makeFunc =>
    unfold evMakeFunc at h
    split at h
    · split at h
      · exact fin h (.refl _)
      · cases h
    · cases h
  case makeSlice =>
    obtain ⟨u, z, h⟩ := w2 h
    unfold evMakeSlice at h
    try simp only [lenQ_eq, pushQ_eq, setQ_eq] at h
    repeat' split at h
    all_goals first | (cases h; done) | (rename_i hn; exact fin' h _ (need_grows hn) rfl)
  case slice =>
    unfold evSliceOp at h
    split at h
    case h_3 => cases h
    · unfold evSliceAny at h
      split at h
      · unfold evSliceArr at h
        try simp only [lenQ_eq, pushQ_eq, setQ_eq] at h
        repeat' split at h
        all_goals first | (cases h; done) | (rename_i hn; exact fin' h _ (need_grows hn) rfl)
      · unfold evSlice at h
        repeat' split at h
        all_goals first | (cases h; done) | exact fin h (bounds_grows ‹_›)
    · unfold evSlice3 at h
      split at h
      · unfold evSlice0 at h
        repeat' split at h
        all_goals first | (cases h; done) | exact fin h (.refl _)
      · unfold evSliceM at h
        repeat' split at h
        all_goals first | (cases h; done) | exact fin h (need_grows ‹_›)
  case fieldAddr =>
    obtain ⟨u, h⟩ := w1 h
    unfold evFieldAddr at h
    repeat' split at h
    all_goals first | (cases h; done) | exact fin h (.refl _)
  case field =>
    obtain ⟨u, h⟩ := w1 h
    unfold evField at h
    repeat' split at h
    all_goals first | (cases h; done) | exact fin h (.refl _)
  case indexAddr =>
    obtain ⟨u, z, h⟩ := w2 h
    unfold evIndexAddr at h
    repeat' split at h
    all_goals first | (cases h; done) | exact fin h (need_grows ‹_›)
  case index =>
    obtain ⟨u, z, h⟩ := w2 h
    unfold evIndex at h
    repeat' split at h
    all_goals first | (cases h; done) | exact fin h (need_grows ‹_›)
  case alloc =>
    unfold evAlloc at h
    try simp only [lenQ_eq, pushQ_eq, setQ_eq] at h
    repeat' split at h
    all_goals first | (cases h; done) | exact fin h ⟨[], rfl⟩
  case box =>
    unfold evBox at h
    repeat' split at h
    all_goals first | (cases h; done) | exact fin h ⟨[], rfl⟩
  case nilCheck =>
    unfold evNilCheck at h
    repeat' split at h
    all_goals first | (cases h; done) | exact fin h (.refl _)
  case extract =>
    unfold evExtract at h
    repeat' split at h
    all_goals first | (cases h; done) | exact fin h (.refl _)
  all_goals cases h

theorem wp_of_op {ρ : Rho} {s s' : St} {w : World} {o : Oper} {a : Act} {v : Value} {K : Act → World → Prop} {Q : Exit → Act → World → Prop}
    (h : OpGives P B ρ s w v s' ((execOp a.eval o).run P w))
    (hK : ∀ v' ρ' w', VRel s'.heap.size ρ' v v' → HRel P B ρ' s'.heap w' → Step B ρ s w ρ' s' w' → K (a.put o.dst v') w') : o.wp P a w K Q := by
  unfold Oper.wp
  generalize (execOp a.eval o).run P w = r at h
  cases r with
  | halt x w' => exact h.elim
  | ok n w' =>
    cases n with
    | value v' => obtain ⟨ρ', h1, h2, h3⟩ := h; exact hK v' ρ' w' h1 h2 h3
    | skip => obtain ⟨rfl, ρ', h2, h3⟩ := h; exact hK undef ρ' w' (.flat rfl) h2 h3
    | enter f args =>
      obtain ⟨rfl, hc⟩ := h
      rw [Oper.upon_enter]
      refine hc.mono fun e w'' he => ?_
      obtain ⟨v', ρ', rfl, h1, h2, h3⟩ := he
      exact hK v' ρ' w'' h1 h2 h3
    | _ => exact h.elim

theorem TRel.put {n : Nat} {ρ : Rho} {t : Tr} {a : Act} {v v' : Value} (h : TRel n ρ t a.tmps) (dst : Option Tmp) (hv : VRel n ρ v v') : TRel n ρ (putT t dst v) (a.put dst v').tmps := by
  cases dst with
  | none => exact h
  | some d =>
    refine ⟨fun i => by simp only [putT, Tr.putR_eq, Tr.has_put, Act.put, Array.size_setIfInBounds]; exact h.has i, fun i => ?_⟩
    simp only [putT, Tr.putR_eq, Act.put, Tr.get_put]
    by_cases hc : i = d ∧ t.has d = true
    · rw [if_pos hc]
      obtain ⟨rfl, hd⟩ := hc
      rw [h.has] at hd
      have hlt : i < a.tmps.size := by simpa using hd
      exact .inr ⟨v', by rw [Array.getElem?_setIfInBounds]; simp [hlt], hv⟩
    · rw [if_neg hc]
      rcases h.get i with h1 | ⟨u, h1, h2⟩
      · exact .inl h1
      · refine .inr ⟨u, ?_, h2⟩
        rw [Array.getElem?_setIfInBounds]
        by_cases hid : d = i
        · subst hid
          have hlt := (Array.getElem?_eq_some_iff.1 h1).1
          exact absurd ⟨rfl, by rw [h.has]; simpa using hlt⟩ hc
        · rw [if_neg hid]; exact h1
theorem put_defers (a : Act) (dst : Option Tmp) (v : Value) : (a.put dst v).defers = a.defers := by cases dst <;> rfl

theorem evWanted_spec {ρ : Rho} {n : Nat} {s s' : St} {ops : Array Oper} {o : Oper} {t : Tr} {a : Act} {b : Bool} (h : evWanted ops o t s = some (b, s')) (hh : s'.Holds) (ht : TRel n ρ t a.tmps) :
    Same s s' ∧ Region.wanted o (yielded ops a.tmps) = b := by
  unfold evWanted at h
  unfold Region.wanted
  split at h
  · rename_i hg
    simp only [Option.some.injEq, Prod.mk.injEq] at h
    obtain ⟨rfl, rfl⟩ := h
    rw [hg]
    exact ⟨.refl _, rfl⟩
  · rename_i j want hg
    rw [hg]
    simp only [yielded]
    split at h
    · rename_i hd
      simp only [Option.some.injEq, Prod.mk.injEq] at h
      obtain ⟨rfl, rfl⟩ := h
      rw [hd]
      exact ⟨.refl _, rfl⟩
    · rename_i d hd
      rw [hd]
      simp only [Option.bind_some]
      have hr := ht.get d
      unfold wantedV at h
      split at h
      · rename_i c hc
        rw [hc] at hr
        split at h
        case h_2 => cases h
        rename_i b1 s1 ht1
        simp only [Option.some.injEq, Prod.mk.injEq] at h
        obtain ⟨rfl, rfl⟩ := h
        obtain ⟨hs, hb⟩ := test_spec ht1
        rcases hr with hr | ⟨v', hv', hv⟩
        · simp [isGone] at hr
        · obtain rfl := hv.eq_of_flat rfl
          rw [hv', ← hb hh]
          exact ⟨hs, by cases c <;> cases want <;> rfl⟩
      · cases h
      · rename_i h1 h2
        simp only [Option.some.injEq, Prod.mk.injEq] at h
        obtain ⟨rfl, rfl⟩ := h
        refine ⟨.refl _, ?_⟩
        rcases hr with hr | ⟨v', hv', hv⟩
        · unfold isGone at hr
          split at hr
          · exact absurd ‹_› (h2 _ _ _)
          · cases hr
        · rw [hv']
          have : ∀ c, v' ≠ .bool c := by
            rintro c rfl
            generalize t.get d = u at *
            cases hv with
            | flat => exact h1 _ rfl
            | any hg' _ =>
              unfold isGone at hg'
              split at hg'
              · exact h2 _ _ _ rfl
              · cases hg'
          cases v' <;> first | rfl | exact absurd rfl (this _)

theorem evStepV_grows {call : CallFn} (hc : CallGrows call) {ops : Array Oper} {o : Oper} {t : Tr} {s s' : St} {v : Value} (h : evStepV P call ops o t s = some (v, s')) : Grows s s' := by
  have hw : ∀ {b : Bool} {s1 : St}, evWanted ops o t s = some (b, s1) → Grows s s1 := by
    intro b s1 h
    unfold evWanted wantedV at h
    repeat' split at h
    all_goals first
      | (cases h; done)
      | (simp only [Option.some.injEq, Prod.mk.injEq] at h; obtain ⟨_, rfl⟩ := h; first | exact .refl _ | exact test_grows ‹_›)
  unfold evStepV at h
  simp only [evOpF_eq] at h
  split at h
  · exact (hw ‹_›).trans (evOp_grows hc h)
  · simp only [Option.some.injEq, Prod.mk.injEq] at h; obtain ⟨_, rfl⟩ := h; exact hw ‹_›
  · cases h

/-- ONE STEP: the operation is carried out, or passed over. -/
theorem evStepV_spec {call : CallFn} (hcall : CallSound P call) (hgr : CallGrows call) {ρ : Rho} {s s' : St} {w : World} {ops : Array Oper} {o : Oper} {t : Tr} {v : Value} {a : Act}
    (h : evStepV P call ops o t s = some (v, s')) (hh : s'.Holds) (hr : HRel P B ρ s.heap w) (ht : TRel s.heap.size ρ t a.tmps) {K : Act → World → Prop} {Q : Exit → Act → World → Prop}
    (hK : ∀ v' ρ' w', VRel s'.heap.size ρ' v v' → HRel P B ρ' s'.heap w' → Step B ρ s w ρ' s' w' → K (a.put o.dst v') w') :
    if Region.wanted o (yielded ops a.tmps) then o.wp P a w K Q ∨ (o.asks P a w ∧ LetsOut Q) else K (a.put o.dst undef) w := by
  unfold evStepV at h
  simp only [evOpF_eq] at h
  split at h
  · rename_i s1 hw
    have hs1 : s1.Holds := (evOp_grows hgr h).holds hh
    obtain ⟨hs, hwt⟩ := evWanted_spec hw hs1 ht
    rw [hwt, if_pos rfl]
    refine .inl (wp_of_op (evOp_spec hcall h hh (by rw [hs.heap]; exact hr) (by rw [hs.heap]; exact ht)) fun v' ρ' w' h1 h2 h3 => hK v' ρ' w' h1 h2 ((hs.step ρ w).trans h3))
  · rename_i s1 hw
    simp only [Option.some.injEq, Prod.mk.injEq] at h
    obtain ⟨rfl, rfl⟩ := h
    obtain ⟨hs, hwt⟩ := evWanted_spec hw hh ht
    rw [hwt]
    simp only [Bool.false_eq_true, if_false]
    exact hK undef ρ w (.flat rfl) (by rw [hs.heap]; exact hr) (hs.step ρ w)
  · cases h

theorem evStep_eq {call : CallFn} {ops : Array Oper} {o : Oper} {t t' : Tr} {s s' : St} (h : evStep P call ops o t s = some (t', s')) : ∃ v, evStepV P call ops o t s = some (v, s') ∧ t' = putT t o.dst v := by
  unfold evStep at h
  split at h
  · rename_i v s1 hv
    simp only [fsK_eq, Option.some.injEq, Prod.mk.injEq] at h
    obtain ⟨rfl, rfl⟩ := h
    exact ⟨v, hv, rfl⟩
  · cases h

/-- What the code comes to. -/
def After (P : Program) (B : Nat) (ρ : Rho) (s : St) (w : World) (t' : Tr) (s' : St) (K : Act → World → Prop) (d : List Deferred) : Prop :=
  ∀ (a' : Act) (ρ' : Rho) (w' : World), a'.defers = d → TRel s'.heap.size ρ' t' a'.tmps → HRel P B ρ' s'.heap w' → Step B ρ s w ρ' s' w' → K a' w'

theorem evOps_grows {call : CallFn} (hgr : CallGrows call) {ops : Array Oper} : ∀ (l : List Oper) {t t' : Tr} {s s' : St}, evOps P call ops l t s = some (t', s') → Grows s s'
  | [], _, _, _, _, h => by simp only [evOps, Option.some.injEq, Prod.mk.injEq] at h; obtain ⟨_, rfl⟩ := h; exact .refl _
  | o :: r, t, t', s, s', h => by
    simp only [evOps] at h
    split at h
    · rename_i t1 s1 h1
      obtain ⟨v, hv, rfl⟩ := evStep_eq h1
      exact (evStepV_grows hgr hv).trans (evOps_grows hgr r h)
    · cases h

theorem evOps_spec {call : CallFn} (hcall : CallSound P call) (hgr : CallGrows call) {ops : Array Oper} {Q : Exit → Act → World → Prop} : ∀ (l : List Oper) (k : Nat) {t t' : Tr} {s s' : St} {a : Act} {ρ : Rho} {w : World},
    (∀ j, l[j]? = ops[k + j]?) → evOps P call ops l t s = some (t', s') → s'.Holds → HRel P B ρ s.heap w → TRel s.heap.size ρ t a.tmps →
    After P B ρ s w t' s' (Q .normal) a.defers → wpOps P ops Q (List.range' k l.length) a w
  | [], k, t, t', s, s', a, ρ, w, hl, h, hh, hr, ht, hK => by
    simp only [evOps, Option.some.injEq, Prod.mk.injEq] at h
    obtain ⟨rfl, rfl⟩ := h
    exact hK a ρ w rfl ht hr (.refl _ _ _ _)
  | o :: r, k, t, t', s, s', a, ρ, w, hl, h, hh, hr, ht, hK => by
    simp only [evOps] at h
    split at h
    case h_2 => cases h
    rename_i t1 s1 h1
    obtain ⟨v, hv, rfl⟩ := evStep_eq h1
    have ho : ops[k]? = some o := by have := hl 0; simpa using this.symm
    rw [List.length_cons, List.range'_succ, wpOps_cons, wpOp, ho]
    refine evStepV_spec hcall hgr hv ((evOps_grows hgr r h).holds hh) hr ht fun v' ρ' w' h1 h2 h3 => ?_
    refine evOps_spec hcall hgr r (k + 1) (fun j => by have := hl (j + 1); simpa [Nat.add_assoc, Nat.add_comm 1 j] using this) h hh h2 ((ht.mono h3.size fun i hi => h3.rho i (.inl hi)).put o.dst h1) fun a' ρ'' w'' e1 e2 e3 e4 => hK a' ρ'' w'' (by rw [e1, put_defers]) e2 e3 (h3.trans e4)
end Go.Ev
