/- The faster run: each operation gives what 'evOp' gives. -/
import Derived.Test.YtmnnnickodfibaaEvQ2
namespace Go.Ev
open Go.RowKit
variable {P : Program} {cs : CallFn} {cf : FCall}

def Res (P : Program) (cs : CallFn) (o : Oper) (t : Tr) (h : HT) (n low : Nat) (k : FK) (r : FR) : Prop :=
  ∃ v h' n' low', evOp P cs o t (toS h n low) = some (v, toS h' n' low') ∧ k v h' n' low' = r
def CFOk (cf : FCall) (cs : CallFn) : Prop := ∀ (f : FuncId) (args : List Value) (h : HT) (n low : Nat) (k : FK) (r : FR), cf f args h n low k = r → r ≠ .bad → ∃ v h' n' low', cs f ⟨args⟩ (toS h n low) = some (v, toS h' n' low') ∧ k v h' n' low' = r

theorem opdK_spec {x : Operand} {t : Tr} {k : Value → FR} {r : FR} (h : opdK (cOpd P x) t k = r) (hb : r ≠ .bad) : ∃ v, k v = r ∧ ∀ u, asSome v = some u → opnd P t x = some u := by
  cases x with
  | tmp i =>
    refine ⟨trG (pth i) t, h, fun u hu => ?_⟩
    rw [trG_eq] at hu
    simp only [opnd, Tr.getR_eq, hu]
  | const v =>
    simp only [cOpd, flatQ_eq] at h
    cases hf : flat v with
    | false => rw [hf] at h; exact absurd h.symm hb
    | true =>
      rw [hf] at h
      refine ⟨v, h, fun u hu => ?_⟩
      obtain rfl := asSome_val hu
      simp only [opnd, hf, if_true]
  | global g =>
    simp only [cOpd] at h
    split at h
    · rename_i hg
      refine ⟨_, h, fun u hu => ?_⟩
      obtain rfl := asSome_val hu
      simp only [opnd, hg, if_true]
    · exact absurd h.symm hb
  | func f =>
    refine ⟨_, h, fun u hu => ?_⟩
    obtain rfl := asSome_val hu
    rfl
theorem opdsK_spec : ∀ {xs : List Operand} {t : Tr} {k : List Value → FR} {r : FR}, opdsK (xs.map (cOpd P)) t k = r → r ≠ .bad → ∃ l, opndsL P t xs = some l ∧ k l = r
  | [], t, k, r, h, hb => ⟨[], rfl, h⟩
  | x :: xs, t, k, r, h, hb => by
    obtain ⟨v, h1, h2⟩ := opdK_spec (x := x) (t := t) (k := fun v => valK v fun v => opdsK (xs.map (cOpd P)) t fun r => k (v :: r)) h hb
    obtain ⟨h3, h4⟩ := valK_spec h1 hb
    obtain ⟨l, h5, h6⟩ := opdsK_spec h4 hb
    exact ⟨v :: l, by simp only [opndsL, h2 _ h3, h5], h6⟩
theorem objK_eq (h : HT) (b : Nat) (k : List Value → Nat → Nat → List Nat → Bool → Nat → FR) : objK h b k = k (htG (pth b) h).cells.toList (htG (pth b) h).esz (htG (pth b) h).st (htG (pth b) h).prev (htG (pth b) h).sym (htG (pth b) h).ver := by
  unfold objK
  generalize htG (pth b) h = o
  obtain ⟨cells, esz, st, prev, sym, ver⟩ := o
  obtain ⟨l⟩ := cells
  rfl
theorem toS_path (h : HT) (n low : Nat) : (toS h n low).path = none := rfl
theorem toS_live {h : HT} {n low b : Nat} (hb : b < n) (hs : (htG (pth b) h).st < 3) : live (toS h n low) b = some (htG (pth b) h) := by
  unfold live
  rw [toS_get, if_pos hb]; simp only [hs, if_true]
theorem toS_own {h : HT} {n low b : Nat} (hb : b < n) (hs : (htG (pth b) h).st = 1) : own (toS h n low) b = some (htG (pth b) h) := by
  unfold own
  rw [toS_get, if_pos hb]; simp only [hs, if_true]
theorem readCells_closed {s : St} (hs : s.path = none) {o : AObj} {off n : Nat} (hn : off + n ≤ o.cells.size) : readCells s o off n = some (exQ o.cells off n, s) := by
  unfold readCells
  rw [hs]
  cases o.sym <;> simp only [hn, if_true]
theorem exQ_list (c : Array Value) (off n : Nat) : (exQ c off n).toList = (c.toList.drop off).take n := rfl
theorem test_closed {s : St} (hs : s.path = none) (b : Bool) : test s b = some (b, s) := by
  unfold test; rw [hs]; cases b <;> rfl
theorem named_closed {s : St} (hs : s.path = none) (v : Value) : named s v = some (v, s) := by
  unfold named; rw [hs]; exact force_eq s v _

/-! A state again as a tree. -/
theorem htOfK_spec : ∀ (l : List AObj) (i : Nat) (h : HT) (k : HT → Nat → FR), ∃ h', arrL h' (i + l.length) = arrL h i ++ l ∧ htOfK l i h k = k h' (i + l.length)
  | [], i, h, k => ⟨h, by simp, rfl⟩
  | o :: l, i, h, k => by
    obtain ⟨h', h1, h2⟩ := htOfK_spec l (i + 1) (htPut (pth i) h o) k
    refine ⟨h', ?_, ?_⟩
    · rw [show i + (o :: l).length = i + 1 + l.length by simp only [List.length_cons]; omega, h1, arrL_push, List.append_assoc]; rfl
    · rw [show i + (o :: l).length = i + 1 + l.length by simp only [List.length_cons]; omega, ← h2]
      show htP (pth i) h o _ = _
      rw [htP_eq]; rfl
theorem ofS_spec {s : St} {k : HT → Nat → Nat → FR} {r : FR} (h : ofS s k = r) (hb : r ≠ .bad) : ∃ h' n' low', s = toS h' n' low' ∧ k h' n' low' = r := by
  unfold ofS at h
  split at h
  · rename_i hp hc
    obtain ⟨h', h1, h2⟩ := htOfK_spec s.heap.toList 0 .leaf (fun h n => litK s.low fun low => k h n low)
    rw [h2] at h
    refine ⟨h', 0 + s.heap.toList.length, s.low, ?_, h⟩
    obtain ⟨hp', lw, pa, co⟩ := s
    simp only at hp hc h1
    subst hp; subst hc
    unfold toS
    rw [h1]; simp [arrL]
  · exact absurd h.symm hb
theorem slowR_spec {o : Oper} {t : Tr} {h : HT} {n low : Nat} {k : FK} {r : FR} (hr : slowR P cs o t h n low k = r) (hb : r ≠ .bad) : Res P cs o t h n low k r := by
  unfold slowR at hr
  split at hr
  · rename_i v s hs
    obtain ⟨h', n', low', rfl, h2⟩ := ofS_spec hr hb
    exact ⟨v, h', n', low', hs, h2⟩
  · exact absurd hr.symm hb

/-! Operations that touch no object. -/
def Heapless (P : Program) (o : Oper) : Prop := ∀ (cs : CallFn) (t : Tr) (s : St) (v : Value) (s0 : St), s.path = none → evOp P noCall o t sNil = some (v, s0) → evOp P cs o t s = some (v, s)
theorem flatR_spec {o : Oper} (ho : Heapless P o) {t : Tr} {h : HT} {n low : Nat} {k : FK} {r : FR} (hr : flatR P o t (fun v => k v h n low) = r) (hb : r ≠ .bad) : Res P cs o t h n low k r := by
  unfold flatR at hr
  split at hr
  · rename_i v s hs
    exact ⟨v, h, n, low, ho cs t _ v s rfl hs, hr⟩
  · exact absurd hr.symm hb
theorem evFlat_lift {o : Oper} {t : Tr} {s s0 s1 : St} {v : Value} (hs : s.path = none) (h0 : s0.path = none) (h : evFlat P o t s0 = some (v, s1)) : evFlat P o t s = some (v, s) := by
  unfold evFlat at h ⊢
  split at h
  case h_2 => cases h
  rename_i vs hvs
  split at h
  case isFalse => cases h
  rename_i hfl
  simp only [hfl, if_true]
  split at h
  case h_2 => cases h
  rename_i u hu
  split at h
  case isFalse => cases h
  rename_i hf
  rw [named_closed h0] at h
  simp only [Option.some.injEq, Prod.mk.injEq] at h
  obtain ⟨rfl, rfl⟩ := h
  simp only [hf, if_true]
  exact named_closed hs _
theorem need_lift {s s0 s1 : St} {b : Bool} (hs : s.path = none) (h0 : s0.path = none) (h : need s0 b = some s1) : need s b = some s ∧ s1 = s0 := by
  unfold need at h ⊢
  rw [h0] at h; rw [hs]
  cases b with
  | false => cases h
  | true => simp only [Option.some.injEq] at h; exact ⟨rfl, h.symm⟩
theorem evIndex_lift {ty : TypeId} {x ix : Value} {s s0 s1 : St} {v : Value} (hs : s.path = none) (h0 : s0.path = none) (h : evIndex P ty x ix s0 = some (v, s1)) : evIndex P ty x ix s = some (v, s) := by
  unfold evIndex at h ⊢
  split at h
  · split at h
    · rename_i s2 hn
      obtain ⟨h1, rfl⟩ := need_lift hs h0 hn
      simp only [Option.some.injEq, Prod.mk.injEq] at h
      obtain ⟨rfl, _⟩ := h
      simp only [h1]
    · cases h
  · split at h
    · rename_i e1 e2 s2 he1 he2 hn
      obtain ⟨h1, rfl⟩ := need_lift hs h0 hn
      simp only [Option.some.injEq, Prod.mk.injEq] at h
      obtain ⟨rfl, _⟩ := h
      simp only [he1, he2, h1]
    · rename_i e1 e2 s2 he1 he2 hn
      obtain ⟨h1, rfl⟩ := need_lift hs h0 hn
      split at h
      · rename_i u hu
        simp only [Option.some.injEq, Prod.mk.injEq] at h
        obtain ⟨rfl, _⟩ := h
        simp only [he1, he2, h1, hu]
      · cases h
    · cases h
  · cases h
theorem evBuild_lift {ty : TypeId} {ps : List (Nat × Value)} {s s0 s1 : St} {v : Value} (h : evBuild P ty ps s0 = some (v, s1)) : evBuild P ty ps s = some (v, s) := by
  unfold evBuild at h ⊢
  split at h
  · split at h
    · rename_i z places hz hp
      split at h
      · rename_i hf
        simp only [hf, if_true]
        split at h
        · simp only [Option.some.injEq, Prod.mk.injEq] at h
          obtain ⟨rfl, _⟩ := h
          rename_i cs hcs
          simp only [hcs]
        · cases h
      · cases h
    · cases h
  · split at h
    · rename_i z e hz he
      split at h
      · rename_i hf
        simp only [hf, if_true]
        split at h
        · simp only [Option.some.injEq, Prod.mk.injEq] at h
          obtain ⟨rfl, _⟩ := h
          rename_i cs hcs
          simp only [hcs]
        · cases h
      · cases h
    · cases h
  · cases h
theorem ifNeed_lift {s s0 s1 : St} {b : Bool} {u v : Value} (hs : s.path = none) (h0 : s0.path = none) (h : ifNeed s0 b u = some (v, s1)) : ifNeed s b u = some (v, s) ∧ s1 = s0 := by
  unfold ifNeed at h ⊢
  split at h
  · rename_i s2 hn
    obtain ⟨h1, rfl⟩ := need_lift hs h0 hn
    simp only [Option.some.injEq, Prod.mk.injEq] at h
    obtain ⟨rfl, rfl⟩ := h
    simp only [h1, and_self]
  · cases h
theorem evInt_lift {op : BinOp} {k k' : IntKind} {x y : Int} {s s0 s1 : St} {v : Value} (hs : s.path = none) (h0 : s0.path = none) (h : evInt op k x k' y s0 = some (v, s1)) : evInt op k x k' y s = some (v, s) ∧ s1 = s0 := by
  cases op <;> simp only [evInt, evIntSame] at h ⊢
  case shl => exact ifNeed_lift hs h0 h
  case shr => exact ifNeed_lift hs h0 h
  all_goals
    split at h
    case isFalse => cases h
    rename_i hk
    subst hk
    simp only [if_true]
    first
    | exact ifNeed_lift hs h0 h
    | (simp only [Option.some.injEq, Prod.mk.injEq] at h; obtain ⟨rfl, rfl⟩ := h; exact ⟨rfl, rfl⟩)
    | cases h
theorem evInt_none {op : BinOp} {k k' : IntKind} {x y : Int} {s s0 : St} (hs : s.path = none) (h0 : s0.path = none) (h : evInt op k x k' y s0 = none) : evInt op k x k' y s = none := by
  cases h1 : evInt op k x k' y s with
  | none => rfl
  | some p =>
    obtain ⟨v, s1⟩ := p
    rw [(evInt_lift h0 hs h1).1] at h; cases h
theorem evBinInt_lift {op : BinOp} {k k' : IntKind} {x y : Int} {o : Oper} {t : Tr} {s s0 s1 : St} {v : Value} (hs : s.path = none) (h0 : s0.path = none) (h : evBinInt P op k x k' y o t s0 = some (v, s1)) : evBinInt P op k x k' y o t s = some (v, s) := by
  unfold evBinInt at h ⊢
  split at h
  · rename_i u s2 hu
    obtain ⟨h1, rfl⟩ := evInt_lift hs h0 hu
    rw [named_closed h0] at h
    simp only [Option.some.injEq, Prod.mk.injEq] at h
    obtain ⟨rfl, _⟩ := h
    simp only [h1]
    exact named_closed hs _
  · rename_i hn
    rw [evInt_none hs h0 hn]
    cases ha : alone op k with
    | true => rw [ha] at h; cases h
    | false => rw [ha] at h; exact evFlat_lift hs h0 h
theorem evBinFlat_lift {op : BinOp} {ty : TypeId} {x y : Value} {o : Oper} {t : Tr} {s s0 s1 : St} {v : Value} (hs : s.path = none) (h0 : s0.path = none) (h : evBinFlat P op ty x y o t s0 = some (v, s1)) : evBinFlat P op ty x y o t s = some (v, s) := by
  unfold evBinFlat at h ⊢
  rw [h0] at h; rw [hs]
  change (match evStrEq P op ty x y with | some b => some (Value.bool b, s0) | none => evFlat P o t s0) = _ at h
  show (match evStrEq P op ty x y with | some b => some (Value.bool b, s) | none => evFlat P o t s) = _
  cases hb : evStrEq P op ty x y with
  | some b =>
    rw [hb] at h
    simp only [Option.some.injEq, Prod.mk.injEq] at h
    obtain ⟨rfl, _⟩ := h
    rfl
  | none =>
    rw [hb] at h
    exact evFlat_lift hs h0 h
theorem evBinNil_lift {op : BinOp} {ty : TypeId} {x y : Value} {s s0 s1 : St} {v : Value} (h : evBinNil P op ty x y s0 = some (v, s1)) : evBinNil P op ty x y s = some (v, s) := by
  unfold evBinNil at h ⊢
  split at h
  · simp only [Option.some.injEq, Prod.mk.injEq] at h
    obtain ⟨rfl, _⟩ := h
    rfl
  · simp only [Option.some.injEq, Prod.mk.injEq] at h
    obtain ⟨rfl, _⟩ := h
    rfl
  · cases h
theorem evBin_lift {op : BinOp} {ty : TypeId} {x y : Operand} {o : Oper} {t : Tr} {s s0 s1 : St} {v : Value} (hs : s.path = none) (h0 : s0.path = none) (h : evBin P op ty x y o t s0 = some (v, s1)) : evBin P op ty x y o t s = some (v, s) := by
  unfold evBin at h ⊢
  split at h
  · exact evBinInt_lift hs h0 h
  · split at h
    · rename_i hf
      rw [if_pos hf]
      exact evBinFlat_lift hs h0 h
    · rename_i hf
      rw [if_neg hf]
      exact evBinNil_lift h
  · cases h
end Go.Ev
