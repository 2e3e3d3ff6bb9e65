/- SUMMARIES OVER A ROW: a call that is handed a slice of numbers, reads it, and answers always the same. -/
import Derived.Test.YtmnnnickodfibaaEvR
namespace Go.Ev
open Go.RowKit
variable {P : Program}

/-- A slice of numbers: none, an empty one, or a row. -/
def IntsAny (W : World) (k : IntKind) (v : Value) : Prop := IntsArg W k v ∨ ∃ x, v = .slice (some x) 0 0
def lenOf : Value → Nat
  | .slice _ l _ => l
  | _ => 0
structure RowSum (P : Program) (f : FuncId) (k : IntKind) (most : Nat) (ans : Value) : Prop where
  flat : flat ans = true
  calls : ∃ fn c, P.funcs[f]? = some fn ∧ (fn.name != "runtime.NumGoroutine") = true ∧ fn.body = some c ∧ ∀ (W : World) (v : Value), IntsAny W k v → lenOf v ≤ most → Calls P f ⟨[v]⟩ W fun e W' => e = .returned ans ∧ Below W.heap.size W W'

def intOk (k : IntKind) : Value → Bool
  | .int k' n => decide (k' = k) && (Lit.int k n).wf
  | _ => false
def intVal : Value → Int
  | .int _ n => n
  | _ => 0
theorem intOk_eq {k : IntKind} {v : Value} (h : intOk k v = true) : v = .int k (intVal v) ∧ (Lit.int k (intVal v)).wf = true := by
  unfold intOk at h
  split at h
  · rename_i k' n
    simp only [Bool.and_eq_true, decide_eq_true_eq] at h
    obtain ⟨rfl, hw⟩ := h
    exact ⟨rfl, hw⟩
  · cases h
def rowAsk (k : IntKind) (most len : Nat) (cs : List Value) (s : St) : Option St :=
  match s.path with
  | none => match Nat.ble len most && cs.all (intOk k) with
    | true => some s
    | false => none
  | some _ => some { s with cons := (len ≤ most ∧ cs.all (intOk k) = true) :: s.cons }
noncomputable def rowCall (k : IntKind) (most : Nat) (ans : Value) (args : Array Value) (s : St) : Option (Value × St) :=
  match args.toList with
  | [.slice none 0 0] => some (ans, s)
  | [.slice (some ⟨b, off, none⟩) len _] =>
    match live s b with
    | some o => if o.esz = 1 then match rowAsk k most len (exQ o.cells off len).toList s with
        | some s => some (ans, s)
        | none => none
      else none
    | none => none
  | _ => none
theorem rowAsk_spec {k : IntKind} {most len : Nat} {cs : List Value} {s s' : St} (h : rowAsk k most len cs s = some s') : Same s s' ∧ (s'.Holds → len ≤ most ∧ ∀ v ∈ cs, intOk k v = true) := by
  unfold rowAsk at h
  split at h
  · split at h
    · rename_i hall
      simp only [Option.some.injEq] at h; subst h
      rw [Bool.and_eq_true] at hall
      exact ⟨.refl _, fun _ => ⟨Nat.le_of_ble_eq_true hall.1, List.all_eq_true.1 hall.2⟩⟩
    · cases h
  · simp only [Option.some.injEq] at h; subst h
    exact ⟨⟨rfl, rfl, [_], rfl⟩, fun hh => have := hh _ (List.mem_cons_self ..); ⟨this.1, List.all_eq_true.1 this.2⟩⟩
theorem live_get {s : St} {b : Nat} {o : AObj} (h : live s b = some o) : s.heap[b]? = some o ∧ o.st < 3 := by
  unfold live at h
  simp only [getQ_eq] at h
  split at h
  · split at h
    · rename_i h1 h2
      simp only [Option.some.injEq] at h; subst h
      exact ⟨h1, h2⟩
    · cases h
  · cases h
/-- What the run sees of a row is what lies there. -/
theorem row_real {B : Nat} {ρ : Rho} {s : St} {w : World} {k : IntKind} {b off len c : Nat} {o : AObj} {x' : Value} (hr : HRel P B ρ s.heap w) (ho : s.heap[b]? = some o) (hst : o.st < 3) (he : o.esz = 1)
    (hv : VRel s.heap.size ρ (.slice (some ⟨b, off, none⟩) len c) x') (hc : ∀ v ∈ (o.cells.extract off (off + len)).toList, intOk k v = true) : IntsAny w k x' ∧ lenOf x' = len := by
  obtain ⟨g1, g2, g3, g4⟩ := hr.obj b o ho hst
  cases hv with
  | any h _ => cases h
  | flat hf => cases hf
  | slice0 => exact ⟨Or.inr ⟨_, rfl⟩, rfl⟩
  | slice hb hez h1 h2 h3 h4 =>
    rename_i c'
    refine ⟨?_, rfl⟩
    left; right
    rw [g2, he, Nat.mul_one] at h1 h3
    rw [g1] at h1
    have hlen : (o.cells.extract off (off + len)).toList.length = len := by simp; omega
    refine ⟨_, len, c', (o.cells.extract off (off + len)).toList.map intVal, ⟨(ρ b).blk, (ρ b).shift + off, len, 1, (ρ b).shift + off + c', false⟩, rfl, by rw [List.length_map, hlen], h4, ?_, ?_, rfl, rfl, rfl⟩
    · intro n hn
      obtain ⟨v, hv, rfl⟩ := List.mem_map.1 hn
      exact (intOk_eq (hc v hv)).2
    · refine ⟨by rw [List.length_map, List.length_map, hlen], rfl, rfl, g3, fun j v hj => ?_⟩
      rw [List.map_map, List.getElem?_map] at hj
      cases hcj : (o.cells.extract off (off + len)).toList[j]? with
      | none => rw [hcj] at hj; cases hj
      | some u =>
        rw [hcj] at hj
        simp only [Option.map_some, Option.some.injEq, Function.comp_apply] at hj
        have hmem := List.mem_of_getElem? hcj
        obtain ⟨hu, _⟩ := intOk_eq (hc u hmem)
        rw [← hu] at hj
        subst hj
        have hjl : j < len := by have := (List.getElem?_eq_some_iff.1 hcj).1; omega
        have hj2 : off + j < o.cells.size := by omega
        have hcell : o.cells[off + j] = u := by
          have : (o.cells.extract off (off + len))[j]? = some u := by rw [← Array.getElem?_toList]; exact hcj
          rw [Array.getElem?_extract] at this
          split at this
          · rw [Array.getElem?_eq_getElem hj2] at this
            exact Option.some.inj this
          · cases this
        obtain ⟨cc, a1, a2, a3⟩ := g4 (off + j) hj2
        rw [hcell] at a2 a3
        have hfl : flat u = true := by rw [hu]; rfl
        have := a3.eq_of_flat hfl
        subst this
        refine ⟨?_, a2, hfl⟩
        show w.cell? ⟨(ρ b).blk, (ρ b).shift + off + j, none⟩ = some _
        rw [Nat.add_assoc]; exact a1
theorem rowCall_sound {f : FuncId} {k : IntKind} {most : Nat} {ans : Value} (hp : RowSum P f k most ans) : CallSound P (fun f' args s => if f' = f then rowCall k most ans args s else none) ∧ (∀ args s v s', rowCall k most ans args s = some (v, s') → Grows s s') := by
  refine ⟨fun f' args s v s' h hh B ρ w args' hr ha => ?_, fun args s v s' h => ?_⟩
  · by_cases hg : f' = f
    case neg => simp [hg] at h
    subst hg
    simp only [if_true] at h
    obtain ⟨fn, c, hf, hn, hb, hcalls⟩ := hp.calls
    have fin : ∀ {x' : Value}, args'.toList = [x'] → IntsAny w k x' → lenOf x' ≤ most → Same s s' → v = ans → OpGives P B ρ s w v s' ((callFunc f' args').run P w) := by
      intro x' hargs hint hlen hsame hv
      subst hv
      have : args' = ⟨[x']⟩ := Array.ext' hargs
      subst this
      rw [callFunc_enter hf hn hb]
      refine ⟨rfl, (hcalls w x' hint hlen).mono fun e W' ⟨he, hbel⟩ => ⟨v, ρ, he, .flat hp.flat, ?_, ?_⟩⟩
      · rw [hsame.heap]; exact hr.of_below hbel
      · have hr1 : HRel P B ρ s'.heap w := by rw [hsame.heap]; exact hr
        refine (hsame.step ρ _).trans ⟨fun _ _ => rfl, Nat.le_refl _, Nat.le_refl _, fun _ _ _ o' h => ⟨o', h, id, .inl rfl⟩, hbel.mono hr.base, ⟨[], rfl⟩, fun id o o' h1 h2 => ?_⟩
        rw [h1] at h2; cases h2
        exact ⟨Nat.le_refl _, fun hst => ⟨hst, fun _ j _ => (below_cells hbel _ (by exact (hr1.obj id o h1 hst).2.2.1)).1⟩⟩
    unfold rowCall at h
    simp only [exQ_eq] at h
    split at h
    · rename_i hargs
      simp only [Option.some.injEq, Prod.mk.injEq] at h
      obtain ⟨rfl, rfl⟩ := h
      rw [hargs] at ha
      have hx := ha.eq_of_flat rfl
      exact fin hx (Or.inl (Or.inl rfl)) (Nat.zero_le _) (.refl _) rfl
    · rename_i b off len c0 hargs
      split at h
      case h_2 => cases h
      rename_i o ho
      split at h
      case isFalse => cases h
      rename_i he
      split at h
      case h_2 => cases h
      rename_i s1 hs1
      simp only [Option.some.injEq, Prod.mk.injEq] at h
      obtain ⟨rfl, rfl⟩ := h
      obtain ⟨hsame, hok⟩ := rowAsk_spec hs1
      obtain ⟨ho1, ho2⟩ := live_get ho
      rw [hargs] at ha
      cases hl : args'.toList with
      | nil => rw [hl] at ha; cases ha
      | cons x' r =>
        rw [hl] at ha
        cases ha with
        | cons h1 h2 =>
          cases h2
          obtain ⟨r1, r2⟩ := row_real hr ho1 ho2 he h1 (hok hh).2
          exact fin hl r1 (by rw [r2]; exact (hok hh).1) hsame rfl
    · cases h
  · unfold rowCall at h
    split at h
    · simp only [Option.some.injEq, Prod.mk.injEq] at h
      obtain ⟨_, rfl⟩ := h
      exact .refl _
    · split at h
      case h_2 => cases h
      split at h
      case isFalse => cases h
      split at h
      case h_2 => cases h
      rename_i s1 hs1
      simp only [Option.some.injEq, Prod.mk.injEq] at h
      obtain ⟨_, rfl⟩ := h
      exact (rowAsk_spec hs1).1.cons
    · cases h

/-- Rows' summaries ahead of others. -/
noncomputable def rowEnv (E : Env) (f : FuncId) (k : IntKind) (most : Nat) (ans : Value) : Env :=
  { E with call := fun g => if g = f then some (rowCall k most ans) else E.call g }
theorem rowEnv_sound {E : Env} (hE : E.Sound P) {f : FuncId} {k : IntKind} {most : Nat} {ans : Value} (h : RowSum P f k most ans) : (rowEnv E f k most ans).Sound P where
  call g σ hg := by
    simp only [rowEnv] at hg
    split at hg
    · rename_i he
      subst he
      simp only [Option.some.injEq] at hg
      subst hg
      exact rowCall_sound h
    · exact hE.call g σ hg
  blk := hE.blk

/-- A call that is handed an empty slice, wherever it lies. -/
def rhoNone (g : Nat) : Rho := fun i => if i < g then ⟨i, 0, 0, 0, 0, false⟩ else ⟨i, 0, 0, 1, 0, false⟩
def stNone (g : Nat) (path : Option (List Ans)) : St := { heap := ⟨List.replicate (g + 1) objDead⟩, low := 0, path, cons := [] }
theorem hrel_none (W : World) (path : Option (List Ans)) : HRel P W.heap.size (rhoNone P.globals.size) (stNone P.globals.size path).heap W := by
  have dead : ∀ (id : Nat) (o : AObj), (stNone P.globals.size path).heap[id]? = some o → o.st = 3 := by
    intro id o ho
    simp only [stNone, List.getElem?_toArray, List.getElem?_replicate] at ho
    split at ho
    · simp only [Option.some.injEq] at ho; subst ho; rfl
    · cases ho
  refine ⟨⟨by simp [stNone], fun g hg => ?_⟩, Nat.le_refl _, fun id o ho h => ?_, fun id o ho h => ?_, fun id o ho h => ?_⟩
  · unfold rhoNone; rw [if_pos hg]; exact ⟨rfl, rfl, rfl⟩
  · have := dead id o ho; omega
  · have := dead id o ho; omega
  · have := dead id o ho; omega
noncomputable def runNone (P : Program) (E : Env) (n f : Nat) (g : Nat) : Bool :=
  match evCall P E n f ⟨[.slice (some ⟨g, 0, none⟩) 0 0]⟩ (stNone g none) with
  | some (.bool true, s) => s.cons.isEmpty
  | _ => false
theorem calls_of_none {E : Env} (hE : E.Sound P) (hP : Good P) {n f : Nat} {fn : Func} {c : Code} (hf : P.funcs[f]? = some fn) (hb : fn.body = some c) (h : runNone P E n f P.globals.size = true) (W : World) (x : Addr) :
    Calls P f ⟨[.slice (some x) 0 0]⟩ W fun e W' => e = .returned (.bool true) ∧ Below W.heap.size W W' := by
  unfold runNone at h
  split at h
  case h_2 => cases h
  rename_i s0 hs
  have hh : s0.Holds := fun p hp => by rw [List.isEmpty_iff.1 h] at hp; cases hp
  have hmem : fn ∈ P.funcs.toList := by
    obtain ⟨hlt, rfl⟩ := Array.getElem?_eq_some_iff.1 hf
    simp
  have hρ : rhoNone P.globals.size P.globals.size = ⟨P.globals.size, 0, 0, 1, 0, false⟩ := by unfold rhoNone; rw [if_neg (Nat.lt_irrefl _)]
  have := evCall_sound hE hP n f _ _ _ s0 hs hh W.heap.size _ W ⟨[.slice (some x) 0 0]⟩ (hrel_none W none)
    (.cons (.slice0 ⟨by simp [stNone], by rw [hρ]⟩ (by rw [hρ]; exact Nat.one_pos) (by rw [hρ])) .nil)
  rw [callFunc_enter hf (List.all_eq_true.1 hP.names fn hmem) hb] at this
  obtain ⟨_, hc⟩ := this
  refine hc.mono fun e W' he => ?_
  obtain ⟨v', ρ', rfl, h1, _, h3⟩ := he
  have := h1.eq_of_flat rfl
  subst this
  exact ⟨rfl, h3.below⟩
end Go.Ev
