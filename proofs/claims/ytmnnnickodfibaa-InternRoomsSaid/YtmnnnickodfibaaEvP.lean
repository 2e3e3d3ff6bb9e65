/- SUMMARIES WITHOUT MEMORY: calls whose arguments and answers hold no addresses. -/
import Derived.Test.YtmnnnickodfibaaEvN
namespace Go.Ev
open Go.RowKit
variable {P : Program} {B : Nat}

theorem lt_of_cell {w : World} {a : Addr} (h : (w.cell? a).isSome = true) : a.block < w.heap.size := by
  refine Decidable.byContradiction fun hn => ?_
  have : w.heap[a.block]? = none := Array.getElem?_eq_none (by omega)
  simp [World.cell?, this] at h

theorem HRel.of_below {ρ : Rho} {H : Array AObj} {w w' : World} (h : HRel P B ρ H w) (hb : Below w.heap.size w w') : HRel P B ρ H w' := by
  refine ⟨h.glob, Nat.le_trans h.base hb.size, fun id o ho hs => ?_, h.own, fun id o ho hs => ?_⟩
  · obtain ⟨a1, a2, a3, a4⟩ := h.obj id o ho hs
    refine ⟨a1, a2, Nat.lt_of_lt_of_le a3 hb.size, fun j hj => ?_⟩
    obtain ⟨c', b1, b2, b3⟩ := a4 j hj
    exact ⟨c', by rw [(below_cells hb ⟨(ρ id).blk, (ρ id).shift + j, none⟩ a3).1]; exact b1, b2, b3⟩
  · obtain ⟨a1, a2, a3⟩ := h.head id o ho hs
    refine ⟨fun j hj => ?_, a2, a3⟩
    obtain ⟨b1, b2⟩ := a1 j hj
    have := below_cells hb _ (lt_of_cell b1)
    rw [this.1, this.2]
    exact ⟨b1, b2⟩

/-- One path of a run: what it answers, and under which conditions. -/
noncomputable def evRun (P : Program) (E : Env) (n f : Nat) (args : List Value) (g : Nat) (path : Option (List Ans)) : Option (Value × List Prop) :=
  match evCall P E n f ⟨args⟩ (stOf g path) with
  | some (v, s) => some (v, s.cons)
  | none => none

/-- What a path answers where its conditions hold. -/
theorem calls_of_run {E : Env} (hE : E.Sound P) (hP : Good P) {n f : Nat} {fn : Func} {c : Code} {args : List Value} {path : Option (List Ans)} {v : Value} {cs : List Prop}
    (hf : P.funcs[f]? = some fn) (hb : fn.body = some c) (h : evRun P E n f args P.globals.size path = some (v, cs)) (hh : ∀ p ∈ cs, p) (hv : flat v = true) (ha : flatL args = true) (W : World) :
    Calls P f ⟨args⟩ W fun e W' => e = .returned v ∧ Below W.heap.size W W' := by
  unfold evRun at h
  split at h
  case h_2 => cases h
  rename_i v0 s0 hs
  simp only [Option.some.injEq, Prod.mk.injEq] at h
  obtain ⟨rfl, rfl⟩ := h
  exact calls_of_ev hE hP hf hb hs hh hv ha W

/-- 'g' tells what a call of 'f' answers, for arguments without addresses, where what it asks holds; nothing that was there turns. -/
abbrev PFun := List Value → Option (Option Bool × Value)
def asked : Option Bool → Prop
  | none => True
  | some b => b = true
def PureSum (P : Program) (f : FuncId) (g : PFun) : Prop :=
  ∀ (args : List Value) (p : Option Bool) (v : Value), g args = some (p, v) → asked p → flatL args = true → flat v = true ∧ ∀ W : World,
    match (callFunc f ⟨args⟩).run P W with
    | .ok (.value v') w' => v' = v ∧ w' = W
    | .ok (.enter f' a') w' => w' = W ∧ Calls P f' a' W fun e W' => e = .returned v ∧ Below W.heap.size W W'
    | _ => False

theorem PureSum.of_calls {f : FuncId} {fn : Func} {c : Code} {g : PFun} (hf : P.funcs[f]? = some fn) (hn : (fn.name != "runtime.NumGoroutine") = true) (hb : fn.body = some c)
    (h : ∀ (args : List Value) (p : Option Bool) (v : Value), g args = some (p, v) → asked p → flatL args = true → flat v = true ∧ ∀ W : World, Calls P f ⟨args⟩ W fun e W' => e = .returned v ∧ Below W.heap.size W W') : PureSum P f g := by
  intro args p v hg hp ha
  obtain ⟨h1, h2⟩ := h args p v hg hp ha
  refine ⟨h1, fun W => ?_⟩
  rw [callFunc_enter hf hn hb]
  exact ⟨rfl, h2 W⟩

def askP (s : St) : Option Bool → Option St
  | none => some s
  | some b => need s b
/-- The answer, or, on a path, the name that the path gives it. -/
def asName (s : St) (v : Value) : Option (Value × St) :=
  match s.path with
  | some (.as u :: π) => if flat u then some (u, { s with path := some π, cons := (v = u) :: s.cons }) else none
  | _ => force s v fun v => some (v, s)
theorem asName_spec {s s' : St} {v u : Value} (h : asName s v = some (u, s')) : Same s s' ∧ (s'.Holds → v = u) := by
  unfold asName at h
  split at h
  · split at h
    · simp only [Option.some.injEq, Prod.mk.injEq] at h
      obtain ⟨rfl, rfl⟩ := h
      exact ⟨⟨rfl, rfl, [_], rfl⟩, fun hh => hh _ (by simp)⟩
    · cases h
  · rw [force_eq] at h
    simp only [Option.some.injEq, Prod.mk.injEq] at h
    obtain ⟨rfl, rfl⟩ := h
    exact ⟨.refl _, fun _ => rfl⟩
def pureCall (g : PFun) (args : Array Value) (s : St) : Option (Value × St) :=
  match g args.toList with
  | some (p, v) => if flatL args.toList then (match askP s p with
    | some s => asName s v
    | none => none) else none
  | none => none

def lookF : List (FuncId × PFun) → FuncId → Option PFun
  | [], _ => none
  | (g, x) :: r, f => bif Nat.beq g f then some x else lookF r f
def pureEnv (l : List (FuncId × PFun)) : Env :=
  { call := fun f => match lookF l f with
      | some g => some (pureCall g)
      | none => none
    blk := fun _ _ => none }

/-- Each of a list of summaries holds. -/
def PureSums (P : Program) : List (FuncId × PFun) → Prop
  | [] => True
  | (f, g) :: r => PureSum P f g ∧ PureSums P r

theorem PureSums.look : ∀ {l : List (FuncId × PFun)}, PureSums P l → ∀ {f g}, lookF l f = some g → PureSum P f g
  | [], _, _, _, h => by cases h
  | (f0, g0) :: r, hs, f, g, h => by
    unfold lookF at h
    cases hb : Nat.beq f0 f with
    | true =>
      rw [hb] at h
      simp only [cond, Option.some.injEq] at h
      have := Nat.eq_of_beq_eq_true hb
      subst this; subst h; exact hs.1
    | false =>
      rw [hb] at h
      exact PureSums.look hs.2 h

theorem askP_spec {s s' : St} {p : Option Bool} (h : askP s p = some s') : Same s s' ∧ (s'.Holds → asked p) := by
  cases p with
  | none => simp only [askP, Option.some.injEq] at h; subst h; exact ⟨.refl _, fun _ => trivial⟩
  | some b => exact need_spec h

theorem pureCall_sound {f : FuncId} {g : PFun} (hp : PureSum P f g) : CallSound P (fun f' args s => if f' = f then pureCall g args s else none) ∧ (∀ args s v s', pureCall g args s = some (v, s') → Grows s s') := by
  refine ⟨fun f' args s v s' h hh B ρ w args' hr ha => ?_, fun args s v s' h => ?_⟩
  · by_cases hg : f' = f
    case neg => simp [hg] at h
    subst hg
    simp only [if_true] at h
    unfold pureCall at h
    split at h
    case h_2 => cases h
    rename_i p0 v0 hv0
    split at h
    case isFalse => cases h
    rename_i hfl
    split at h
    case h_2 => cases h
    rename_i s1 hs1
    obtain ⟨hsame1, hask⟩ := askP_spec hs1
    obtain ⟨hsame2, hname⟩ := asName_spec h
    obtain rfl := hname hh
    have hsame := hsame1.trans hsame2
    obtain ⟨h1, h2⟩ := hp args.toList p0 v0 hv0 (hask (hsame2.holds hh)) hfl
    have hargs : args' = ⟨args.toList⟩ := Array.ext' (ha.eq_of_flat hfl)
    have h2 := h2 w
    rw [← hargs] at h2
    have hr1 : HRel P B ρ s'.heap w := by rw [hsame.heap]; exact hr
    split at h2
    · rename_i heq
      rw [heq]
      obtain ⟨rfl, rfl⟩ := h2
      exact ⟨ρ, .flat h1, hr1, hsame.step _ _⟩
    · rename_i heq
      rw [heq]
      obtain ⟨rfl, h2⟩ := h2
      refine ⟨rfl, h2.mono fun e W' ⟨he, hb⟩ => ⟨v0, ρ, he, .flat h1, hr1.of_below hb, ?_⟩⟩
      refine (hsame.step ρ _).trans ⟨fun _ _ => rfl, Nat.le_refl _, Nat.le_refl _, fun _ _ _ o' h => ⟨o', h, id, .inl rfl⟩, hb.mono hr.base, ⟨[], rfl⟩, fun id o o' h1 h2 => ?_⟩
      rw [h1] at h2; cases h2
      exact ⟨Nat.le_refl _, fun hst => ⟨hst, fun _ j _ => (below_cells hb _ (by exact (hr1.obj id o h1 hst).2.2.1)).1⟩⟩
    · cases h2
  · unfold pureCall at h
    split at h
    case h_2 => cases h
    split at h
    case isFalse => cases h
    split at h
    case h_2 => cases h
    rename_i s1 hs1
    exact ((askP_spec hs1).1.trans (asName_spec h).1).cons

theorem pureEnv_sound {l : List (FuncId × PFun)} (hl : PureSums P l) : (pureEnv l).Sound P where
  call f σ h := by
    simp only [pureEnv] at h
    split at h
    case h_2 => cases h
    rename_i g hg
    simp only [Option.some.injEq] at h
    subst h
    exact pureCall_sound (hl.look hg)
  blk _ _ _ _ h := by cases h

/-- Summaries of calls, and then those of pure ones. -/
def orEnv (E : Env) (l : List (FuncId × PFun)) : Env :=
  { E with call := fun f => match lookF l f with
      | some g => some (pureCall g)
      | none => E.call f }
theorem orEnv_sound {E : Env} (hE : E.Sound P) {l : List (FuncId × PFun)} (hl : PureSums P l) : (orEnv E l).Sound P where
  call f σ h := by
    simp only [orEnv] at h
    split at h
    · rename_i g hg
      simp only [Option.some.injEq] at h
      subst h
      exact pureCall_sound (hl.look hg)
    · exact hE.call f σ h
  blk := hE.blk
end Go.Ev
