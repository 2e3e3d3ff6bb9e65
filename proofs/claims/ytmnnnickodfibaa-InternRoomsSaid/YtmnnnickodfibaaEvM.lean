/- THE EVALUATOR: from what it answers to what the call does, in any memory. -/
import Derived.Test.YtmnnnickodfibaaEvL
import Derived.Lib.Bytealg
namespace Go.Ev
open Go.RowKit
variable {P : Program}

def objDead : AObj := { cells := #[], esz := 0, st := 3, prev := [] }
/-- Where a run begins: of the package-level variables nothing is known. -/
def stOf (g : Nat) (path : Option (List Ans)) : St := { heap := ⟨List.replicate g objDead⟩, low := 0, path, cons := [] }
def rhoId : Rho := fun i => ⟨i, 0, 0, 0, 0, false⟩

theorem hrel_dead (W : World) (path : Option (List Ans)) : HRel P W.heap.size rhoId (stOf P.globals.size path).heap W := by
  have dead : ∀ (id : Nat) (o : AObj), (stOf P.globals.size path).heap[id]? = some o → o.st = 3 := by
    intro id o ho
    simp only [stOf, List.getElem?_toArray, List.getElem?_replicate] at ho
    split at ho
    · simp only [Option.some.injEq] at ho; subst ho; rfl
    · cases ho
  refine ⟨⟨by simp [stOf], fun g _ => ⟨rfl, rfl, rfl⟩⟩, Nat.le_refl _, fun id o ho h => ?_, fun id o ho h => ?_, fun id o ho h => ?_⟩
  · have := dead id o ho; omega
  · have := dead id o ho; omega
  · have := dead id o ho; omega

theorem LRel.refl_flat {n : Nat} {ρ : Rho} : ∀ {l : List Value}, flatL l = true → LRel n ρ l l
  | [], _ => .nil
  | v :: l, h => by
    simp only [flatL, Bool.and_eq_true] at h
    exact .cons (.flat h.1) (LRel.refl_flat h.2)

/-- WHAT IT ANSWERS IS WHAT THE CALL DOES: arguments and result without addresses. -/
theorem calls_of_ev {E : Env} (hE : E.Sound P) (hP : Good P) {n f : Nat} {fn : Func} {c : Code} {args : Array Value} {path : Option (List Ans)} {v : Value} {s' : St}
    (hf : P.funcs[f]? = some fn) (hb : fn.body = some c) (h : evCall P E n f args (stOf P.globals.size path) = some (v, s')) (hh : s'.Holds) (hv : flat v = true) (ha : flatL args.toList = true) (W : World) :
    Calls P f args W fun e W' => e = .returned v ∧ Below W.heap.size W W' := by
  have hmem : fn ∈ P.funcs.toList := by
    obtain ⟨hlt, rfl⟩ := Array.getElem?_eq_some_iff.1 hf
    simp
  have := evCall_sound hE hP n f args _ v s' h hh W.heap.size rhoId W args (hrel_dead W path) (LRel.refl_flat ha)
  rw [callFunc_enter hf (List.all_eq_true.1 hP.names fn hmem) hb] at this
  obtain ⟨_, hc⟩ := this
  refine hc.mono fun e W' he => ?_
  obtain ⟨v', ρ', rfl, h1, _, h3⟩ := he
  have := h1.eq_of_flat hv
  subst this
  exact ⟨rfl, h3.below⟩

def noEnv : Env := { call := fun _ => none, blk := fun _ _ => none }
theorem noEnv_sound : noEnv.Sound P where
  call _ _ h := by cases h
  blk _ _ _ _ h := by cases h

/-- A closed run: it answers true, and asks nothing. -/
noncomputable def runTrue (P : Program) (E : Env) (n f : Nat) (args : Array Value) (g : Nat) : Bool :=
  match evCall P E n f args (stOf g none) with
  | some (.bool true, s) => s.cons.isEmpty
  | _ => false
theorem calls_true {E : Env} (hE : E.Sound P) (hP : Good P) {n f : Nat} {fn : Func} {c : Code} {args : Array Value} (hf : P.funcs[f]? = some fn) (hb : fn.body = some c)
    (h : runTrue P E n f args P.globals.size = true) (ha : flatL args.toList = true) (W : World) : Calls P f args W fun e W' => e = .returned (.bool true) ∧ Below W.heap.size W W' := by
  unfold runTrue at h
  split at h
  · rename_i s hs
    refine calls_of_ev hE hP hf hb hs (fun p hp => ?_) rfl ha W
    rw [List.isEmpty_iff.1 h] at hp; cases hp
  · cases h

/-- A function without a body that the model answers itself. -/
theorem callFunc_extern {f : FuncId} {fn : Func} {e : Array Value → Sem Value} {args : Array Value} {W : World} (hf : P.funcs[f]? = some fn) (hn : (fn.name != "runtime.NumGoroutine") = true) (hb : fn.body = none)
    (h1 : Extern.findNext fn = none) (h2 : Extern.find fn = some e) : (callFunc f args).run P W = ((do pure (.value (← e args))) : Sem Next).run P W := by
  have : ¬ fn.name = "runtime.NumGoroutine" := by simpa using hn
  simp [callFunc, Sem.run_bind, hf, this, hb, h1, h2]

/-- strings.IndexByte's core, by its own words. -/
def ixSum (args : Array Value) (s : St) : Option (Value × St) :=
  match args.toList with
  | [.string t, .int .u8 c] => force s (.int .i64 (Lib.indexByte t.data.toList c.toNat.toUInt8)) fun v => some (v, s)
  | _ => none
def ixEnv (f : Nat) : Env := { call := fun g => if g = f then some ixSum else none, blk := fun _ _ => none }
theorem ixSum_sound {f : FuncId} {fn : Func} (hf : P.funcs[f]? = some fn) (hn : (fn.name != "runtime.NumGoroutine") = true) (hb : fn.body = none)
    (h1 : Extern.findNext fn = none) (h2 : Extern.find fn = some Extern.BytealgIndexByte.indexByte) :
    CallSound P (fun g args s => if g = f then ixSum args s else none) ∧ (∀ args s v s', ixSum args s = some (v, s') → Grows s s') := by
  refine ⟨fun g args s v s' h hh B ρ w args' hr ha => ?_, fun args s v s' h => ?_⟩
  · by_cases hg : g = f
    case neg => simp [hg] at h
    simp only [hg, if_true] at h ⊢
    unfold ixSum at h
    split at h
    case h_2 => cases h
    rename_i t c hargs
    rw [force_eq] at h
    simp only [Option.some.injEq, Prod.mk.injEq] at h
    obtain ⟨rfl, rfl⟩ := h
    rw [hargs] at ha
    have := ha.eq_of_flat rfl
    have hargs' : args' = #[.string t, .int .u8 c] := Array.ext' this
    rw [hargs', callFunc_extern hf hn hb h1 h2, Sem.run_bind, Lib.run_indexByteString]
    exact ⟨ρ, .flat rfl, hr, .refl _ _ _ _⟩
  · unfold ixSum at h
    split at h
    · rw [force_eq] at h
      simp only [Option.some.injEq, Prod.mk.injEq] at h
      obtain ⟨_, rfl⟩ := h
      exact .refl _
    · cases h
theorem ixEnv_sound {f : FuncId} {fn : Func} (hf : P.funcs[f]? = some fn) (hn : (fn.name != "runtime.NumGoroutine") = true) (hb : fn.body = none)
    (h1 : Extern.findNext fn = none) (h2 : Extern.find fn = some Extern.BytealgIndexByte.indexByte) : (ixEnv f).Sound P where
  call g σ h := by
    simp only [ixEnv] at h
    split at h
    · rename_i hg; subst hg; cases h; exact ixSum_sound hf hn hb h1 h2
    · cases h
  blk _ _ _ _ h := by cases h
end Go.Ev
