/- SUMMARIES BY ALL PATHS: a tree of the tests that a run makes, and what each way answers. -/
import Derived.Test.YtmnnnickodfibaaEvP
namespace Go.Ev
open Go.RowKit
variable {P : Program}

inductive PT where
  | leaf (v : Value)
  | test (b : Bool) (t e : PT)
  | need (b d : Bool) (t : PT)
  | reck (n : Nat) (t : PT)
def PT.rows : PT → List Ans → List Prop → List (List Ans × Value × List Prop)
  | .leaf v, p, c => [(p.reverse, v, c)]
  | .test b t e, p, c => t.rows (.bit true :: p) ((b = true) :: c) ++ e.rows (.bit false :: p) ((b = false) :: c)
  | .need b d t, p, c => t.rows (.bit d :: p) ((b = d) :: c)
  | .reck n t, p, c => t.rows (.reck n :: p) c
def PT.val : PT → Option Value
  | .leaf v => some v
  | .test b t e => match b with
    | true => t.val
    | false => e.val
  | .need b d t => match b, d with
    | true, true => t.val
    | false, false => t.val
    | _, _ => none
  | .reck _ t => t.val
/-- Each way of the tree is one that the run goes. -/
def PT.Fits (run : List Ans → Option (Value × List Prop)) (T : PT) : Prop := (T.rows [] []).map (fun r => run r.1) = (T.rows [] []).map fun r => some r.2
theorem PT.pick : ∀ (T : PT) (p : List Ans) (c : List Prop) (v : Value), T.val = some v → (∀ x ∈ c, x) → ∃ π cs, (π, v, cs) ∈ T.rows p c ∧ ∀ x ∈ cs, x
  | .leaf v0, p, c, v, h, hc => by
    simp only [PT.val, Option.some.injEq] at h
    subst h
    exact ⟨p.reverse, c, List.mem_singleton.2 rfl, hc⟩
  | .test true t e, p, c, v, h, hc => by
    obtain ⟨π, cs, h1, h2⟩ := PT.pick t (.bit true :: p) ((true = true) :: c) v h (fun x hx => by rcases List.mem_cons.1 hx with rfl | hx; exact rfl; exact hc x hx)
    exact ⟨π, cs, List.mem_append_left _ h1, h2⟩
  | .test false t e, p, c, v, h, hc => by
    obtain ⟨π, cs, h1, h2⟩ := PT.pick e (.bit false :: p) ((false = false) :: c) v h (fun x hx => by rcases List.mem_cons.1 hx with rfl | hx; exact rfl; exact hc x hx)
    exact ⟨π, cs, List.mem_append_right _ h1, h2⟩
  | .need true true t, p, c, v, h, hc => PT.pick t (.bit true :: p) ((true = true) :: c) v h (fun x hx => by rcases List.mem_cons.1 hx with rfl | hx; exact rfl; exact hc x hx)
  | .need false false t, p, c, v, h, hc => PT.pick t (.bit false :: p) ((false = false) :: c) v h (fun x hx => by rcases List.mem_cons.1 hx with rfl | hx; exact rfl; exact hc x hx)
  | .need true false t, p, c, v, h, hc => by cases h
  | .need false true t, p, c, v, h, hc => by cases h
  | .reck n t, p, c, v, h, hc => PT.pick t (.reck n :: p) c v h hc
theorem PT.calls {E : Env} (hE : E.Sound P) (hP : Good P) {n f : Nat} {fn : Func} {c : Code} {args : List Value} {v : Value} {T : PT} (hf : P.funcs[f]? = some fn) (hb : fn.body = some c)
    (h : T.Fits fun π => evRun P E n f args P.globals.size (some π)) (ht : T.val = some v) (hv : flat v = true) (ha : flatL args = true) (W : World) :
    Calls P f ⟨args⟩ W fun e W' => e = .returned v ∧ Below W.heap.size W W' := by
  obtain ⟨π, cs, h1, h2⟩ := PT.pick T [] [] v ht (fun x hx => by cases hx)
  have h3 : evRun P E n f args P.globals.size (some π) = some (v, cs) := List.map_eq_map_iff.1 h (π, v, cs) h1
  exact calls_of_run hE hP hf hb h3 h2 hv ha W
/-- A summary by a tree. -/
theorem PureSum.of_tree {E : Env} (hE : E.Sound P) (hP : Good P) {n f : Nat} {fn : Func} {c : Code} {g : PFun} (hf : P.funcs[f]? = some fn) (hn : (fn.name != "runtime.NumGoroutine") = true) (hb : fn.body = some c)
    (h : ∀ (args : List Value) (p : Option Bool) (v : Value), g args = some (p, v) → asked p → flatL args = true → flat v = true ∧ ∃ T : PT, (T.Fits fun π => evRun P E n f args P.globals.size (some π)) ∧ T.val = some v) : PureSum P f g :=
  .of_calls hf hn hb fun args p v hg hp ha => by
    obtain ⟨h1, T, h2, h3⟩ := h args p v hg hp ha
    exact ⟨h1, fun W => T.calls hE hP hf hb h2 h3 h1 ha W⟩

/-- The same behind a beginning of the path, with what that asks. -/
def PT.FitsFrom (run : List Ans → Option (Value × List Prop)) (c : List Prop) (T : PT) : Prop := (T.rows [] c).map (fun r => run r.1) = (T.rows [] c).map fun r => some r.2
theorem PT.callsFrom {E : Env} (hE : E.Sound P) (hP : Good P) {n f : Nat} {fn : Func} {c : Code} {args : List Value} {v : Value} {T : PT} {pre : List Ans} {cs0 : List Prop} (hf : P.funcs[f]? = some fn) (hb : fn.body = some c)
    (h : T.FitsFrom (fun π => evRun P E n f args P.globals.size (some (pre ++ π))) cs0) (h0 : ∀ x ∈ cs0, x) (ht : T.val = some v) (hv : flat v = true) (ha : flatL args = true) (W : World) :
    Calls P f ⟨args⟩ W fun e W' => e = .returned v ∧ Below W.heap.size W W' := by
  obtain ⟨π, cs, h1, h2⟩ := PT.pick T [] cs0 v ht h0
  have h3 : evRun P E n f args P.globals.size (some (pre ++ π)) = some (v, cs) := List.map_eq_map_iff.1 h (π, v, cs) h1
  exact calls_of_run hE hP hf hb h3 h2 hv ha W
theorem PT.val_leaf (v : Value) : (PT.leaf v).val = some v := rfl
theorem PT.val_test (b : Bool) (t e : PT) : (PT.test b t e).val = if b = true then t.val else e.val := by cases b <;> rfl
theorem PT.val_need (b d : Bool) (t : PT) : (PT.need b d t).val = if b = d then t.val else none := by cases b <;> cases d <;> rfl
theorem PT.val_reck (n : Nat) (t : PT) : (PT.reck n t).val = t.val := rfl
end Go.Ev
