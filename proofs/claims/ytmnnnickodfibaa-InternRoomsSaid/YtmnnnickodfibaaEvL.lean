/- THE EVALUATOR: a call. -/
import Derived.Test.YtmnnnickodfibaaEvK
namespace Go.Ev
open Go.RowKit
variable {P : Program} {B : Nat}

/-- What is asked of the program: two looks over its text. -/
structure Good (P : Program) : Prop where
  mixed : P.follows .mixedOrders = true
  names : (P.funcs.toList.all fun fn => fn.name != "runtime.NumGoroutine") = true
  code : (P.funcs.toList.all fun fn => match fn.body with | some c => okCode c | none => true) = true

theorem callFunc_enter {f : FuncId} {fn : Func} {c : Code} {args : Array Value} {w : World} (hf : P.funcs[f]? = some fn) (hn : (fn.name != "runtime.NumGoroutine") = true) (hb : fn.body = some c) :
    (callFunc f args).run P w = .ok (.enter f args) w := by
  have : ¬ fn.name = "runtime.NumGoroutine" := by simpa using hn
  simp [callFunc, Sem.run_bind, hf, this, hb]

theorem evCall_grows {E : Env} (hE : E.Sound P) : ∀ n, CallGrows (evCall P E n) := by
  intro n
  induction n with
  | zero => intro f args s v s' h; simp [evCall] at h
  | succ n ih =>
    intro f args s v s' h
    simp only [evCall, getQ_eq, evCodeF_eq] at h
    split at h
    · exact (hE.call f _ ‹_›).2 _ _ _ _ h
    · split at h
      · cases h
      · unfold evBody at h
        split at h
        · cases h
        · split at h
          case isFalse => cases h
          have ret : ∀ {fn : Func} {t : Tr} {s1 : St}, evReturn P fn s t s1 = some (v, s') → Grows s1 s' := by
            intro fn t s1 h
            have fin : ∀ {u : Value} {s2 : St}, some (finish s u s2) = some (v, s') → s'.cons = s2.cons := by
              intro u s2 h
              simp only [Option.some.injEq] at h
              unfold finish at h
              try simp only [lenQ_eq, pushQ_eq, setQ_eq] at h
              split at h <;> (simp only [Prod.mk.injEq] at h; obtain ⟨_, rfl⟩ := h; rfl)
            unfold evReturn at h
            split at h
            · exact (evResults_grows _ _ _ _ ‹_›).of _ (fin h)
            · exact (evResults_grows _ _ _ _ ‹_›).of _ (fin h)
            · cases h
          have code : ∀ {c : Code} {fn : Func} {k : Nat} {t0 : Tr} {s0 : St} {e : AExit} {t : Tr} {s1 : St}, evCode P E (evCall P E n) f n c t0 s0 = some (e, t, s1) → Grows s0 s1 :=
            fun h => evCode_grows hE ih n _ _ _ _ _ _ h
          unfold evLeft at h
          split at h
          · rename_i hc
            have := (evCode_grows hE ih n _ _ _ _ _ _ hc).trans (ret h)
            exact this
          · rename_i hc
            have := (evCode_grows hE ih n _ _ _ _ _ _ hc).trans (ret h)
            exact this
          · cases h

theorem evCall_sound {E : Env} (hE : E.Sound P) (hP : Good P) : ∀ n, CallSound P (evCall P E n) := by
  intro n
  induction n with
  | zero => intro f args s v s' h; simp [evCall] at h
  | succ n ih =>
    intro f args s v s' h hh B ρ w args' hr ha
    simp only [evCall, getQ_eq, evCodeF_eq] at h
    split at h
    · rename_i σ hσ
      have := (hE.call f σ hσ).1 f args s v s' (by simpa using h) hh B ρ w args' hr ha
      exact this
    · split at h
      · cases h
      · rename_i fn hfn
        unfold evBody at h
        try simp only [lenQ_eq, pushQ_eq, setQ_eq] at h
        split at h
        · cases h
        · rename_i c hc
          split at h
          case isFalse => cases h
          rename_i hk
          have hmem : fn ∈ P.funcs.toList := by
            obtain ⟨hlt, rfl⟩ := Array.getElem?_eq_some_iff.1 hfn
            simp
          have hname := List.all_eq_true.1 hP.names fn hmem
          have hcode := List.all_eq_true.1 hP.code fn hmem
          simp only [hc] at hcode
          rw [callFunc_enter hfn hname hc]
          refine ⟨rfl, calls_of_wp hfn hc ?_⟩
          have hr0 : HRel P B ρ ({ s with low := s.heap.size } : St).heap w := hr
          -- the end, whichever of the two
          have ret : ∀ {t : Tr} {s1 : St} {a1 : Act} {ρ1 : Rho} {w1 : World}, evReturn P fn s t s1 = some (v, s') → a1.defers = [] → TRel s1.heap.size ρ1 t a1.tmps → HRel P B ρ1 s1.heap w1 →
              Step B ρ { s with low := s.heap.size } w ρ1 s1 w1 → a1.defers = [] ∧ ∃ u, (results fn a1.tmps).run P w1 = .ok u w1 ∧
                (∃ v' ρ', Ending.returned u = .returned v' ∧ VRel s'.heap.size ρ' v v' ∧ HRel P B ρ' s'.heap w1 ∧ Step B ρ s w ρ' s' w1) := by
            intro t s1 a1 ρ1 w1 h hd ht hR hS
            refine ⟨hd, ?_⟩
            unfold evReturn at h
            have fin : ∀ {vs vs' : List Value} {s2 : St} {v0 : Value}, evResults P t fn.results.toList s1 = some (vs, s2) → some (finish s v0 s2) = some (v, s') →
                (∀ vs' : List Value, LRel s2.heap.size ρ1 vs vs' → VRel s2.heap.size ρ1 v0 (if h : vs'.toArray.size = 1 then vs'.toArray[0] else .tuple vs'.toArray)) →
                ∃ u, (results fn a1.tmps).run P w1 = .ok u w1 ∧ (∃ v' ρ', Ending.returned u = .returned v' ∧ VRel s'.heap.size ρ' v v' ∧ HRel P B ρ' s'.heap w1 ∧ Step B ρ s w ρ' s' w1) := by
              intro vs _ s2 v0 hres hf hv0
              simp only [Option.some.injEq] at hf
              have hh2 : s2.Holds := by
                have hcons : s'.cons = s2.cons := by
                  unfold finish at hf
                  try simp only [lenQ_eq, pushQ_eq, setQ_eq] at hf
                  split at hf <;> (simp only [Prod.mk.injEq] at hf; obtain ⟨_, rfl⟩ := hf; rfl)
                intro p hp; exact hh p (by rw [hcons]; exact hp)
              obtain ⟨hs, vs', e1, e2⟩ := evResults_spec _ _ _ _ hres hh2 hR ht
              have hrun := results_run e1
              obtain ⟨rfl, _, ρ2, q1, q2, q3⟩ := finish_spec (s0 := { s with low := s.heap.size }) hf hr rfl rfl rfl (hv0 vs' (by rw [hs.heap]; exact e2)) (by rw [hs.heap]; exact hR) (hS.trans (hs.step ρ1 w1))
              exact ⟨_, hrun, _, ρ2, rfl, q1, q2, q3⟩
            split at h
            · rename_i v0 s2 hres
              refine fin (vs' := []) hres h fun vs' hl => ?_
              cases hl with
              | cons hv hr' => cases hr' with
                | nil => simpa using hv
            · rename_i vs s2 hne hres
              refine fin (vs' := []) hres h fun vs' hl => ?_
              have hlen := hl.length
              have : ¬ vs'.toArray.size = 1 := by
                intro h1
                have : vs.length = 1 := by simp at h1; omega
                match vs, this with
                | [x], _ => exact hne x rfl
              rw [dif_neg this]
              refine .tuple (by simpa using hlen) fun i h1 h2 => ?_
              have : ∀ {l l' : List Value}, LRel s2.heap.size ρ1 l l' → ∀ (i : Nat) (h1 : i < l.length) (h2 : i < l'.length), VRel s2.heap.size ρ1 l[i] l'[i] := by
                intro l l' h
                induction h with
                | nil => intro i h1; simp at h1
                | cons hv _ ih => intro i h1 h2; cases i with
                  | zero => exact hv
                  | succ i => simpa using ih i (by simpa using h1) (by simpa using h2)
              have := this hl i (by simpa using h1) (by simpa using h2)
              simpa using this
            · cases h
          have retg : ∀ {t : Tr} {s1 : St}, evReturn P fn s t s1 = some (v, s') → Grows s1 s' := by
            intro t s1 h
            have fin : ∀ {u : Value} {s2 : St}, some (finish s u s2) = some (v, s') → s'.cons = s2.cons := by
              intro u s2 h
              simp only [Option.some.injEq] at h
              unfold finish at h
              try simp only [lenQ_eq, pushQ_eq, setQ_eq] at h
              split at h <;> (simp only [Prod.mk.injEq] at h; obtain ⟨_, rfl⟩ := h; rfl)
            unfold evReturn at h
            split at h
            · exact (evResults_grows _ _ _ _ ‹_›).of _ (fin h)
            · exact (evResults_grows _ _ _ _ ‹_›).of _ (fin h)
            · cases h
          have hinit : TRel s.heap.size ρ (Tr.mk fn.ntmps (argAt args.toList) 13 1 0) (args' ++ Array.replicate (fn.ntmps - args'.size) undef) := init_rel ha hk.1 hk.2
          unfold evLeft at h
          split at h
          · rename_i t s1 hcode'
            exact (evCode_spec hE ih (evCall_grows hE n) hP.mixed n c _ _ _ _ _ ⟨args' ++ Array.replicate (fn.ntmps - args'.size) undef, []⟩ ρ w B _ hcode hcode' ((retg h).holds hh) hr0 hinit fun a1 ρ1 w1 d1 d2 d3 d4 => ret h d1 d2 d3 d4).1
          · rename_i t s1 hcode'
            exact (evCode_spec hE ih (evCall_grows hE n) hP.mixed n c _ _ _ _ _ ⟨args' ++ Array.replicate (fn.ntmps - args'.size) undef, []⟩ ρ w B _ hcode hcode' ((retg h).holds hh) hr0 hinit fun a1 ρ1 w1 d1 d2 d3 d4 => ret h d1 d2 d3 d4).1
          · cases h
end Go.Ev
