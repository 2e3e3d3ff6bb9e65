/- THE EVALUATOR: code and calls. -/
import Derived.Test.YtmnnnickodfibaaEvJ5
import Derived.LoopN
import Derived.Scope
namespace Go.Ev
open Go.RowKit
variable {P : Program} {B : Nat}

/-- What is known beforehand is so. -/
structure Env.Sound (P : Program) (E : Env) : Prop where
  call : ∀ f σ, E.call f = some σ → CallSound P (fun g args s => if g = f then σ args s else none) ∧ (∀ args s v s', σ args s = some (v, s') → Grows s s')
  blk : ∀ f id c σ, E.blk f id = some (c, σ) → (∀ t s e t' s', σ t s = some (e, t', s') → Grows s s') ∧
    ∀ t s e t' s', σ t s = some (e, t', s') → s'.Holds → ∀ (B : Nat) (ρ : Rho) (w : World) (a : Act), HRel P B ρ s.heap w → TRel s.heap.size ρ t a.tmps →
      ∀ Q : Exit → Act → World → Prop, After P B ρ s w t' s' (Q e.toExit) a.defers → (Code.block id c).wp P Q a w

theorem evCode_grows {E : Env} (hE : E.Sound P) {call : CallFn} (hgr : CallGrows call) {f : FuncId} : ∀ (n : Nat) (c : Code) (t : Tr) (s : St) (e : AExit) (t' : Tr) (s' : St),
    evCode P E call f n c t s = some (e, t', s') → Grows s s' := by
  intro n
  induction n with
  | zero => intro c t s e t' s' h; simp [evCode] at h
  | succ n ih =>
    intro c t s e t' s' h
    have pt : ∀ {x : AExit} {t1 : Tr} {s1 : St}, some (x, t1, s1) = some (e, t', s') → s1 = s' := by
      intro x t1 s1 h; simp only [Option.some.injEq, Prod.mk.injEq] at h; exact h.2.2
    have thn : ∀ {r : Option (AExit × Tr × St)} {k : Tr → St → Option (AExit × Tr × St)}, evThen r k = some (e, t', s') → (∀ x t1 s1, r = some (x, t1, s1) → Grows s s1) → (∀ t1 s1, k t1 s1 = some (e, t', s') → Grows s1 s') → Grows s s' := by
      intro r k h h1 h2
      unfold evThen at h
      split at h
      · exact (h1 _ _ _ rfl).trans (h2 _ _ h)
      · have := pt h; subst this; exact h1 _ _ _ rfl
      · have := pt h; subst this; exact h1 _ _ _ rfl
      · cases h
    cases c <;> simp only [evCode] at h
    case skip => have := pt h; subst this; exact .refl _
    case label => have := pt h; subst this; exact .refl _
    case exit => have := pt h; subst this; exact .refl _
    case ret => have := pt h; subst this; exact .refl _
    case region id ops draw =>
      unfold evRegion at h
      split at h
      case h_2 => cases h
      rename_i hr
      have := pt h; subst this
      split at hr
      · exact evDraw_grows hgr hr
      · exact evOps_grows hgr _ hr
    case seq x y => exact thn h (fun x' t1 s1 hx => ih _ _ _ _ _ _ hx) (fun t1 s1 hk => ih _ _ _ _ _ _ hk)
    case loop x => exact thn h (fun x' t1 s1 hx => ih _ _ _ _ _ _ hx) (fun t1 s1 hk => ih _ _ _ _ _ _ hk)
    case cond c x y =>
      have hc : ∀ {b : Bool} {s1 : St}, evCond P c t s = some (b, s1) → Grows s s1 := by
        intro b s1 hc
        unfold evCond at hc
        split at hc
        · exact test_grows hc
        · cases hc
      unfold evIf at h
      split at h
      · exact (hc ‹_›).trans (ih _ _ _ _ _ _ h)
      · exact (hc ‹_›).trans (ih _ _ _ _ _ _ h)
      · cases h
    case scope x => exact ih _ _ _ _ _ _ h
    case block id x =>
      unfold evBlock at h
      split at h
      · rename_i a' σ hb
        unfold evKnown at h
        split at h
        · rename_i e1 t1 s1 hσ
          have := pt h
          subst this
          obtain ⟨l, hl⟩ := (hE.blk f id _ _ hb).1 _ _ _ _ _ hσ
          exact ⟨_ :: l, by rw [hl]; rfl⟩
        · cases h
      · unfold evLeave at h
        split at h
        · rename_i hb
          split at h
          · have := pt h; subst this; exact ih _ _ _ _ _ _ hb
          · have := pt h; subst this; exact ih _ _ _ _ _ _ hb
        · have := pt h; subst this; exact ih _ _ _ _ _ _ ‹_›
        · have := pt h; subst this; exact ih _ _ _ _ _ _ ‹_›
        · cases h
    all_goals cases h

theorem After.same {ρ : Rho} {s s1 s' : St} {w : World} {t' : Tr} {K : Act → World → Prop} {d : List Deferred} (h : After P B ρ s w t' s' K d) (hs : Same s s1) : After P B ρ s1 w t' s' K d :=
  fun a' ρ' w' h1 h2 h3 h4 => h a' ρ' w' h1 h2 h3 ((hs.step ρ w).trans h4)
theorem After.trans {ρ ρ1 : Rho} {s s1 s' : St} {w w1 : World} {t' : Tr} {K : Act → World → Prop} {d : List Deferred} (h : After P B ρ s w t' s' K d) (hs : Step B ρ s w ρ1 s1 w1) : After P B ρ1 s1 w1 t' s' K d :=
  fun a' ρ' w' h1 h2 h3 h4 => h a' ρ' w' h1 h2 h3 (hs.trans h4)

theorem evCode_spec {E : Env} (hE : E.Sound P) {call : CallFn} (hcall : CallSound P call) (hgr : CallGrows call) (hm : P.follows .mixedOrders = true) {f : FuncId} :
    ∀ (n : Nat) (c : Code) (t : Tr) (s : St) (e : AExit) (t' : Tr) (s' : St) (a : Act) (ρ : Rho) (w : World) (B : Nat) (Q : Exit → Act → World → Prop), okCode c = true →
    evCode P E call f n c t s = some (e, t', s') → s'.Holds → HRel P B ρ s.heap w → TRel s.heap.size ρ t a.tmps → After P B ρ s w t' s' (Q e.toExit) a.defers →
    c.wp P Q a w ∧ ∀ x, c = .loop x → Code.rounds P x Q n a w := by
  intro n
  induction n with
  | zero => intro c t s e t' s' a ρ w B Q _ h; simp [evCode] at h
  | succ n ih =>
    intro c t s e t' s' a ρ w B Q hok h hh hr ht hK
    have wp1 : ∀ {c : Code} {t : Tr} {s : St} {e : AExit} {t' : Tr} {s' : St} {a : Act} {ρ : Rho} {w : World} {B : Nat} {Q : Exit → Act → World → Prop}, okCode c = true →
        evCode P E call f n c t s = some (e, t', s') → s'.Holds → HRel P B ρ s.heap w → TRel s.heap.size ρ t a.tmps → After P B ρ s w t' s' (Q e.toExit) a.defers → c.wp P Q a w :=
      fun h1 h2 h3 h4 h5 h6 => (ih _ _ _ _ _ _ _ _ _ _ _ h1 h2 h3 h4 h5 h6).1
    have pt : ∀ {x : AExit} {t1 : Tr} {s1 : St}, some (x, t1, s1) = some (e, t', s') → x = e ∧ t1 = t' ∧ s1 = s' := by
      intro x t1 s1 h; simpa using h
    have here : ∀ {x : Exit}, x = e.toExit → t = t' → s = s' → Q x a w := by
      intro x h1 h2 h3
      subst h1 h2 h3
      exact hK a ρ w rfl ht hr (.refl _ _ _ _)
    -- a first part, then a second
    have thn : ∀ {x : Code} {k : Tr → St → Option (AExit × Tr × St)} {N : Act → World → Prop}, okCode x = true → evThen (evCode P E call f n x t s) k = some (e, t', s') →
        (∀ t1 s1, k t1 s1 = some (e, t', s') → Grows s1 s') →
        (∀ t1 s1 a1 ρ1 w1, k t1 s1 = some (e, t', s') → HRel P B ρ1 s1.heap w1 → TRel s1.heap.size ρ1 t1 a1.tmps → After P B ρ1 s1 w1 t' s' (Q e.toExit) a1.defers → N a1 w1) → x.wp P (Exit.then N Q) a w := by
      intro x k N hx h hg hN
      unfold evThen at h
      split at h
      · rename_i t1 s1 hx1
        refine wp1 hx hx1 ((hg _ _ h).holds hh) hr ht fun a1 ρ1 w1 d1 d2 d3 d4 => ?_
        exact hN t1 s1 a1 ρ1 w1 h d3 d2 (by rw [d1]; exact hK.trans d4)
      · rename_i id t1 s1 hx1
        obtain ⟨rfl, rfl, rfl⟩ := pt h
        exact wp1 hx hx1 hh hr ht hK
      · rename_i t1 s1 hx1
        obtain ⟨rfl, rfl, rfl⟩ := pt h
        exact wp1 hx hx1 hh hr ht hK
      · cases h
    cases c <;> simp only [evCode] at h
    case skip => obtain ⟨rfl, rfl, rfl⟩ := pt h; exact ⟨wp_skip (here rfl rfl rfl), by simp⟩
    case label => obtain ⟨rfl, rfl, rfl⟩ := pt h; exact ⟨wp_label (here rfl rfl rfl), by simp⟩
    case exit => obtain ⟨rfl, rfl, rfl⟩ := pt h; exact ⟨wp_exit (here rfl rfl rfl), by simp⟩
    case ret => obtain ⟨rfl, rfl, rfl⟩ := pt h; exact ⟨wp_ret (here rfl rfl rfl), by simp⟩
    case region id ops draw =>
      refine ⟨?_, by simp⟩
      unfold evRegion at h
      split at h
      case h_2 => cases h
      rename_i hreg
      obtain ⟨rfl, rfl, rfl⟩ := pt h
      cases draw with
      | true =>
        simp only [if_true] at hreg
        simp only [okCode, Bool.not_true, Bool.false_or] at hok
        exact evDraw_spec hcall hgr hm hok hreg hh hr ht hK
      | false =>
        simp only [Bool.false_eq_true, if_false] at hreg
        refine wp_region ?_
        have := evOps_spec hcall hgr (ops := ops) (Q := Q) ops.toList 0 (fun j => by simp) hreg hh hr ht hK
        rwa [Array.length_toList, ← List.range_eq_range'] at this
    case seq x y =>
      simp only [okCode, Bool.and_eq_true] at hok
      exact ⟨wp_seq (thn hok.1 h (fun t1 s1 hk => evCode_grows hE hgr n _ _ _ _ _ _ hk) fun t1 s1 a1 ρ1 w1 hk d1 d2 d3 => wp1 hok.2 hk hh d1 d2 d3), by simp⟩
    case loop x =>
      simp only [okCode] at hok
      have hrounds : Code.rounds P x Q (n + 1) a w := by
        rw [rounds_succ]
        exact thn hok h (fun t1 s1 hk => evCode_grows hE hgr n _ _ _ _ _ _ hk) fun t1 s1 a1 ρ1 w1 hk d1 d2 d3 => (ih _ _ _ _ _ _ _ _ _ _ _ (by simpa [okCode] using hok) hk hh d1 d2 d3).2 x rfl
      exact ⟨wp_loop_rounds (n + 1) hrounds, fun y hy => by simp only [Code.loop.injEq] at hy; subst hy; exact hrounds⟩
    case cond c x y =>
      simp only [okCode, Bool.and_eq_true] at hok
      refine ⟨?_, by simp⟩
      have hc : ∀ {b : Bool} {s1 : St}, evCond P c t s = some (b, s1) → s1.Holds → Same s s1 ∧ a.eval c = .bool b := by
        intro b s1 hc h1
        unfold evCond at hc
        split at hc
        · rename_i k hk
          obtain ⟨hs, hb⟩ := test_spec hc
          have := (opnd_rel hk ht hr.glob).eq_of_flat rfl
          rw [hb h1] at this
          exact ⟨hs, this⟩
        · cases hc
      unfold evIf at h
      split at h
      · rename_i s1 hc1
        obtain ⟨hs, hb⟩ := hc hc1 ((evCode_grows hE hgr n _ _ _ _ _ _ h).holds hh)
        exact wp_cond_true hb (wp1 hok.1 h hh (by rw [hs.heap]; exact hr) (by rw [hs.heap]; exact ht) (hK.same hs))
      · rename_i s1 hc1
        obtain ⟨hs, hb⟩ := hc hc1 ((evCode_grows hE hgr n _ _ _ _ _ _ h).holds hh)
        exact wp_cond_false hb (wp1 hok.2 h hh (by rw [hs.heap]; exact hr) (by rw [hs.heap]; exact ht) (hK.same hs))
      · cases h
    case scope x =>
      simp only [okCode] at hok
      exact ⟨wp_scope_straight (wp1 hok h hh hr ht (by cases e <;> exact hK)), by simp⟩
    case block id x =>
      simp only [okCode] at hok
      refine ⟨?_, by simp⟩
      unfold evBlock at h
      split at h
      · rename_i a' σ hb
        unfold evKnown at h
        split at h
        · rename_i e1 t1 s1 hσ
          obtain ⟨rfl, rfl, rfl⟩ := pt h
          have hx : x = a' := hh _ List.mem_cons_self
          subst hx
          have hs1 : s1.Holds := fun p hp => hh p (List.mem_cons_of_mem _ hp)
          refine (hE.blk f id _ _ hb).2 _ _ _ _ _ hσ hs1 B ρ w a hr ht Q fun a2 ρ2 w2 d1 d2 d3 d4 => ?_
          have hs2 : Same s1 { s1 with cons := (x = x) :: s1.cons } := ⟨rfl, rfl, [_], rfl⟩
          exact hK a2 ρ2 w2 d1 d2 d3 (d4.trans (hs2.step ρ2 w2))
        · cases h
      · refine wp_block ?_
        unfold evLeave at h
        split at h
        · rename_i id' t1 s1 hx
          split at h
          · rename_i hid
            obtain ⟨rfl, rfl, rfl⟩ := pt h
            refine wp1 hok hx hh hr ht fun a2 ρ2 w2 d1 d2 d3 d4 => ?_
            simp only [AExit.toExit, Exit.inBlock, hid, if_true]
            exact hK a2 ρ2 w2 d1 d2 d3 d4
          · rename_i hid
            obtain ⟨rfl, rfl, rfl⟩ := pt h
            refine wp1 hok hx hh hr ht fun a2 ρ2 w2 d1 d2 d3 d4 => ?_
            simp only [AExit.toExit, Exit.inBlock, hid, if_false]
            exact hK a2 ρ2 w2 d1 d2 d3 d4
        · obtain ⟨rfl, rfl, rfl⟩ := pt h
          exact wp1 hok ‹_› hh hr ht hK
        · obtain ⟨rfl, rfl, rfl⟩ := pt h
          exact wp1 hok ‹_› hh hr ht hK
        · cases h
    all_goals cases h
theorem evResult_spec {ρ : Rho} {s s' : St} {w : World} {t : Tr} {t' : Array Value} {r : ResultVar} {v : Value} (h : evResult P t s r = some (v, s')) (hh : s'.Holds)
    (hr : HRel P B ρ s.heap w) (ht : TRel s.heap.size ρ t t') : Same s s' ∧ ∃ v', ((match r with
      | .tmp t => pure (t'.getD t undef)
      | .cell a t => do loadVar t (← asAddr (t'.getD a undef)) : Sem Value)).run P w = .ok v' w ∧ VRel s.heap.size ρ v v' := by
  have get : ∀ {i : Nat} {u : Value}, asSome (t.get i) = some u → VRel s.heap.size ρ u (t'.getD i undef) := by
    intro i u hu
    obtain ⟨hv, hn⟩ := asSome_spec hu
    rcases ht.get i with hgo | ⟨v', h1, h2⟩
    · rw [hv, hn] at hgo; cases hgo
    · have e2 : t'.getD i undef = v' := by simp [Array.getD, (Array.getElem?_eq_some_iff.1 h1).1, (Array.getElem?_eq_some_iff.1 h1).2]
      rw [e2, ← hv]; exact h2
  cases r with
  | tmp i =>
    simp only [evResult] at h
    split at h
    · rename_i u hu
      simp only [Option.some.injEq, Prod.mk.injEq] at h
      obtain ⟨rfl, rfl⟩ := h
      exact ⟨.refl _, _, rfl, get hu⟩
    · cases h
  | cell i ty =>
    simp only [evResult] at h
    split at h
    · rename_i u hu
      obtain ⟨v', e, h1, h2⟩ := evLoad_same h hh hr (get hu)
      refine ⟨h2, v', ?_, h1⟩
      -- the address is there
      have hp : ∃ b off, u = .pointer (some ⟨b, off, none⟩) := by
        unfold evLoad at h
        split at h
        · exact ⟨_, _, rfl⟩
        · cases h
      obtain ⟨b, off, rfl⟩ := hp
      obtain ⟨e1, _⟩ := ptr_inv (get hu)
      simp only [e1, Instr.loadAt, Instr.sureAddr, asAddr, Sem.run_bind, Sem.run_pure, Result.andThen_ok] at e ⊢
      exact e
    · cases h

theorem evResults_grows {t : Tr} : ∀ (rs : List ResultVar) (s s' : St) (vs : List Value), evResults P t rs s = some (vs, s') → Grows s s'
  | [], s, s', vs, h => by simp only [evResults, Option.some.injEq, Prod.mk.injEq] at h; obtain ⟨_, rfl⟩ := h; exact .refl _
  | r :: rs, s, s', vs, h => by
    simp only [evResults] at h
    split at h
    case h_2 => cases h
    rename_i v s1 h1
    split at h
    case h_2 => cases h
    rename_i vs1 s2 h2
    simp only [Option.some.injEq, Prod.mk.injEq] at h
    obtain ⟨rfl, rfl⟩ := h
    refine Grows.trans ?_ (evResults_grows rs _ _ _ h2)
    cases r <;> simp only [evResult] at h1 <;> split at h1 <;> first
      | (cases h1; done)
      | (simp only [Option.some.injEq, Prod.mk.injEq] at h1; obtain ⟨_, rfl⟩ := h1; exact .refl _)
      | (unfold evLoad at h1
         repeat' split at h1
         all_goals first | (cases h1; done) | (simp only [Option.some.injEq, Prod.mk.injEq] at h1; obtain ⟨_, rfl⟩ := h1; exact read_grows ‹_›))

theorem evResults_spec {ρ : Rho} {w : World} {t : Tr} {t' : Array Value} : ∀ (rs : List ResultVar) (s s' : St) (vs : List Value), evResults P t rs s = some (vs, s') → s'.Holds →
    HRel P B ρ s.heap w → TRel s.heap.size ρ t t' → Same s s' ∧ ∃ vs', (rs.mapM (m := Sem) fun
      | .tmp t => pure (t'.getD t undef)
      | .cell a t => do loadVar t (← asAddr (t'.getD a undef))).run P w = .ok vs' w ∧ LRel s.heap.size ρ vs vs'
  | [], s, s', vs, h, hh, hr, ht => by
    simp only [evResults, Option.some.injEq, Prod.mk.injEq] at h
    obtain ⟨rfl, rfl⟩ := h
    exact ⟨.refl _, [], rfl, .nil⟩
  | r :: rs, s, s', vs, h, hh, hr, ht => by
    simp only [evResults] at h
    split at h
    case h_2 => cases h
    rename_i v s1 h1
    split at h
    case h_2 => cases h
    rename_i vs1 s2 h2
    simp only [Option.some.injEq, Prod.mk.injEq] at h
    obtain ⟨rfl, rfl⟩ := h
    have hh1 := (evResults_grows rs _ _ _ h2).holds hh
    obtain ⟨hs, v', e1, e2⟩ := evResult_spec h1 hh1 hr ht
    obtain ⟨hs2, vs', e3, e4⟩ := evResults_spec rs _ _ _ h2 hh (by rw [hs.heap]; exact hr) (by rw [hs.heap]; exact ht)
    refine ⟨hs.trans hs2, v' :: vs', ?_, .cons e2 (by rw [hs.heap] at e4; exact e4)⟩
    rw [List.mapM_cons, Sem.run_bind, e1, Result.andThen_ok, Sem.run_bind, e3]
    rfl

theorem results_run {fn : Func} {t' : Array Value} {w : World} {vs' : List Value} (h : (fn.results.toList.mapM (m := Sem) fun
      | .tmp t => pure (t'.getD t undef)
      | .cell a t => do loadVar t (← asAddr (t'.getD a undef))).run P w = .ok vs' w) :
    (results fn t').run P w = .ok (if h : vs'.toArray.size = 1 then vs'.toArray[0] else .tuple vs'.toArray) w := by
  unfold results
  rw [Array.mapM_eq_mapM_toList]
  simp only [Sem.run_bind, Sem.run_map]
  generalize hg : Sem.run P (List.mapM _ fn.results.toList) w = r
  have hr : r = .ok vs' w := by rw [← hg]; exact h
  rw [hr]
  rfl

theorem undef_rel {n : Nat} {ρ : Rho} : VRel n ρ undef undef := .flat rfl

theorem argAt_rel {n : Nat} {ρ : Rho} : ∀ {l l' : List Value}, LRel n ρ l l' → ∀ (k i : Nat), i < k → l'.length ≤ k → ∃ v', (l' ++ List.replicate (k - l'.length) undef)[i]? = some v' ∧ VRel n ρ (argAt l i) v'
  | _, _, .nil, k, i, hi, _ => ⟨undef, by simp [hi], by simp only [argAt]; exact undef_rel⟩
  | _, _, .cons (v := v) (v' := v') hv r, k, i, hi, hk => by
    cases i with
    | zero => exact ⟨v', by simp, hv⟩
    | succ i =>
      simp only [List.length_cons] at hk
      obtain ⟨u, h1, h2⟩ := argAt_rel r (k - 1) i (by omega) (by omega)
      refine ⟨u, ?_, h2⟩
      simp only [List.cons_append, List.getElem?_cons_succ, List.length_cons]
      rw [← h1]
      congr 2
      congr 1
      omega

theorem LRel.length {n : Nat} {ρ : Rho} {l l' : List Value} (h : LRel n ρ l l') : l.length = l'.length := by
  induction h with
  | nil => rfl
  | cons _ _ ih => simp [ih]

theorem mk_has_far (n : Nat) (f : Nat → Value) : ∀ (d a b : Nat), 0 < a → ∀ j, 2 ^ d ≤ j + 1 → (Tr.mk n f d a b).has j = false := by
  intro d
  induction d with
  | zero => intro a b _ j _; rfl
  | succ d ih =>
    intro a b ha j hj
    have hp : 2 ^ (d + 1) = 2 * 2 ^ d := by rw [Nat.pow_succ]; omega
    have hpos : 0 < 2 ^ d := Nat.pow_pos (by omega)
    simp only [Tr.mk]
    cases Nat.ble n b with
    | true => rfl
    | false =>
      cases j with
      | zero => omega
      | succ j =>
        simp only [cond, Tr.has]
        cases Nat.beq (j % 2) 0 with
        | true => exact ih _ _ (by omega) _ (by omega)
        | false => exact ih _ _ (by omega) _ (by omega)

theorem init_rel {n : Nat} {ρ : Rho} {args args' : Array Value} {k : Nat} (h : LRel n ρ args.toList args'.toList) (hk : k ≤ 8190) (ha : args.size ≤ k) :
    TRel n ρ (Tr.mk k (argAt args.toList) 13 1 0) (args' ++ Array.replicate (k - args'.size) undef) := by
  have hl := h.length
  have hsz : args'.size = args.size := by simpa using hl.symm
  have hn : (args' ++ Array.replicate (k - args'.size) undef).size = k := by simp; omega
  have hget : ∀ i, i < k → ∃ v', (args' ++ Array.replicate (k - args'.size) undef)[i]? = some v' ∧ VRel n ρ (argAt args.toList i) v' := by
    intro i hi
    obtain ⟨v', h1, h2⟩ := argAt_rel h k i hi (by simp; omega)
    refine ⟨v', ?_, h2⟩
    rw [← h1]
    rw [← Array.getElem?_toList]
    simp
  refine ⟨fun i => ?_, fun i => ?_⟩
  · rw [hn]
    by_cases hi : i < 8191
    · have := (Tr.mk_spec k (argAt args.toList) 13 1 0 (by omega) i (by omega)).1
      rw [this]; simp
    · have : ¬ i < k := by omega
      simp only [this, decide_false]
      exact mk_has_far k _ 13 1 0 (by omega) i (by omega)
  · by_cases hi : i < k
    · have := (Tr.mk_spec k (argAt args.toList) 13 1 0 (by omega) i (by omega)).2 (by omega)
      rw [this]
      simp only [Nat.one_mul, Nat.add_zero]
      exact .inr (hget i hi)
    · left
      rw [Tr.get_none]
      · rfl
      · by_cases hi2 : i < 8191
        · rw [(Tr.mk_spec k (argAt args.toList) 13 1 0 (by omega) i (by omega)).1]; simp; omega
        · exact mk_has_far k _ 13 1 0 (by omega) i (by omega)

/-- Behind a call: what is nobody's is forgotten. -/
theorem finish_spec {ρ ρ1 : Rho} {s s1 s0 s2 : St} {w w1 : World} {v v2 v' : Value} (h : finish s v s1 = (v2, s2)) (hr : HRel P B ρ s.heap w) (hs0 : s0.heap = s.heap) (hlow : s0.low = s.heap.size) (hcons : s0.cons = s.cons)
    (hv : VRel s1.heap.size ρ1 v v') (hR : HRel P B ρ1 s1.heap w1) (hS : Step B ρ s0 w ρ1 s1 w1) :
    v2 = v ∧ s2.cons = s1.cons ∧ ∃ ρ2, VRel s2.heap.size ρ2 v v' ∧ HRel P B ρ2 s2.heap w1 ∧ Step B ρ s w ρ2 s2 w1 := by
  unfold finish at h
  try simp only [lenQ_eq, pushQ_eq, setQ_eq] at h
  have hS1 := hS.size
  have hS2 := hS.low
  rw [hs0] at hS1
  rw [hlow] at hS2
  split at h
  · rename_i hc
    simp only [Bool.and_eq_true, decide_eq_true_eq] at hc
    obtain ⟨hf, hl⟩ := hc
    simp only [Prod.mk.injEq] at h
    obtain ⟨rfl, rfl⟩ := h
    have hrho : ∀ i, i < s.heap.size → ρ1 i = ρ i := fun i hi => hS.rho i (.inl (by rw [hs0]; exact hi))
    have hsz : (⟨s1.heap.toList.take s.heap.size⟩ : Array AObj).size = s.heap.size := by simp; omega
    have hget : ∀ id o, (⟨s1.heap.toList.take s.heap.size⟩ : Array AObj)[id]? = some o → id < s.heap.size ∧ s1.heap[id]? = some o := by
      intro id o ho
      have hlt : id < s.heap.size := by
        have := (Array.getElem?_eq_some_iff.1 ho).1; rw [hsz] at this; exact this
      refine ⟨hlt, ?_⟩
      rw [List.getElem?_toArray, List.getElem?_take, if_pos hlt] at ho
      rw [← Array.getElem?_toList]; exact ho
    refine ⟨rfl, rfl, ρ, ?_, ⟨⟨by rw [hsz]; exact hr.glob.1, hr.glob.2⟩, hR.base, fun id o ho hst => ?_, fun id o ho hst => ?_, fun id o ho hst => ?_⟩, ⟨fun _ _ => rfl, by show _ ≤ Array.size _; rw [hsz]; exact Nat.le_refl _, Nat.le_refl _, fun id h1 h2 o' ho' => ?_, hS.below, ?_, fun id o o' ho ho' => ?_⟩⟩
    · have := hv.eq_of_flat hf
      subst this
      exact .flat hf
    · obtain ⟨hlt, ho⟩ := hget id o ho
      obtain ⟨a1, a2, a3, a4⟩ := hR.obj id o ho hst
      rw [hrho id hlt] at a1 a2 a3 a4
      refine ⟨a1, a2, a3, fun j hj => ?_⟩
      obtain ⟨c', e1, e2, e3⟩ := a4 j hj
      refine ⟨c', e1, e2, ?_⟩
      rw [hsz]
      obtain ⟨o0, k1, k2, k3⟩ := hS.keep id (by rw [hs0]; exact hlt) (by omega) o ho
      rw [hs0] at k1
      have old : ∀ u, o0.cells[j]? = some u → ∃ c0, VRel s.heap.size ρ u c0 := by
        intro u hu
        obtain ⟨hj0, rfl⟩ := Array.getElem?_eq_some_iff.1 hu
        obtain ⟨c0, _, _, hc0⟩ := (hr.obj id o0 k1 (k2 hst)).2.2.2 j hj0
        exact ⟨c0, hc0⟩
      have hlow' : ∀ c0, VRel s.heap.size ρ o.cells[j] c0 → VRel s.heap.size ρ o.cells[j] c' := fun c0 h0 => VRel.lower e3 h0 (fun i hi => (hrho i hi).symm)
      rcases k3 with k3 | k3
      · obtain ⟨c0, hc0⟩ := old o.cells[j] (by rw [← k3]; exact Array.getElem?_eq_getElem hj)
        exact hlow' c0 hc0
      · rcases k3 j _ (Array.getElem?_eq_getElem hj) with k4 | k4
        · obtain ⟨c0, hc0⟩ := old _ k4
          exact hlow' c0 hc0
        · have := e3.eq_of_flat k4
          rw [this]
          exact .flat k4
    · obtain ⟨hlt, ho⟩ := hget id o ho
      have := hR.own id o ho hst
      rw [hrho id hlt] at this; exact this
    · obtain ⟨hlt, ho⟩ := hget id o ho
      obtain ⟨a1, a2, a3⟩ := hR.head id o ho hst
      rw [hrho id hlt] at a1 a2 a3
      refine ⟨a1, a2, fun id2 o2 ho2 hst2 hne hblk => ?_⟩
      obtain ⟨hlt2, ho2⟩ := hget id2 o2 ho2
      have := a3 id2 o2 ho2 hst2 hne
      rw [hrho id2 hlt2] at this
      exact this hblk
    · obtain ⟨_, ho'⟩ := hget id o' ho'
      have := hS.keep id (by rw [hs0]; exact h1) (by omega) o' ho'
      rw [hs0] at this
      exact this
    · obtain ⟨l, e⟩ := hS.cons
      exact ⟨l, by rw [← hcons]; exact e⟩
    · have := hS.same id o o' (by rw [hs0]; exact ho) (hget id o' ho').2
      exact this
  · simp only [Prod.mk.injEq] at h
    obtain ⟨rfl, rfl⟩ := h
    refine ⟨rfl, rfl, ρ1, hv, hR, ⟨fun id hid => hS.rho id (by rw [hs0]; exact hid), hS1, by show min s.low s1.low ≤ _; omega, fun id h1 h2 o' ho' => ?_, hS.below, ?_, fun id o o' ho ho' => hS.same id o o' (by rw [hs0]; exact ho) ho'⟩⟩
    · have h2' : id < min s.low s1.low := h2
      have := hS.keep id (by rw [hs0]; exact h1) (by omega) o' ho'
      rw [hs0] at this
      exact this
    · obtain ⟨l, e⟩ := hS.cons
      exact ⟨l, by rw [← hcons]; exact e⟩
end Go.Ev
