/- The faster run: regions, codes, calls, pieces. -/
import Derived.Test.YtmnnnickodfibaaEvQ6
namespace Go.Ev
open Go.RowKit
variable {P : Program} {cs : CallFn} {cf : FCall} {L : List (FuncId × PFun)}

theorem opK_spec (hcf : CFOk cf cs) (hsum : SumsOk L cs) {ops : Array Oper} (o : Oper) {t : Tr} {h : HT} {n low : Nat} {k : FT} {r : FR} (hr : opK (cOp P L ops o) P cf cs t h n low k = r) (hb : r ≠ .bad) :
    ∃ v h' n' low', evStepV P cs ops o t (toS h n low) = some (v, toS h' n' low') ∧ k (putT t o.dst v) h' n' low' = r := by
  have hr : guardH (cGuard ops o) t (coreH (cCore P L o) P cf cs t h n low fun v h n low => putDK (o.dst.map pth) t v fun t => k t h n low) (putDK (o.dst.map pth) t undef fun t => k t h n low) = r := hr
  have hyes : coreH (cCore P L o) P cf cs t h n low (fun v h n low => putDK (o.dst.map pth) t v fun t => k t h n low) = r → evWanted ops o t (toS h n low) = some (true, toS h n low) →
      ∃ v h' n' low', evStepV P cs ops o t (toS h n low) = some (v, toS h' n' low') ∧ k (putT t o.dst v) h' n' low' = r := by
    intro h1 h2
    obtain ⟨v, h', n', low', h3, h4⟩ := core_spec hcf hsum o h1 hb
    have h4 : putDK (o.dst.map pth) t v (fun t => k t h' n' low') = r := h4
    rw [putDK_eq] at h4
    refine ⟨v, h', n', low', ?_, h4⟩
    unfold evStepV
    rw [h2]
    simp only [evOpF_eq, h3]
  have hno : putDK (o.dst.map pth) t undef (fun t => k t h n low) = r → evWanted ops o t (toS h n low) = some (false, toS h n low) →
      ∃ v h' n' low', evStepV P cs ops o t (toS h n low) = some (v, toS h' n' low') ∧ k (putT t o.dst v) h' n' low' = r := by
    intro h1 h2
    rw [putDK_eq] at h1
    refine ⟨undef, h, n, low, ?_, h1⟩
    unfold evStepV
    rw [h2]
  unfold cGuard at hr
  split at hr
  · rename_i hg
    exact hyes hr (by unfold evWanted; rw [hg])
  · rename_i j want hg
    split at hr
    · rename_i hd
      exact hno hr (by unfold evWanted; rw [hg]; simp only [hd])
    · rename_i d hd
      obtain ⟨h1, h2⟩ := valK_spec hr hb
      rw [trG_eq] at h1 h2
      have hw : ∀ b, wantedV (t.get d) want (toS h n low) = some (b, toS h n low) → evWanted ops o t (toS h n low) = some (b, toS h n low) := by
        intro b hb'
        unfold evWanted; rw [hg]; simp only [hd]; exact hb'
      generalize t.get d = v at h1 h2 hw
      cases v with
      | bool c =>
        have hw := hw (c == want) (by unfold wantedV; simp only [test_closed (toS_path h n low)])
        cases c <;> cases want
        · exact hyes h2 hw
        · exact hno h2 hw
        · exact hno h2 hw
        · exact hyes h2 hw
      | func fn a c => cases fn <;> first | exact hno h2 (hw false rfl) | (simp [asSome] at h1)
      | _ => exact hno h2 (hw false rfl)
theorem opsK_spec (hcf : CFOk cf cs) (hsum : SumsOk L cs) {ops : Array Oper} : ∀ (l : List Oper) {t : Tr} {h : HT} {n low : Nat} {r : FR}, opsK (l.map (cOp P L ops)) P cf cs t h n low = r → r ≠ .bad →
    ∃ t' h' n' low', evOps P cs ops l t (toS h n low) = some (t', toS h' n' low') ∧ r = .ok .normal t' h' n' low'
  | [], t, h, n, low, r, hr, hb => ⟨t, h, n, low, rfl, hr.symm⟩
  | o :: l, t, h, n, low, r, hr, hb => by
    obtain ⟨v, h1, n1, low1, h2, h3⟩ := opK_spec (L := L) (ops := ops) hcf hsum o (k := fun t h n low => opsK (l.map (cOp P L ops)) P cf cs t h n low) hr hb
    obtain ⟨t', h', n', low', h4, h5⟩ := opsK_spec hcf hsum l h3 hb
    refine ⟨t', h', n', low', ?_, h5⟩
    simp only [evOps, evStep, h2, fsK_eq, h4]
theorem blkK_cases (v : Value) (k : Nat → FR) (d : FR) : (∃ b, blkOf (some v) = some b ∧ blkK v k d = k b) ∨ (blkOf (some v) = none ∧ blkK v k d = d) := by
  cases v with
  | pointer a => cases a with
    | none => exact .inr ⟨rfl, rfl⟩
    | some a => exact .inl ⟨_, rfl, rfl⟩
  | slice a l c => cases a with
    | none => exact .inr ⟨rfl, rfl⟩
    | some a => exact .inl ⟨_, rfl, rfl⟩
  | _ => exact .inr ⟨rfl, rfl⟩
theorem opdK_spec2 {x : Operand} {t : Tr} {k : Value → FR} {r : FR} (h : opdK (cOpd P x) t k = r) (hb : r ≠ .bad) : ∃ v, k v = r ∧ opnd P t x = asSome v := by
  cases x with
  | tmp i =>
    refine ⟨trG (pth i) t, h, ?_⟩
    rw [trG_eq]
    simp only [opnd, Tr.getR_eq]
  | const v =>
    simp only [cOpd, flatQ_eq] at h
    cases hf : flat v with
    | false => rw [hf] at h; exact absurd h.symm hb
    | true =>
      rw [hf] at h
      refine ⟨v, h, ?_⟩
      simp only [opnd, hf, if_true]
      cases v <;> first | rfl | simp [flat] at hf
  | global g =>
    simp only [cOpd] at h
    split at h
    · rename_i hg
      refine ⟨_, h, ?_⟩
      simp only [opnd, hg, if_true]; rfl
    · exact absurd h.symm hb
  | func f => exact ⟨_, h, rfl⟩
theorem noteV_spec {x : Operand} {i : Nat} {t : Tr} {h : HT} {n low : Nat} {wt : Watch} {k : Watch → FR} {r : FR} (hr : noteK (some (cOpd P x)) i t h n wt k = r) (hb : r ≠ .bad) : k (watchV (toS h n low) i (opnd P t x) wt) = r := by
  obtain ⟨v, h1, h2⟩ := opdK_spec2 (x := x) (k := fun v => blkK v (fun b => Bool.rec (motive := fun _ => FR) (k wt) (objK h b fun _ _ _ _ _ ver => k ((i, b, ver) :: wt)) (Nat.blt b n)) (k wt)) hr hb
  have hv : blkOf (opnd P t x) = blkOf (some v) := by
    rw [h2]
    cases v with
    | func fn a c => cases fn <;> rfl
    | _ => rfl
  unfold watchV
  rw [hv]
  rcases blkK_cases v (fun b => Bool.rec (motive := fun _ => FR) (k wt) (objK h b fun _ _ _ _ _ ver => k ((i, b, ver) :: wt)) (Nat.blt b n)) (k wt) with ⟨b, h3, h4⟩ | ⟨h3, h4⟩
  · rw [h3]
    rw [h4] at h1
    simp only
    unfold watchB
    rw [toS_get]
    cases hq : Nat.blt b n with
    | true =>
      rw [hq] at h1
      have : b < n := Nat.le_of_ble_eq_true hq
      rw [if_pos this]
      have h1 : objK h b (fun _ _ _ _ _ ver => k ((i, b, ver) :: wt)) = r := h1
      rw [objK_eq] at h1
      exact h1
    | false =>
      rw [hq] at h1
      have : ¬ b < n := fun hlt => by
        have : Nat.blt b n = true := Nat.ble_eq_true_of_le hlt
        rw [hq] at this; cases this
      rw [if_neg this]
      exact h1
  · rw [h3]
    rw [h4] at h1
    exact h1
theorem note_spec {o : Oper} {i : Nat} {t : Tr} {h : HT} {n low : Nat} {wt : Watch} {k : Watch → FR} {r : FR} (hr : noteK (cWatch P o) i t h n wt k = r) (hb : r ≠ .bad) : k (watchOf P t (toS h n low) i o wt) = r := by
  unfold cWatch at hr
  unfold watchOf
  split at hr
  · rename_i ho; rw [ho]; exact noteV_spec hr hb
  · rename_i ho; rw [ho]; exact noteV_spec hr hb
  · rename_i h1 h2
    split
    · rename_i ho; exact absurd ho (h1 _ _)
    · rename_i ho; exact absurd ho (h2 _ _ _)
    · exact hr
theorem keep_spec {b : Array Nat} {i : Nat} {h : HT} {n low : Nat} : ∀ {wt : Watch} {k : Watch → FR} {r : FR}, keepK (b.getD i 0) h n wt k = r → r ≠ .bad → ∃ wt', keepW (toS h n low).heap b i wt = some wt' ∧ k wt' = r
  | [], k, r, hr, hb => ⟨[], rfl, hr⟩
  | (e, id, ver) :: wt, k, r, hr, hb => by
    have hr : (Bool.rec (motive := fun _ => FR) (ifK (Nat.blt id n) (objK h id fun _ _ st _ _ v => ifK (Nat.blt st 3) (ifK (Nat.beq v ver) (keepK (b.getD i 0) h n wt fun r => k ((e, id, ver) :: r))))) (keepK (b.getD i 0) h n wt k) ((b.getD i 0).testBit e) : FR) = r := hr
    cases hw : (b.getD i 0).testBit e with
    | true =>
      rw [hw] at hr
      obtain ⟨wt', h1, h2⟩ := keep_spec (k := k) (low := low) hr hb
      refine ⟨wt', ?_, h2⟩
      simp only [keepW, waits, hw, h1]
    | false =>
      rw [hw] at hr
      obtain ⟨h1, h2⟩ := ifK_spec hr hb
      rw [objK_eq] at h2
      obtain ⟨h3, h4⟩ := ifK_spec h2 hb
      obtain ⟨h5, h6⟩ := ifK_spec h4 hb
      obtain ⟨wt', h7, h8⟩ := keep_spec (k := fun r => k ((e, id, ver) :: r)) (low := low) h6 hb
      refine ⟨_, ?_, h8⟩
      have hget : (toS h n low).heap[id]? = some (htG (pth id) h) := by
        rw [← getQ_eq, toS_get, if_pos (show id < n from Nat.le_of_ble_eq_true h1)]
      simp only [keepW, waits, hw, hget, h3, h5, h7, Bool.and_self]
theorem samePlan_eq : ∀ {p q : Plan}, samePlan p q = true → p = q
  | [], [], _ => rfl
  | (i, none) :: r, (j, none) :: q, h => by
    simp only [samePlan] at h
    split at h
    · rename_i hb; rw [Nat.eq_of_beq_eq_true hb, samePlan_eq h]
    · cases h
  | (i, some a) :: r, (j, some b) :: q, h => by
    simp only [samePlan] at h
    split at h
    · rename_i hb hc; rw [Nat.eq_of_beq_eq_true hb, Nat.eq_of_beq_eq_true hc, samePlan_eq h]
    · cases h
  | [], _ :: _, h => by simp [samePlan] at h
  | _ :: _, [], h => by simp [samePlan] at h
  | (_, none) :: _, (_, some _) :: _, h => by simp [samePlan] at h
  | (_, some _) :: _, (_, none) :: _, h => by simp [samePlan] at h
theorem chkPlan_spec {ops : Array Oper} {pl : Plan} (h : chkPlan P ops pl = true) : ∃ l, planOf P ops = some l ∧ pl = l.map (planE P ops (befs ops)) := by
  unfold chkPlan at h
  split at h
  · rename_i q hq
    unfold planL at hq
    split at hq
    · rename_i l hl
      simp only [Option.some.injEq] at hq
      subst hq
      exact ⟨l, hl, samePlan_eq h⟩
    · cases hq
  · cases h
theorem stepsK_spec (hcf : CFOk cf cs) (hsum : SumsOk L cs) {ops : Array Oper} : ∀ (l : List Nat) {t : Tr} {h : HT} {n low : Nat} {wt : Watch} {r : FR}, stepsK (l.map fun i => cStep P L ops (planE P ops (befs ops) i)) P cf cs t h n low wt = r → r ≠ .bad →
    ∃ t' h' n' low', runPlan P cs ops (befs ops) l t (toS h n low) wt = some (t', toS h' n' low') ∧ r = .ok .normal t' h' n' low'
  | [], t, h, n, low, wt, r, hr, hb => ⟨t, h, n, low, rfl, hr.symm⟩
  | i :: l, t, h, n, low, wt, r, hr, hb => by
    have hr : (FStep.rec (motive := fun _ => FR)
      (fun o i w => noteK w i t h n wt fun wt => opK o P cf cs t h n low fun t h n low => stepsK (l.map fun i => cStep P L ops (planE P ops (befs ops) i)) P cf cs t h n low wt)
      (fun o mask => opK o P cf cs t h n low fun t h n low => keepK mask h n wt fun wt => stepsK (l.map fun i => cStep P L ops (planE P ops (befs ops) i)) P cf cs t h n low wt) (cStep P L ops (planE P ops (befs ops) i)) : FR) = r := hr
    unfold cStep planE at hr
    cases hg : getQ ops i with
    | none =>
      rw [hg] at hr
      simp only [hg] at hr
      exact absurd hr.symm hb
    | some o =>
      rw [hg] at hr
      cases he : isEarly P o with
      | true =>
        simp only [he, hg] at hr
        have h1 := note_spec (P := P) (low := low) hr hb
        obtain ⟨v, h', n', low', h2, h3⟩ := opK_spec (L := L) (ops := ops) hcf hsum o h1 hb
        obtain ⟨t2, hh2, n2, low2, h4, h5⟩ := stepsK_spec hcf hsum l h3 hb
        refine ⟨t2, hh2, n2, low2, ?_, h5⟩
        simp only [runPlan, hg, h2, fsK_eq, he, h4]
      | false =>
        simp only [he, hg] at hr
        obtain ⟨v, h', n', low', h2, h3⟩ := opK_spec (L := L) (ops := ops) hcf hsum o hr hb
        obtain ⟨wt', h6, h7⟩ := keep_spec (low := low') h3 hb
        obtain ⟨t2, hh2, n2, low2, h4, h5⟩ := stepsK_spec hcf hsum l h7 hb
        refine ⟨t2, hh2, n2, low2, ?_, h5⟩
        simp only [runPlan, hg, h2, fsK_eq, he, h6, h4]
theorem thenR_spec {r0 r : FR} {k : Tr → HT → Nat → Nat → FR} (hr : thenR r0 k = r) (hb : r ≠ .bad) : ∃ e t h n low, r0 = .ok e t h n low ∧ ((e = .normal ∧ k t h n low = r) ∨ (∃ id, e = .exit id ∧ r = .ok (.exit id) t h n low) ∨ (e = .ret ∧ r = .ok .ret t h n low)) := by
  cases r0 with
  | bad => exact absurd hr.symm hb
  | ok e t h n low =>
    refine ⟨e, t, h, n, low, rfl, ?_⟩
    cases e with
    | normal => exact .inl ⟨rfl, hr⟩
    | exit id => exact .inr (.inl ⟨id, rfl, hr.symm⟩)
    | ret => exact .inr (.inr ⟨rfl, hr.symm⟩)
theorem fRun_spec (hcf : CFOk cf cs) (hsum : SumsOk L cs) {E : Env} (hE : ∀ f id, E.blk f id = none) (f : FuncId) (pt : Plans) : ∀ (m : Nat) (c : Code) (_ : chkCode P pt c = true) {t : Tr} {h : HT} {n low : Nat} {e : AExit} {t' : Tr} {h' : HT} {n' low' : Nat}, fRun P cf cs m (cCode P L pt c) t h n low = .ok e t' h' n' low' →
    evCode P E cs f m c t (toS h n low) = some (e, t', toS h' n' low')
  | 0, c, _, t, h, n, low, e, t', h', n', low', hr => by cases hr
  | m + 1, c, hk, t, h, n, low, e, t', h', n', low', hr => by
    have ih := fun c hk => @fRun_spec hcf hsum E hE f pt m c hk
    have hb : (FR.ok e t' h' n' low') ≠ .bad := by simp
    have hr : fcH (cCode P L pt c) P cf cs (fRun P cf cs m) t h n low = .ok e t' h' n' low' := hr
    cases c with
    | skip => cases hr; rfl
    | region id ops draw =>
      have hr : fcH (cRegion P L pt id ops draw) P cf cs (fRun P cf cs m) t h n low = .ok e t' h' n' low' := hr
      unfold cRegion at hr
      simp only [evCode, evRegion]
      cases draw with
      | true =>
        simp only [if_true] at hr ⊢
        simp only [chkCode] at hk
        split at hr
        · rename_i pl hpl
          rw [hpl] at hk
          simp only at hk
          obtain ⟨l, hl1, rfl⟩ := chkPlan_spec hk
          rw [List.map_map] at hr
          have hr : stepsK (l.map fun i => cStep P L ops (planE P ops (befs ops) i)) P cf cs t h n low [] = .ok e t' h' n' low' := hr
          unfold evDraw
          obtain ⟨t2, h2, n2, low2, h3, h4⟩ := stepsK_spec hcf hsum l hr hb
          cases h4
          simp only [hl1, h3]
        · have hr : (match evDraw P cs ops t (toS h n low) with
            | some (t, s) => ofS s fun h n low => .ok .normal t h n low
            | none => .bad) = FR.ok e t' h' n' low' := hr
          split at hr
          · rename_i t2 s2 hd
            obtain ⟨h3, n3, low3, rfl, h4⟩ := ofS_spec hr hb
            cases h4
            rw [hd]
          · cases hr
      | false =>
        simp only [Bool.false_eq_true, if_false] at hr ⊢
        have hr : opsK (ops.toList.map (cOp P L ops)) P cf cs t h n low = .ok e t' h' n' low' := hr
        obtain ⟨t2, h2, n2, low2, h3, h4⟩ := opsK_spec hcf hsum ops.toList hr hb
        cases h4
        rw [h3]
    | seq a b =>
      have hr : thenR (fRun P cf cs m (cCode P L pt a) t h n low) (fRun P cf cs m (cCode P L pt b)) = .ok e t' h' n' low' := hr
      obtain ⟨e1, t1, h1, n1, low1, h2, h3⟩ := thenR_spec hr hb
      simp only [chkCode, Bool.and_eq_true] at hk
      have h2 := ih a hk.1 h2
      simp only [evCode, h2]
      rcases h3 with ⟨rfl, h3⟩ | ⟨id, rfl, h3⟩ | ⟨rfl, h3⟩
      · exact ih b hk.2 h3
      · cases h3; rfl
      · cases h3; rfl
    | cond x a b =>
      have hr : opdK (cOpd P x) t (fun v => boolVK v (fRun P cf cs m (cCode P L pt a) t h n low) (fRun P cf cs m (cCode P L pt b) t h n low)) = .ok e t' h' n' low' := hr
      obtain ⟨v, h1, h2⟩ := opdK_spec hr hb
      simp only [evCode, evCond]
      rcases boolVK_spec h1 hb with ⟨rfl, h3⟩ | ⟨rfl, h3⟩
      · simp only [chkCode, Bool.and_eq_true] at hk
        simp only [h2 _ rfl, test_closed (toS_path h n low)]; exact ih a hk.1 h3
      · simp only [chkCode, Bool.and_eq_true] at hk
        simp only [h2 _ rfl, test_closed (toS_path h n low)]; exact ih b hk.2 h3
    | block id a =>
      have hr : leaveR id (fRun P cf cs m (cCode P L pt a) t h n low) = .ok e t' h' n' low' := hr
      simp only [evCode, evBlock, hE]
      cases hq : fRun P cf cs m (cCode P L pt a) t h n low with
      | bad => rw [hq] at hr; cases hr
      | ok e1 t1 h1 n1 low1 =>
        rw [hq] at hr
        have h2 := ih a hk hq
        rw [h2]
        cases e1 with
        | normal => cases hr; rfl
        | ret => cases hr; rfl
        | exit id' =>
          have hr : (Bool.rec (motive := fun _ => FR) (.ok (.exit id') t1 h1 n1 low1) (.ok .normal t1 h1 n1 low1) (Nat.beq id' id) : FR) = .ok e t' h' n' low' := hr
          simp only [evLeave]
          cases hi : Nat.beq id' id with
          | true =>
            rw [hi] at hr; cases hr
            rw [if_pos (Nat.eq_of_beq_eq_true hi)]
          | false =>
            rw [hi] at hr; cases hr
            rw [if_neg (Nat.ne_of_beq_eq_false hi)]
    | loop a =>
      have hr : thenR (fRun P cf cs m (cCode P L pt a) t h n low) (fRun P cf cs m (cCode P L pt (.loop a))) = .ok e t' h' n' low' := hr
      obtain ⟨e1, t1, h1, n1, low1, h2, h3⟩ := thenR_spec hr hb
      have h2 := ih a hk h2
      simp only [evCode, h2]
      rcases h3 with ⟨rfl, h3⟩ | ⟨id, rfl, h3⟩ | ⟨rfl, h3⟩
      · exact ih (.loop a) hk h3
      · cases h3; rfl
      · cases h3; rfl
    | rangeFunc x ps a b => cases hr
    | exit id => cases hr; rfl
    | scope a => exact ih a hk hr
    | label l => cases hr; rfl
    | goto l => cases hr
    | ret => cases hr; rfl
    | refuse w => cases hr
theorem ldK_spec {v : Value} {ty : TypeId} {i : TypeInfo} (ha : isAggT P ty = some false) (hi : P.info? ty = some i) {h : HT} {n low : Nat} {k : Value → FR} {r : FR} (hr : ldK v h n k = r) (hb : r ≠ .bad) :
    ∃ u, asSome v = some v ∧ evLoad P ty v (toS h n low) = some (u, toS h n low) ∧ k u = r := by
  obtain ⟨b, off, rfl, h3⟩ := ptrVK_spec hr hb
  obtain ⟨h4, h5⟩ := ifK_spec h3 hb
  rw [objK_eq] at h5
  obtain ⟨h6, h7⟩ := ifK_spec h5 hb
  obtain ⟨u, h8, h9⟩ := cellK_spec h7 hb
  have hb' : b < n := Nat.le_of_ble_eq_true h4
  have hs' : (htG (pth b) h).st < 3 := Nat.le_of_ble_eq_true h6
  refine ⟨u, rfl, ?_, h9⟩
  simp only [evLoad, toS_live hb' hs', ha, hi]
  have hlt : off < (htG (pth b) h).cells.toList.length := (List.getElem?_eq_some_iff.1 h8).1
  rw [readCells_closed rfl (by have := hlt; simp at this; omega)]
  have : (exQ (htG (pth b) h).cells off 1).toList = [u] := by
    rw [exQ_list, List.drop_eq_getElem_cons hlt]
    have := (List.getElem?_eq_some_iff.1 h8).2
    simp [this]
  simp only [this]
theorem ldNK_spec {v : Value} {ty : TypeId} {i : TypeInfo} (ha : isAggT P ty = some true) (hi : P.info? ty = some i) {h : HT} {n low : Nat} {k : Value → FR} {r : FR} (hr : ldNK i.size v h n k = r) (hb : r ≠ .bad) :
    ∃ u, asSome v = some v ∧ evLoad P ty v (toS h n low) = some (u, toS h n low) ∧ k u = r := by
  obtain ⟨b, off, rfl, h3⟩ := ptrVK_spec hr hb
  obtain ⟨h4, h5⟩ := ifK_spec h3 hb
  rw [objK_eq] at h5
  obtain ⟨h6, h7⟩ := ifK_spec h5 hb
  obtain ⟨h8, h9⟩ := dropK_spec h7 hb
  obtain ⟨h10, h11⟩ := takeK_spec h9 hb
  have hb' : b < n := Nat.le_of_ble_eq_true h4
  have hs' : (htG (pth b) h).st < 3 := Nat.le_of_ble_eq_true h6
  refine ⟨_, rfl, ?_, h11⟩
  simp only [evLoad, toS_live hb' hs', ha, hi]
  rw [readCells_closed rfl (by simp at h8 h10; omega)]
  rfl
theorem resK_spec : ∀ (l : List ResultVar) {t : Tr} {h : HT} {n low : Nat} {k : List Value → FR} {r : FR}, resK (l.map (cRes P)) t h n k = r → r ≠ .bad → ∃ vs, evResults P t l (toS h n low) = some (vs, toS h n low) ∧ k vs = r
  | [], t, h, n, low, k, r, hr, hb => ⟨[], rfl, hr⟩
  | .tmp i :: l, t, h, n, low, k, r, hr, hb => by
    obtain ⟨h1, h2⟩ := valK_spec (v := trG (pth i) t) (k := fun v => resK (l.map (cRes P)) t h n fun r => k (v :: r)) hr hb
    obtain ⟨vs, h3, h4⟩ := resK_spec (low := low) l h2 hb
    rw [trG_eq] at h1 h4
    exact ⟨_, by simp only [evResults, evResult, h1, h3], h4⟩
  | .cell i ty :: l, t, h, n, low, k, r, hr, hb => by
    have hr : (FRes.rec (motive := fun _ => FR) (fun p => valK (trG p t) fun v => resK (l.map (cRes P)) t h n fun r => k (v :: r))
      (fun p => ldK (trG p t) h n fun v => resK (l.map (cRes P)) t h n fun r => k (v :: r)) (fun m p => ldNK m (trG p t) h n fun v => resK (l.map (cRes P)) t h n fun r => k (v :: r)) .bad (cRes P (.cell i ty)) : FR) = r := hr
    unfold cRes at hr
    simp only at hr
    split at hr
    · rename_i x ha hi
      obtain ⟨u, h1, h2, h3⟩ := ldNK_spec (low := low) ha hi hr hb
      obtain ⟨vs, h4, h5⟩ := resK_spec (low := low) l h3 hb
      rw [trG_eq] at h1 h2
      exact ⟨_, by simp only [evResults, evResult, h1, h2, h4], h5⟩
    · rename_i x ha hi
      obtain ⟨u, h1, h2, h3⟩ := ldK_spec (low := low) ha hi hr hb
      obtain ⟨vs, h4, h5⟩ := resK_spec (low := low) l h3 hb
      rw [trG_eq] at h1 h2
      exact ⟨_, by simp only [evResults, evResult, h1, h2, h4], h5⟩
    · exact absurd hr.symm hb
theorem endK_spec {v : Value} {n0 low0 : Nat} {h0 h : HT} {n low : Nat} {k : FK} {r : FR} (hr : endK v n0 low0 h n low k = r) (hb : r ≠ .bad) : ∃ h' n' low', finish (toS h0 n0 low0) v (toS h n low) = (v, toS h' n' low') ∧ k v h' n' low' = r := by
  unfold endK at hr
  unfold finish
  rw [flatQ_eq] at hr
  rw [toS_len]
  cases hf : flat v with
  | false =>
    rw [hf] at hr
    exact ⟨h, n, min low0 low, by simp [toS], hr⟩
  | true =>
    rw [hf] at hr
    cases hl : Nat.ble n0 low with
    | false =>
      rw [hl] at hr
      have : ¬ n0 ≤ low := fun hc => by rw [Nat.ble_eq_true_of_le hc] at hl; cases hl
      refine ⟨h, n, min low0 low, ?_, hr⟩
      have hd : decide (n0 ≤ (toS h n low).low) = false := decide_eq_false this
      rw [hd]; rfl
    | true =>
      rw [hl] at hr
      obtain ⟨h1, h2⟩ := ifK_spec hr hb
      have h1 : n0 ≤ n := Nat.le_of_ble_eq_true h1
      have hd : decide (n0 ≤ (toS h n low).low) = true := decide_eq_true (Nat.le_of_ble_eq_true hl)
      refine ⟨h, n0, low0, ?_, h2⟩
      rw [hd]
      simp only [Bool.and_self, if_true]
      show (v, (⟨⟨(arrL h n).take n0⟩, low0, none, []⟩ : St)) = (v, toS h n0 low0)
      rw [arrL_take _ _ _ h1]; rfl
theorem oneK_spec {vs : List Value} {k : Value → FR} {r : FR} (hr : oneK vs k = r) : ∃ v, k v = r ∧ (vs = [v] ∨ (v = .tuple vs.toArray ∧ ∀ u, vs ≠ [u])) := by
  unfold oneK at hr
  split at hr
  · exact ⟨_, hr, .inl rfl⟩
  · rename_i h; exact ⟨_, hr, .inr ⟨rfl, fun u hu => h u hu⟩⟩
/-- The orders are those that are found. -/
def PlansOk (P : Program) : AllPlans → Prop
  | [] => True
  | (f, t) :: r => (∀ fn c, getQ P.funcs f = some fn → fn.body = some c → chkCode P t c = true) ∧ PlansOk P r
theorem chkCode_nil : ∀ c : Code, chkCode P [] c = true
  | .region _ _ draw => by cases draw <;> rfl
  | .seq a b => by simp [chkCode, chkCode_nil a, chkCode_nil b]
  | .cond _ a b => by simp [chkCode, chkCode_nil a, chkCode_nil b]
  | .block _ a => by simp [chkCode, chkCode_nil a]
  | .loop a => by simp [chkCode, chkCode_nil a]
  | .scope a => by simp [chkCode, chkCode_nil a]
  | .skip | .rangeFunc _ _ _ _ | .exit _ | .label _ | .goto _ | .ret | .refuse _ => rfl
theorem PlansOk.look : ∀ {pts : AllPlans}, PlansOk P pts → ∀ {f : FuncId} {fn : Func} {c : Code}, getQ P.funcs f = some fn → fn.body = some c → chkCode P (lookP pts f) c = true
  | [], _, f, fn, c, _, _ => chkCode_nil c
  | (g, t) :: r, hp, f, fn, c, hf, hc => by
    unfold lookP
    split
    · rename_i hb
      have := Nat.eq_of_beq_eq_true hb
      subst this
      exact hp.1 fn c hf hc
    · exact hp.2.look hf hc
theorem chkCode_nav {t : Plans} : ∀ (p : List Nat) (c : Code), chkCode P t c = true → chkCode P t (nav p c) = true
  | [], c, h => h
  | i :: r, c, h => by
    cases c with
    | seq a b =>
      simp only [chkCode, Bool.and_eq_true] at h
      cases i with
      | zero => exact chkCode_nav r a h.1
      | succ i => exact chkCode_nav r b h.2
    | cond x a b =>
      simp only [chkCode, Bool.and_eq_true] at h
      cases i with
      | zero => exact chkCode_nav r a h.1
      | succ i => exact chkCode_nav r b h.2
    | block id a => exact chkCode_nav r a h
    | loop a => exact chkCode_nav r a h
    | scope a => exact chkCode_nav r a h
    | _ => rfl
theorem bodyR_spec {pts : AllPlans} (hpts : PlansOk P pts) (hcf : CFOk cf cs) (hsum : SumsOk L cs) {E : Env} (hE : ∀ f id, E.blk f id = none) {m : Nat} {f : FuncId} {args : List Value} {h : HT} {n low : Nat} {k : FK} {r : FR} (hr : bodyR (fRun P cf cs m) (cFunc P L pts f) args h n low k = r) (hb : r ≠ .bad) :
    ∃ fn, getQ P.funcs f = some fn ∧ ∃ v h' n' low', evBody P (evCodeF P E cs f m) fn ⟨args⟩ (toS h n low) = some (v, toS h' n' low') ∧ k v h' n' low' = r := by
  unfold cFunc at hr
  split at hr
  · exact absurd hr.symm hb
  rename_i fn hfn
  split at hr
  · exact absurd hr.symm hb
  rename_i c hc
  split at hr
  case isFalse => exact absurd hr.symm hb
  rename_i hn
  have hr : lenK args (fun m' => ifK (Nat.ble m' fn.ntmps) (FR.rec (motive := fun _ => FR) .bad
    (fun e t h n1 low1 => AExit.rec (motive := fun _ => FR) (resK (fn.results.toList.map (cRes P)) t h n1 fun vs => oneK vs fun v => endK v n low h n1 low1 k) (fun _ => .bad) (resK (fn.results.toList.map (cRes P)) t h n1 fun vs => oneK vs fun v => endK v n low h n1 low1 k) e)
    (fRun P cf cs m (cCode P L (lookP pts f) c) (Tr.mk fn.ntmps (argAt args) 13 1 0) h n n))) = r := hr
  rw [lenK_eq] at hr
  obtain ⟨h1, h2⟩ := ifK_spec hr hb
  refine ⟨fn, hfn, ?_⟩
  cases hq : fRun P cf cs m (cCode P L (lookP pts f) c) (Tr.mk fn.ntmps (argAt args) 13 1 0) h n n with
  | bad => rw [hq] at h2; exact absurd h2.symm hb
  | ok e t h3 n1 low1 =>
    rw [hq] at h2
    have hrun := fRun_spec hcf hsum hE f (lookP pts f) m c (hpts.look hfn hc) hq
    have h1 : args.length ≤ fn.ntmps := Nat.le_of_ble_eq_true h1
    have hbody : evBody P (evCodeF P E cs f m) fn ⟨args⟩ (toS h n low) = evLeft P fn (toS h n low) (some (e, t, toS h3 n1 low1)) := by
      unfold evBody
      simp only [hc]
      rw [if_pos ⟨hn, by simpa using h1⟩, evCodeF_eq, toS_size, ← hrun]
      rfl
    rw [hbody]
    have fin : (resK (fn.results.toList.map (cRes P)) t h3 n1 fun vs => oneK vs fun v => endK v n low h3 n1 low1 k) = r → (e = .normal ∨ e = .ret) → ∃ v h' n' low', evLeft P fn (toS h n low) (some (e, t, toS h3 n1 low1)) = some (v, toS h' n' low') ∧ k v h' n' low' = r := by
      intro q he
      obtain ⟨vs, q1, q2⟩ := resK_spec (P := P) (low := low1) _ q hb
      obtain ⟨v, q3, q4⟩ := oneK_spec q2
      obtain ⟨h', n', low', q5, q6⟩ := endK_spec (h0 := h) q3 hb
      refine ⟨v, h', n', low', ?_, q6⟩
      have : evReturn P fn (toS h n low) t (toS h3 n1 low1) = some (v, toS h' n' low') := by
        unfold evReturn
        rw [q1]
        rcases q4 with rfl | ⟨rfl, q4⟩
        · simp only [q5]
        · split
          · rename_i u s2 heq
            simp only [Option.some.injEq, Prod.mk.injEq] at heq
            exact absurd heq.1 (q4 _)
          · rename_i us s2 hne heq
            simp only [Option.some.injEq, Prod.mk.injEq] at heq
            obtain ⟨rfl, rfl⟩ := heq
            rw [q5]
          · rename_i heq; cases heq
      rcases he with rfl | rfl <;> exact this
    cases e with
    | normal => exact fin h2 (.inl rfl)
    | ret => exact fin h2 (.inr rfl)
    | exit id => exact absurd h2.symm hb
theorem sums_ok (m : Nat) : SumsOk L (evCall P (pureEnv L) (m + 1)) := by
  intro f g hg args s
  have : (pureEnv L).call f = some (pureCall g) := by simp only [pureEnv, hg]
  simp only [evCall, this]
theorem fCall_spec {pts : AllPlans} (hpts : PlansOk P pts) : ∀ (m : Nat), CFOk (fCall P L pts m) (evCall P (pureEnv L) m)
  | 0 => fun f args h n low k r hr hb => absurd hr.symm hb
  | 1 => fun f args h n low k r hr hb => by
    have hr : (match lookF L f with
      | some _ => FR.bad
      | none => FR.bad) = r := hr
    split at hr <;> exact absurd hr.symm hb
  | m + 2 => fun f args h n low k r hr hb => by
    have hr : (match lookF L f with
      | some _ => FR.bad
      | none => bodyR (fRun P (fCall P L pts (m + 1)) (evCall P (pureEnv L) (m + 1)) (m + 1)) (cFunc P L pts f) args h n low k) = r := hr
    split at hr
    · exact absurd hr.symm hb
    rename_i hl
    obtain ⟨fn, h1, v, h', n', low', h2, h3⟩ := bodyR_spec hpts (fCall_spec hpts (m + 1)) (sums_ok m) (E := pureEnv L) (fun _ _ => rfl) hr hb
    refine ⟨v, h', n', low', ?_, h3⟩
    have hc : (pureEnv L).call f = none := by simp only [pureEnv, hl]
    show (match (pureEnv L).call f with
      | some σ => σ ⟨args⟩ (toS h n low)
      | none => match getQ P.funcs f with
        | none => none
        | some fn => evBody P (evCodeF P (pureEnv L) (evCall P (pureEnv L) (m + 1)) f (m + 1)) fn ⟨args⟩ (toS h n low)) = _
    rw [hc]
    simp only [h1]
    exact h2

/-! Pieces. -/
theorem keepF_eq {g : Nat} {m : List Nat} {h : HT} {n low : Nat} : ∀ {l : List Nat} {os : List AObj}, keepF g m h n l = some os → keepO g m (toS h n low).heap l = some os
  | [], os, hk => hk
  | b :: l, os, hk => by
    simp only [keepF] at hk
    split at hk
    case h_2 => cases hk
    rename_i hlt
    split at hk
    case h_2 => cases hk
    rename_i o os' h1 h2
    simp only [Option.some.injEq] at hk
    subst hk
    simp only [keepO, toS_get, if_pos (show b < n from Nat.le_of_ble_eq_true hlt), h1, keepF_eq (low := low) h2]
theorem pieceF_spec {pts : AllPlans} (hpts : PlansOk P pts) {fuel g : Nat} {c : Code} {nt : Nat} {f : FuncId} {m ks : List Nat} {Lo Lo' : List AObj} {K K' : List (Nat × Value)} {e : AExit} (hc : chkCode P (lookP pts f) c = true) (h : pieceF P L pts f fuel g c nt m ks Lo K = some (e, Lo', K')) :
    ∃ t s', evCode P (pureEnv L) (evCall P (pureEnv L) (fuel + 1)) f fuel c (tk nt K) ⟨hk g Lo, 0, none, []⟩ = some (e, t, s') ∧ s'.cons = [] ∧ view g m ks nt s'.heap t = some (Lo', K') := by
  unfold pieceF at h
  obtain ⟨h0, h1, h2⟩ := htOfK_spec (List.replicate g objDead ++ Lo) 0 .leaf (fun h n => fRun P (fCall P L pts (fuel + 1)) (evCall P (pureEnv L) (fuel + 1)) fuel (cCode P L (lookP pts f) c) (tk nt K) h n 0)
  rw [h2] at h
  have hst : (⟨hk g Lo, 0, none, []⟩ : St) = toS h0 (0 + (List.replicate g objDead ++ Lo).length) 0 := by
    unfold toS hk
    rw [h1]; rfl
  cases hq : fRun P (fCall P L pts (fuel + 1)) (evCall P (pureEnv L) (fuel + 1)) fuel (cCode P L (lookP pts f) c) (tk nt K) h0 (0 + (List.replicate g objDead ++ Lo).length) 0 with
  | bad => rw [hq] at h; cases h
  | ok e1 t1 h3 n1 low1 =>
    rw [hq] at h
    have hrun := fRun_spec (fCall_spec hpts (fuel + 1)) (sums_ok fuel) (E := pureEnv L) (fun _ _ => rfl) f (lookP pts f) fuel c hc hq
    have h : (match viewF g m ks nt h3 n1 t1 with
      | some (L', K') => some (e1, L', K')
      | none => none) = some (e, Lo', K') := h
    split at h
    case h_2 => cases h
    rename_i L1 K1 hv
    simp only [Option.some.injEq, Prod.mk.injEq] at h
    obtain ⟨rfl, rfl, rfl⟩ := h
    refine ⟨t1, toS h3 n1 low1, by rw [hst]; exact hrun, rfl, ?_⟩
    unfold viewF at hv
    split at hv
    case h_2 => cases hv
    rename_i L2 K2 a1 a2 a3
    simp only [Option.some.injEq, Prod.mk.injEq] at hv
    obtain ⟨rfl, rfl⟩ := hv
    unfold view
    simp only [a1, keepF_eq (low := low1) a2, a3]
theorem pieceF_goes (hL : PureSums P L) {pts : AllPlans} (hpts : PlansOk P pts) (hP : Good P) {W0 : World} {fuel : Nat} {p m ks : List Nat} {Lo Lo' : List AObj} {K K' : List (Nat × Value)} {e : AExit} {f : FuncId} {fn : Func} {c : Code} (hf : P.funcs[f]? = some fn) (hb : fn.body = some c) (hok : okCode (nav p c) = true)
    (h : pieceF P L pts f fuel P.globals.size (nav p c) fn.ntmps m ks Lo K = some (e, Lo', K')) : Goes P W0 (nav p c) (hk P.globals.size Lo) (tk fn.ntmps K) e (hk P.globals.size Lo') (tk fn.ntmps K') := by
  obtain ⟨t, s', h1, h2, h3⟩ := pieceF_spec hpts (f := f) (chkCode_nav p c (hpts.look (by rw [getQ_eq]; exact hf) hb)) h
  have := Goes.run (W0 := W0) (pureEnv_sound hL) hP hok h1 (fun p hp => by rw [h2] at hp; cases hp)
  exact fun a w Q hat hQ => this a w Q hat fun a' w' hat' => hQ a' w' (hat'.view h3)
theorem plans_of {f : FuncId} {fn0 : Func} {t : Plans} (h0 : P.funcs[f]? = some fn0) (h : chkCode P t (bodyOf fn0) = true) : ∀ fn c, getQ P.funcs f = some fn → fn.body = some c → chkCode P t c = true := by
  intro fn c hf hc
  rw [getQ_eq, h0] at hf
  simp only [Option.some.injEq] at hf
  subst hf
  unfold bodyOf at h
  rw [hc] at h; exact h
end Go.Ev
