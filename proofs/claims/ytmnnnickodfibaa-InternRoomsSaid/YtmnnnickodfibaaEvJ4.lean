/- THE EVALUATOR: a region that draws its order: what only looks may be made before its turn, if what it looked at stays. -/
import Derived.Test.YtmnnnickodfibaaEvJ3
import Derived.OrdersHeld
namespace Go.Ev
open Go.RowKit
variable {P : Program} {B : Nat}

theorem readCells_fit {s s' : St} {off n : Nat} {o : AObj} {cs : Array Value} (h : readCells s o off n = some (cs, s')) (hh : s'.Holds) : off + n ≤ o.cells.size := by
  unfold readCells at h
  split at h
  · split at h
    · simp only [Option.some.injEq, Prod.mk.injEq] at h
      obtain ⟨rfl, rfl⟩ := h
      exact (hh _ List.mem_cons_self).1
    · cases h
  · simp only [Option.some.injEq, Prod.mk.injEq] at h
    obtain ⟨rfl, rfl⟩ := h
    exact (hh _ List.mem_cons_self).1
  · split at h
    · assumption
    · cases h

theorem evLoad_pin {ρ : Rho} {s s' : St} {w : World} {ty : TypeId} {a a' v : Value} (h : evLoad P ty a s = some (v, s')) (hh : s'.Holds)
    (hr : HRel P B ρ s.heap w) (ha : VRel s.heap.size ρ a a') : Same s s' ∧ ∃ v', VRel s.heap.size ρ v v' ∧ ∀ w2 : World,
      (∀ b off, a = .pointer (some ⟨b, off, none⟩) → ∀ j, j < (ρ b).size → w2.cell? ⟨(ρ b).blk, (ρ b).shift + j, none⟩ = w.cell? ⟨(ρ b).blk, (ρ b).shift + j, none⟩) → (Instr.loadAt ty a').run P w2 = .ok v' w2 := by
  unfold evLoad at h
  split at h
  case h_2 => cases h
  rename_i b off
  obtain ⟨rfl, hb⟩ := ptr_inv ha
  have hadd : ρ.addr ⟨b, off, none⟩ = ⟨(ρ b).blk, (ρ b).shift + off, none⟩ := rfl
  split at h
  · rename_i o i hl hagg hi
    obtain ⟨ho, hst⟩ := live_spec hl
    have hsz := (hr.obj b o ho hst).1
    split at h
    · rename_i cs s1 hrd
      simp only [Option.some.injEq, Prod.mk.injEq] at h
      obtain ⟨rfl, rfl⟩ := h
      have hfit := readCells_fit hrd hh
      obtain ⟨hsame, cs', e1, e2, e3, e4⟩ := readCells_spec hrd hh ho hst hr
      refine ⟨hsame, .agg cs'.toArray, .agg (by simp; omega) fun i h1 h2 => ?_, fun w2 hw2 => ?_⟩
      · have := (e4 i h1 (by simpa using h2)).2
        simpa using this
      have hload : (loadCells ⟨(ρ b).blk, (ρ b).shift + off, none⟩ i.size).run P w2 = .ok cs'.toArray w2 := by
        have := run_loadCells_list (P := P) w2 ⟨(ρ b).blk, (ρ b).shift + off, none⟩ cs' (fun j v hv => by
          have hj := (List.getElem?_eq_some_iff.1 hv).1
          rw [Addr.add_mid, Nat.add_assoc, hw2 b off rfl (off + j) (by omega), ← Nat.add_assoc]
          exact e3 j v hv)
        rw [e1] at this; exact this
      rw [hadd]
      simp [Instr.loadAt, Instr.sureAddr, loadVar, Sem.run_bind, isAggT_run hagg, sizeOf, typeInfo, hi, hload]
    · cases h
  · rename_i o i hl hagg hi
    obtain ⟨ho, hst⟩ := live_spec hl
    have hsz := (hr.obj b o ho hst).1
    split at h
    · rename_i cs s1 hrd
      split at h
      · rename_i u hu
        simp only [Option.some.injEq, Prod.mk.injEq] at h
        obtain ⟨rfl, rfl⟩ := h
        have hfit := readCells_fit hrd hh
        obtain ⟨hsame, cs', e1, e2, e3, e4⟩ := readCells_spec hrd hh ho hst hr
        match cs', e1, e3, e4 with
        | [c], _, e3, e4 =>
          have hc := e3 0 c rfl
          have h4 := (e4 0 (by omega) (by simp)).2
          have e5 : cs[0]'(by omega) = u := by
            cases cs with | mk l => simp only at hu; subst hu; rfl
          rw [e5] at h4
          refine ⟨hsame, c, h4, fun w2 hw2 => ?_⟩
          simp only [Nat.add_zero] at hc
          rw [← hw2 b off rfl off (by omega)] at hc
          rw [hadd]
          simp [Instr.loadAt, Instr.sureAddr, loadVar, Sem.run_bind, isAggT_run hagg, hc]
      · cases h
    · cases h
  · cases h

theorem readCells_cons {s s' : St} {off n : Nat} {o : AObj} {cs : Array Value} (h : readCells s o off n = some (cs, s')) : ∃ l, s'.cons = l ++ s.cons := by
  unfold readCells at h
  split at h
  · split at h
    · simp only [Option.some.injEq, Prod.mk.injEq] at h
      obtain ⟨rfl, rfl⟩ := h
      exact ⟨[_], rfl⟩
    · cases h
  · simp only [Option.some.injEq, Prod.mk.injEq] at h
    obtain ⟨rfl, rfl⟩ := h
    exact ⟨[_], rfl⟩
  · split at h
    · simp only [Option.some.injEq, Prod.mk.injEq] at h
      obtain ⟨rfl, rfl⟩ := h
      exact ⟨[], rfl⟩
    · cases h
theorem evLoad_cons {s s' : St} {ty : TypeId} {a v : Value} (h : evLoad P ty a s = some (v, s')) : ∃ l, s'.cons = l ++ s.cons := by
  unfold evLoad at h
  split at h
  case h_2 => cases h
  split at h
  · split at h
    · rename_i hrd
      simp only [Option.some.injEq, Prod.mk.injEq] at h
      obtain ⟨rfl, rfl⟩ := h
      exact readCells_cons hrd
    · cases h
  · split at h
    · rename_i hrd
      split at h
      · simp only [Option.some.injEq, Prod.mk.injEq] at h
        obtain ⟨rfl, rfl⟩ := h
        exact readCells_cons hrd
      · cases h
    · cases h
  · cases h

theorem evFieldAddr_run {ρ : Rho} {s s' : St} {n : Nat} {ty : TypeId} {f : Nat} {a a' v : Value} (h : evFieldAddr P ty a f s = some (v, s'))
    (ha : VRel n ρ a a') : s' = s ∧ ∃ v', VRel n ρ v v' ∧ ∀ w : World, (Instr.fieldAt ty a' f).run P w = .ok v' w := by
  unfold evFieldAddr at h
  split at h
  case h_2 => cases h
  rename_i b off fields hu
  obtain ⟨rfl, hb⟩ := ptr_inv ha
  split at h
  case h_2 => cases h
  rename_i fd hf
  split at h
  case h_2 => cases h
  rename_i i hi
  split at h
  case isTrue => cases h
  rename_i hz
  simp only [Option.some.injEq, Prod.mk.injEq] at h
  obtain ⟨rfl, rfl⟩ := h
  have hadd : ρ.addr ⟨b, off, none⟩ = ⟨(ρ b).blk, (ρ b).shift + off, none⟩ := rfl
  refine ⟨rfl, .pointer (some (ρ.addr ⟨b, off + fd.offset, none⟩)), .ptr hb, fun w => ?_⟩
  rw [hadd]
  simp [Instr.fieldAt, Instr.sureAddr, Sem.run_bind, run_underlying hu, hf, fieldPlace, sizeOf, typeInfo, hi, hz, Addr.add_mid, Rho.addr, Nat.add_assoc]

theorem evIndexAddr_run {ρ : Rho} {s s' : St} {n : Nat} {ty : TypeId} {x x' ix ix' v : Value} (h : evIndexAddr P ty x ix s = some (v, s')) (hh : s'.Holds)
    (hx : VRel n ρ x x') (hi : VRel n ρ ix ix') : Same s s' ∧ ∃ v', VRel n ρ v v' ∧ ∀ w : World, (Instr.indexAt ty x' ix').run P w = .ok v' w := by
  unfold evIndexAddr at h
  split at h
  · rename_i k i b off len c elem hu
    split at h
    case h_2 => cases h
    rename_i e s1 he hn
    simp only [Option.some.injEq, Prod.mk.injEq] at h
    obtain ⟨rfl, rfl⟩ := h
    obtain ⟨hs, hc⟩ := need_spec hn
    have hc := hc hh
    simp only [decide_eq_true_eq] at hc
    obtain ⟨hb, _, _, ⟨c', rfl, _⟩ | ⟨rfl, _⟩⟩ := slice_inv hx
    case inr => omega
    have := int_inv hi
    subst this
    refine ⟨hs, .pointer (some (ρ.addr ⟨b, off + i.toNat * e.size, none⟩)), .ptr hb, fun w => ?_⟩
    simp [Instr.indexAt, asIntOf, Sem.run_bind, run_underlying hu, hc.1, hc.2, sizeOf, typeInfo, he, Addr.add_mid, Rho.addr, Nat.add_assoc]
  · rename_i k i b off len elem hu
    split at h
    case h_2 => cases h
    rename_i e s1 he hn
    simp only [Option.some.injEq, Prod.mk.injEq] at h
    obtain ⟨rfl, rfl⟩ := h
    obtain ⟨hs, hc⟩ := need_spec hn
    have hc := hc hh
    simp only [decide_eq_true_eq] at hc
    obtain ⟨rfl, hb⟩ := ptr_inv hx
    have := int_inv hi
    subst this
    refine ⟨hs, .pointer (some (ρ.addr ⟨b, off + i.toNat * e.size, none⟩)), .ptr hb, fun w => ?_⟩
    simp [Instr.indexAt, Instr.sureAddr, asIntOf, Sem.run_bind, run_underlying hu, hc.1, hc.2, sizeOf, typeInfo, he, Addr.add_mid, Rho.addr, Nat.add_assoc]
  · cases h

/-- What an operation that only looks looks at: that it is as it was. -/
def pinOf (P : Program) (ρ : Rho) (t : Tr) (o : Oper) (w : World) (w2 : World) : Prop :=
  (∀ ty x b off, o.op = .load ty x → opnd P t x = some (.pointer (some ⟨b, off, none⟩)) → ∀ j, j < (ρ b).size → w2.cell? ⟨(ρ b).blk, (ρ b).shift + j, none⟩ = w.cell? ⟨(ρ b).blk, (ρ b).shift + j, none⟩) ∧
  ∀ src dst x b off n c, o.op = .convert src dst x → opnd P t x = some (.slice (some ⟨b, off, none⟩) n c) → ∀ j, j < (ρ b).size → w2.cell? ⟨(ρ b).blk, (ρ b).shift + j, none⟩ = w.cell? ⟨(ρ b).blk, (ρ b).shift + j, none⟩

theorem evFlat_still {ρ : Rho} {n : Nat} {s s' : St} {o : Oper} {t : Tr} {a : Act} {v : Value} (h : evFlat P o t s = some (v, s')) (hh : s'.Holds) (hsel : ∀ cs b, o.op ≠ .select cs b)
    (hg : P.globals.size ≤ n ∧ ∀ g, g < P.globals.size → (ρ g).blk = g ∧ (ρ g).shift = 0 ∧ (ρ g).bad = false) (ht : TRel n ρ t a.tmps) : Same s s' ∧ Ev.flat v = true ∧ ∀ w, (execOp a.eval o).run P w = .ok (.value v) w := by
  unfold evFlat at h
  split at h
  case h_2 => cases h
  rename_i vs hvs
  split at h
  case isFalse => cases h
  rename_i hfl
  split at h
  case h_2 => cases h
  rename_i v0 hev
  split at h
  case isFalse => cases h
  rename_i hf
  obtain ⟨hsame, hn⟩ := named_spec h
  obtain rfl := hn hh
  obtain ⟨_, hm⟩ := opndsL_rel ht hg _ _ hvs
  have hcong : execOp (fun x => (opnd P t x).getD gone) o = execOp a.eval o := execOp_congr o hsel fun x hx => by
    obtain ⟨u, hu, hmem⟩ := hm x (by simpa using hx)
    have huf := flatL_all.1 hfl u hmem
    simp only [hu, Option.getD_some]
    exact ((opnd_rel hu ht hg).eq_of_flat huf).symm
  rw [hcong] at hev
  exact ⟨hsame, hf, fun w => evalPure_run _ _ hev w⟩
theorem run_val {m : Sem Value} {v : Value} {w w' : World} (h : m.run P w = .ok v w') : ((do pure (.value (← m)) : Sem Next)).run P w = .ok (.value v) w' := by
  rw [Sem.run_bind, h]; rfl

theorem early_spec {call : CallFn} (hgr : CallGrows call) {ρ : Rho} {s s' : St} {w : World} {ops : Array Oper} {o : Oper} {t : Tr} {a : Act} {v : Value} (he : isEarly P o = true)
    (h : evStepV P call ops o t s = some (v, s')) (hh : s'.Holds) (hr : HRel P B ρ s.heap w) (ht : TRel s.heap.size ρ t a.tmps) :
    Same s s' ∧ ∃ v', VRel s.heap.size ρ v v' ∧ YieldsIf P ops (pinOf P ρ t o w) o v' a := by
  unfold evStepV at h
  simp only [evOpF_eq] at h
  split at h
  · rename_i s1 hw
    suffices hk : s1.Holds → Same s1 s' ∧ ∃ v', VRel s.heap.size ρ v v' ∧ ∀ w2, pinOf P ρ t o w w2 → (execOp a.eval o).run P w2 = .ok (.value v') w2 by
      have hg : ∃ l, s'.cons = l ++ s1.cons := evOp_grows hgr h
      have hh1 : s1.Holds := by
        obtain ⟨l, e⟩ := hg
        exact fun p hp => hh p (by rw [e]; exact List.mem_append_right _ hp)
      obtain ⟨hs, hwt⟩ := evWanted_spec hw hh1 ht
      obtain ⟨k1, v', k2, k3⟩ := hk hh1
      exact ⟨hs.trans k1, v', k2, .inl ⟨hwt, k3⟩⟩
    intro hh1
    obtain ⟨hs, hwt0⟩ := evWanted_spec hw hh1 ht
    clear hwt0
    have hr1 : HRel P B ρ s1.heap w := by rw [hs.heap]; exact hr
    have rel : ∀ {x : Operand} {u : Value}, opnd P t x = some u → VRel s.heap.size ρ u (a.eval x) := fun hx => opnd_rel hx ht hr.glob
    obtain ⟨dst, op, ty, pos, after, guard⟩ := o
    cases op <;> first | (simp [isEarly] at he; done) | skip
    case move x =>
      simp only [evOp, evMove] at h
      split at h
      · rename_i u hu
        simp only [Option.some.injEq, Prod.mk.injEq] at h
        obtain ⟨rfl, rfl⟩ := h
        exact ⟨.refl _, _, rel hu, fun w2 _ => rfl⟩
      · cases h
    case assign x =>
      simp only [evOp, evMove] at h
      split at h
      · rename_i u hu
        simp only [Option.some.injEq, Prod.mk.injEq] at h
        obtain ⟨rfl, rfl⟩ := h
        exact ⟨.refl _, _, rel hu, fun w2 _ => rfl⟩
      · cases h
    case load ty2 x =>
      simp only [evOp, with1] at h
      split at h
      · rename_i u hu
        obtain ⟨k1, v', k2, k3⟩ := evLoad_pin h hh hr1 (by rw [hs.heap]; exact rel hu)
        rw [hs.heap] at k2
        refine ⟨k1, v', k2, fun w2 hp => ?_⟩
        have := k3 w2 fun b off hu' => hp.1 ty2 x b off rfl (by rw [hu, hu'])
        show ((do pure (.value (← Instr.loadAt ty2 (a.eval x))) : Sem Next)).run P w2 = _
        rw [Sem.run_bind, this]; rfl
      · cases h
    case fieldAddr ty2 x f =>
      simp only [evOp, with1] at h
      split at h
      · rename_i u hu
        obtain ⟨rfl, v', k2, k3⟩ := evFieldAddr_run h (rel hu)
        refine ⟨.refl _, v', k2, fun w2 hp => ?_⟩
        show ((do pure (.value (← Instr.fieldAt ty2 (a.eval x) f)) : Sem Next)).run P w2 = _
        rw [Sem.run_bind, k3]; rfl
      · cases h
    case indexAddr ty2 x ix =>
      simp only [evOp, with2] at h
      split at h
      · rename_i u1 u2 h1 h2
        obtain ⟨k1, v', k2, k3⟩ := evIndexAddr_run h hh (rel h1) (rel h2)
        refine ⟨k1, v', k2, fun w2 hp => ?_⟩
        show ((do pure (.value (← Instr.indexAt ty2 (a.eval x) (a.eval ix))) : Sem Next)).run P w2 = _
        rw [Sem.run_bind, k3]; rfl
      · cases h
    case binOp op2 ty2 x y ty3 =>
      have still : ∀ {v : Value} {s' : St}, Same s1 s' → Ev.flat v = true → (∀ w2, ((do eqGuard op2 ty2 x y (a.eval x) (a.eval y); binOp op2 ty2 (a.eval x) (a.eval y) : Sem Value)).run P w2 = .ok v w2) →
          Same s1 s' ∧ ∃ v', VRel s.heap.size ρ v v' ∧ ∀ w2, pinOf P ρ t ⟨dst, .binOp op2 ty2 x y ty3, ty, pos, after, guard⟩ w w2 → (execOp a.eval ⟨dst, .binOp op2 ty2 x y ty3, ty, pos, after, guard⟩).run P w2 = .ok (.value v') w2 :=
        fun k1 k2 k3 => ⟨k1, _, .flat k2, fun w2 _ => run_val (k3 w2)⟩
      have flatS : evFlat P ⟨dst, .binOp op2 ty2 x y ty3, ty, pos, after, guard⟩ t s1 = some (v, s') → Same s1 s' ∧ ∃ v', VRel s.heap.size ρ v v' ∧ ∀ w2, pinOf P ρ t ⟨dst, .binOp op2 ty2 x y ty3, ty, pos, after, guard⟩ w w2 → (execOp a.eval ⟨dst, .binOp op2 ty2 x y ty3, ty, pos, after, guard⟩).run P w2 = .ok (.value v') w2 :=
        fun h => by
          obtain ⟨k1, k2, k3⟩ := evFlat_still h hh (by simp) hr.glob ht
          exact ⟨k1, _, .flat k2, fun w2 _ => k3 w2⟩
      simp only [evOp, evBin] at h
      split at h
      · rename_i k a1 k' b1 h1 h2
        unfold evBinInt at h
        split at h
        · rename_i v1 s2 hi
          obtain ⟨hsame, hn⟩ := named_spec h
          obtain rfl := hn hh
          have hint := fun w2 => evInt_spec (P := P) (ty := ty2) hi (hsame.holds hh) x y w2
          refine still ((hint w).1.trans hsame) (hint w).2.1 fun w2 => ?_
          rw [(rel h1).eq_of_flat rfl, (rel h2).eq_of_flat rfl]
          exact (hint w2).2.2
        · rw [cond_eq_ite] at h
          split at h
          · cases h
          · exact flatS h
      case h_3 => cases h
      rename_i u1 u2 _ h1 h2
      split at h
      · rename_i hfl
        simp only [Bool.and_eq_true] at hfl
        unfold evBinFlat at h
        split at h
        · split at h
          · rename_i b hb
            simp only [Option.some.injEq, Prod.mk.injEq] at h
            obtain ⟨rfl, rfl⟩ := h
            refine still (.refl _) rfl fun w2 => ?_
            rw [(rel h1).eq_of_flat hfl.1, (rel h2).eq_of_flat hfl.2]
            exact evStrEq_run hb
          · exact flatS h
        split at h
        · rename_i b hb
          simp only [Option.some.injEq, Prod.mk.injEq] at h
          obtain ⟨rfl, rfl⟩ := h
          refine still (.refl _) rfl fun w2 => ?_
          rw [(rel h1).eq_of_flat hfl.1, (rel h2).eq_of_flat hfl.2]
          exact evAggEq_run hb
        split at h
        · rename_i r0 hfo
          simp only [Option.some.injEq] at h
          subst h
          have hfl2 := fun w2 => evFloat_run (P := P) (ty := ty2) (x := x) (y := y) (w := w2) hfo hh
          refine still (hfl2 w).1 (hfl2 w).2.1 fun w2 => ?_
          rw [(rel h1).eq_of_flat hfl.1, (rel h2).eq_of_flat hfl.2]
          exact (hfl2 w2).2.2
        · exact flatS h
      · unfold evBinNil at h
        split at h
        · rename_i b hb
          simp only [Option.some.injEq, Prod.mk.injEq] at h
          obtain ⟨rfl, rfl⟩ := h
          exact still (.refl _) rfl fun w2 => evNil_spec (op := .eql) hb x y (rel h1) (rel h2) (.inl rfl)
        · rename_i b hb
          simp only [Option.some.injEq, Prod.mk.injEq] at h
          obtain ⟨rfl, rfl⟩ := h
          exact still (.refl _) rfl fun w2 => evNil_spec (op := .neq) hb x y (rel h1) (rel h2) (.inr rfl)
        · cases h
    case unOp op2 ty2 x =>
      obtain ⟨k1, k2, k3⟩ := evFlat_still (show evFlat P ⟨dst, .unOp op2 ty2 x, ty, pos, after, guard⟩ t s1 = some (v, s') from h) hh (by simp) hr.glob ht
      exact ⟨k1, _, .flat k2, fun w2 _ => k3 w2⟩
    case pick c x y =>
      simp only [evOp, evPick] at h
      split at h
      case h_2 => cases h
      rename_i k hk
      have hc := (rel hk).eq_of_flat rfl
      have mv : ∀ {z : Operand} {s2 : St}, evMove P t z s2 = some (v, s') → s2 = s' ∧ VRel s.heap.size ρ v (a.eval z) := by
        intro z s2 hz
        unfold evMove at hz
        split at hz
        · rename_i u hu
          simp only [Option.some.injEq, Prod.mk.injEq] at hz
          obtain ⟨rfl, rfl⟩ := hz
          exact ⟨rfl, rel hu⟩
        · cases hz
      split at h
      · rename_i s2 ht1
        obtain ⟨hs2, hb⟩ := test_spec ht1
        obtain ⟨rfl, hv⟩ := mv h
        have hk1 : k = true := hb hh
        subst hk1
        exact ⟨hs2, _, hv, fun w2 _ => by simp [execOp, hc, asBool]⟩
      · rename_i s2 ht1
        obtain ⟨hs2, hb⟩ := test_spec ht1
        obtain ⟨rfl, hv⟩ := mv h
        have hk1 : k = false := hb hh
        subst hk1
        exact ⟨hs2, _, hv, fun w2 _ => by simp [execOp, hc, asBool]⟩
      · cases h
    case nilCheck x =>
      simp only [evOp, evNilCheck] at h
      split at h
      case h_2 => cases h
      rename_i p hp
      simp only [Option.some.injEq, Prod.mk.injEq] at h
      obtain ⟨rfl, rfl⟩ := h
      have hv := rel hp
      obtain ⟨b', hb', hn⟩ := ptr_shape hv
      cases b' with
      | none => simp at hn
      | some q => exact ⟨.refl _, .pointer (some q), by rw [← hb']; exact hv, fun w2 _ => by simp [execOp, hb']⟩
    case extract x i =>
      simp only [evOp, evExtract] at h
      split at h
      case h_2 => cases h
      rename_i vs hvs
      split at h
      case h_2 => cases h
      rename_i u hu
      simp only [Option.some.injEq, Prod.mk.injEq] at h
      obtain ⟨rfl, rfl⟩ := h
      have hv := rel hvs
      have key : ∀ vs', a.eval x = .tuple vs' → PRel s.heap.size ρ vs vs' → Same s1 s1 ∧ ∃ v', VRel s.heap.size ρ u v' ∧ ∀ w2, pinOf P ρ t ⟨dst, .extract x i, ty, pos, after, guard⟩ w w2 → (execOp a.eval ⟨dst, .extract x i, ty, pos, after, guard⟩).run P w2 = .ok (.value v') w2 := by
        intro vs' he hp
        obtain ⟨u', hu', hr'⟩ := get_rel hp.1 hp.2 hu
        exact ⟨.refl _, u', hr', fun w2 _ => by simp [execOp, he, Instr.extract, hu']⟩
      generalize he2 : a.eval x = y at hv
      cases hv with
      | any h _ => cases h
      | flat hf => exact key vs he2 (PRel.refl_flat (by simpa [flat] using hf))
      | tuple hs h2 => exact key _ he2 ⟨hs, h2⟩
    case field ty2 x f =>
      simp only [evOp, with1] at h
      split at h
      case h_2 => cases h
      rename_i u0 hu0
      have hx := rel hu0
      unfold evField at h
      split at h
      case h_2 => cases h
      rename_i cs fields hu
      obtain ⟨cs', hx', hs3, hc⟩ := agg_inv hx
      split at h
      case h_2 => cases h
      rename_i fd hf
      split at h
      · rename_i i hi hagg
        simp only [Option.some.injEq, Prod.mk.injEq] at h
        obtain ⟨rfl, rfl⟩ := h
        refine ⟨.refl _, _, extract_rel hs3 hc _ _, fun w2 _ => run_val (m := Instr.field ty2 (a.eval x) f) ?_⟩
        rw [hx']
        simp [Instr.field, Sem.run_bind, run_underlying hu, hf, asAgg, part, isAggT_run hagg, sizeOf, typeInfo, hi]
      · rename_i i hi hagg
        split at h
        · rename_i u hget
          simp only [Option.some.injEq, Prod.mk.injEq] at h
          obtain ⟨rfl, rfl⟩ := h
          obtain ⟨u', hu', hv⟩ := get_rel hs3 hc hget
          refine ⟨.refl _, u', hv, fun w2 _ => run_val (m := Instr.field ty2 (a.eval x) f) ?_⟩
          rw [hx']
          simp [Instr.field, Sem.run_bind, run_underlying hu, hf, asAgg, part, isAggT_run hagg, hu']
        · cases h
      · cases h
    case convert src dst2 x =>
      simp only [evOp, evConv] at h
      split at h
      case h_2 => cases h
      rename_i u hu
      split at h
      · rename_i r h1
        simp only [Option.some.injEq] at h; subst h
        unfold evConvInt at h1
        try simp only [lenQ_eq, pushQ_eq, setQ_eq] at h1
        split at h1
        · rename_i k n sd k2 hs3 hd
          obtain ⟨hsame, hn⟩ := named_spec h1
          obtain rfl := hn hh
          refine ⟨hsame, _, .flat rfl, fun w2 _ => run_val (m := convert src dst2 (a.eval x)) ?_⟩
          rw [(rel hu).eq_of_flat rfl, wrapF_eq]
          simp only [convert, Sem.run_bind, run_underlying hs3, run_underlying hd, Result.andThen_ok]
          rfl
        · cases h1
      · split at h
        · rename_i r h1
          exfalso
          unfold evStrToBytes at h1
          split at h1
          · rename_i e str q1 q2
            simp [isEarly, isReadConv, isIntConv, q1, q2] at he
          · cases h1
        · split at h
          · rename_i r h1
            simp only [Option.some.injEq] at h; subst h
            obtain ⟨k1, k2, k3⟩ := evBytesToStr_pin h1 hh hr1 (by rw [hs.heap]; exact rel hu)
            refine ⟨k1, _, .flat k2, fun w2 hp => run_val (m := convert src dst2 (a.eval x)) (k3 w2 fun b off n c hx => ?_)⟩
            exact hp.2 src dst2 x b off n c rfl (by rw [hu, hx])
          · obtain ⟨k1, k2, k3⟩ := evFlat_still (show evFlat P ⟨dst, .convert src dst2 x, ty, pos, after, guard⟩ t s1 = some (v, s') from h) hh (by simp) hr.glob ht
            exact ⟨k1, _, .flat k2, fun w2 _ => k3 w2⟩
    case call c =>
      simp only [isEarly, isLenCall] at he
      split at he
      case h_2 => cases he
      rename_i hcal
      obtain ⟨callee, args, argTypes⟩ := c
      simp only at hcal
      subst hcal
      simp only [evOp, evCallAny, isMinMax, Bool.false_eq_true, if_false, evCallOp] at h
      split at h
      case h_2 => cases h
      rename_i x hx
      obtain ⟨hl, -⟩ := opndsL_rel ht hr.glob _ _ hx
      have : ∃ x', args.map a.eval = #[x'] ∧ VRel s.heap.size ρ x x' := by
        generalize hm : args.toList.map a.eval = m at hl
        have hm' : args.map a.eval = m.toArray := Array.ext' (by rw [Array.toList_map, hm])
        cases hl with
        | cons hv hr' => cases hr' with
          | nil => exact ⟨_, hm', hv⟩
      obtain ⟨x', hx', hv⟩ := this
      clear hl hx
      have hrun : ∀ u : Value, (∀ w2, (Builtin.len_ argTypes ty #[x']).run P w2 = .ok u w2) → ∀ w2, (execOp a.eval ⟨dst, .call ⟨.builtin .len, args, argTypes⟩, ty, pos, after, guard⟩).run P w2 = .ok (.value u) w2 := by
        intro u hu w2
        show ((do let d ← resolve a.eval ⟨.builtin .len, args, argTypes⟩ ty; invoke d.target d.args : Sem Next).run P w2) = _
        simp only [resolve, hx']
        exact run_val (m := Builtin.len_ argTypes ty #[x']) (hu w2)
      unfold evLen at h
      split at h
      case h_2 => cases h
      rename_i tt htt
      split at h
      · rename_i str hu
        rw [force_eq] at h
        simp only [Option.some.injEq, Prod.mk.injEq] at h
        obtain ⟨rfl, rfl⟩ := h
        have := hv.eq_of_flat rfl
        subst this
        exact ⟨.refl _, _, .flat rfl, fun w2 _ => hrun _ (fun w3 => by simp [Builtin.len_, htt, run_underlying hu, goInt]) w2⟩
      · rename_i elem a0 n c hu
        rw [force_eq] at h
        simp only [Option.some.injEq, Prod.mk.injEq] at h
        obtain ⟨rfl, rfl⟩ := h
        have : ∃ a' c', x' = .slice a' n c' := by
          cases hv with
          | any h _ => cases h
          | flat hf => exact ⟨_, _, rfl⟩
          | slice => exact ⟨_, _, rfl⟩
          | slice0 => exact ⟨_, _, rfl⟩
          | noRoom => exact ⟨_, _, rfl⟩
        obtain ⟨a', c', rfl⟩ := this
        exact ⟨.refl _, _, .flat rfl, fun w2 _ => hrun _ (fun w3 => by simp [Builtin.len_, htt, run_underlying hu, goInt]) w2⟩
      · rename_i n elem hu
        simp only [Option.some.injEq, Prod.mk.injEq] at h
        obtain ⟨rfl, rfl⟩ := h
        exact ⟨.refl _, _, .flat rfl, fun w2 _ => hrun _ (fun w3 => by simp [Builtin.len_, htt, run_underlying hu, goInt]) w2⟩
      · cases h
  · rename_i s1 hw
    simp only [Option.some.injEq, Prod.mk.injEq] at h
    obtain ⟨rfl, rfl⟩ := h
    obtain ⟨hs, hwt⟩ := evWanted_spec hw hh ht
    exact ⟨hs, undef, .flat rfl, .inr ⟨hwt, rfl⟩⟩
  · cases h

/-- Whatever order is picked from here on, and S holds behind every operation. -/
def wpAnyS (P : Program) (ops : Array Oper) (Q : Exit → Act → World → Prop) (S : Array Bool → World → Prop) : Nat → Array Bool → Act → World → Prop
  | 0, listed, a, w => Region.ready .any ops listed = [] ∧ Q .normal a w
  | fuel + 1, listed, a, w =>
    (Region.ready .any ops listed = [] → Q .normal a w) ∧
    ∀ i ∈ Region.ready .any ops listed, wpOp P ops Q i (fun a' w' => S (listed.setIfInBounds i true) w' ∧ wpAnyS P ops Q S fuel (listed.setIfInBounds i true) a' w') a w
section
variable {ops : Array Oper} {Q : Exit → Act → World → Prop}
theorem wpAny_of_S {S : Array Bool → World → Prop} : ∀ (fuel : Nat) (listed : Array Bool) (a : Act) (w : World), wpAnyS P ops Q S fuel listed a w → wpAny P .any ops Q fuel listed a w
  | 0, _, _, _, h => h
  | fuel + 1, _, _, _, h => ⟨h.1, fun i hi => wpOp_mono (fun a' w' h' => wpAny_of_S fuel _ a' w' h'.2) (h.2 i hi)⟩
theorem wpAnyS_mono {S S' : Array Bool → World → Prop} (hS : ∀ l w, S l w → S' l w) : ∀ (fuel : Nat) (listed : Array Bool) (a : Act) (w : World), wpAnyS P ops Q S fuel listed a w → wpAnyS P ops Q S' fuel listed a w
  | 0, _, _, _, h => h
  | fuel + 1, _, _, _, h => ⟨h.1, fun i hi => wpOp_mono (fun a' w' h' => ⟨hS _ _ h'.1, wpAnyS_mono hS fuel _ a' w' h'.2⟩) (h.2 i hi)⟩

def Closed (ops : Array Oper) (listed : Array Bool) : Prop := ∀ k, k < ops.size → listed.getD k false = true → ∀ j, ((befs ops).getD k 0).testBit j = true → listed.getD j false = true

theorem wpAnyS_first (hok : okRegion ops = true) {i : Nat} {oi : Oper} {v : Value} (hi : ops[i]? = some oi) (hsel : ∀ (j : Nat) (o : Oper) cs b, ops[j]? = some o → o.op ≠ .select cs b)
    (hQ : ∀ c a w, ¬ Q (.panic c) a w) {S0 S1 : Array Bool → World → Prop} {pin : World → Prop}
    (hS : ∀ listed' : Array Bool, listed'.size = ops.size → Closed ops listed' → listed'.getD i false = false → ∀ w', S1 (listed'.setIfInBounds i true) w' → S0 listed' w' ∧ pin w')
    (hS2 : ∀ listed' w', S1 listed' w' → S0 listed' w') :
    ∀ (fuel : Nat) (listed : Array Bool) (a : Act) (w : World), listed.size = ops.size → Closed ops listed →
      (∀ j oj, ops[j]? = some oj → j ≠ i → listed.getD j false = false → ((befs ops).getD j 0).testBit i = true ∨ oi.apart ops oj = true) →
      i ∈ Region.ready .any ops listed → YieldsIf P ops pin oi v a → pin w → S1 (listed.setIfInBounds i true) w →
      wpAnyS P ops Q S1 fuel (listed.setIfInBounds i true) (a.put oi.dst v) w → wpAnyS P ops Q S0 (fuel + 1) listed a w := by
  intro fuel
  induction fuel with
  | zero =>
    intro listed a w hsz hcl _ hr hy hp h1 H
    refine ⟨fun h => (by rw [h] at hr; cases hr), fun j hj => ?_⟩
    by_cases hji : j = i
    · subst hji; exact hy.wpOp hi hp ⟨hS2 _ _ h1, H⟩
    · have := ready_mono hj hji
      rw [H.1] at this
      cases this
  | succ fuel ih =>
    intro listed a w hsz hcl hfree hr hy hp h1 H
    refine ⟨fun h => (by rw [h] at hr; cases hr), fun j hj => ?_⟩
    by_cases hji : j = i
    · subst hji; exact hy.wpOp hi hp ⟨hS2 _ _ h1, wpAnyS_mono hS2 _ _ _ _ H⟩
    · have k1 := H.2 j (ready_mono hj hji)
      obtain ⟨hlt, hno, hpre⟩ := rdy_mem hok hsz hcl hj
      obtain ⟨_, hino, _⟩ := rdy_mem hok hsz hcl hr
      have hilt : i < ops.size := (Array.getElem?_eq_some_iff.1 hi).1
      have hnot : ¬ ((befs ops).getD j 0).testBit i = true := fun h => by rw [hpre i h] at hino; cases hino
      have hoj : ops[j]? = some ops[j] := Array.getElem?_eq_getElem hlt
      have hap := (hfree j _ hoj hji hno).resolve_left hnot
      have k2 := wpOp_putIf hoj hap (fun cs b => hsel i oi cs b hi) (fun cs b => hsel j _ cs b hoj) (fun c a w h => absurd h (hQ _ _ _)) hy k1
      have set := set_getD (listed := listed) (i := j) (by omega) false
      have hcl' : Closed ops (listed.setIfInBounds j true) := by
        intro k hk hlk q hq
        rw [set] at hlk ⊢
        by_cases hqj : q = j
        · rw [if_pos hqj]
        · rw [if_neg hqj]
          by_cases hkj : k = j
          · subst hkj; exact hpre q hq
          · rw [if_neg hkj] at hlk; exact hcl k hk hlk q hq
      have hino' : (listed.setIfInBounds j true).getD i false = false := by rw [set, if_neg (Ne.symm hji)]; exact hino
      refine wpOp_mono (fun a' w' h3 => ?_) k2
      obtain ⟨y1, s1, H1⟩ := h3
      rw [Array.setIfInBounds_comm _ _ (Ne.symm hji)] at s1 H1
      obtain ⟨z1, z2⟩ := hS _ (by simpa using hsz) hcl' hino' w' s1
      refine ⟨z1, ih (listed.setIfInBounds j true) a' w' (by simpa using hsz) hcl' (fun k ok hk hki hun => ?_) (ready_mono hr (Ne.symm hji)) y1 z2 s1 H1⟩
      rw [set] at hun
      by_cases hkj : k = j
      · rw [if_pos hkj] at hun; cases hun
      · rw [if_neg hkj] at hun; exact hfree k ok hk hki hun
end

/-- Of each that was made before its turn: what it looked at is as it was, until something has been made that waits for it. -/
def Pins (P : Program) (ops : Array Oper) (pins : Nat → World → Prop) (listed : Array Bool) (w : World) : Prop :=
  ∀ e oe, ops[e]? = some oe → isEarly P oe = true → listed.getD e false = true →
    (∀ j oj, ops[j]? = some oj → isEarly P oj = false → listed.getD j false = true → ¬ ((befs ops).getD j 0).testBit e = true) → pins e w
/-- What is watched holds for as long as what it speaks of is not turned. -/
def WInv (P : Program) (ops : Array Oper) (pins : Nat → World → Prop) (listed : Array Bool) (ρ : Rho) (s : St) (w : World) (wt : Watch) : Prop :=
  ∀ e oe, ops[e]? = some oe → isEarly P oe = true → listed.getD e false = true → (∀ w', pins e w') ∨
    (∃ j oj, ops[j]? = some oj ∧ isEarly P oj = false ∧ listed.getD j false = true ∧ ((befs ops).getD j 0).testBit e = true) ∨
    (∃ id ver o, (e, id, ver) ∈ wt ∧ s.heap[id]? = some o ∧ o.ver = ver ∧ ∀ w', (∀ j, j < (ρ id).size → w'.cell? ⟨(ρ id).blk, (ρ id).shift + j, none⟩ = w.cell? ⟨(ρ id).blk, (ρ id).shift + j, none⟩) → pins e w')

theorem keepW_spec {h : Array AObj} {b : Array Nat} {i : Nat} : ∀ {wt wt' : Watch}, keepW h b i wt = some wt' → ∀ e id ver, (e, id, ver) ∈ wt →
    waits b i e = true ∨ ((e, id, ver) ∈ wt' ∧ ∃ o, h[id]? = some o ∧ o.st < 3 ∧ o.ver = ver)
  | [], _, _, _, _, _, hm => by cases hm
  | (e0, id0, ver0) :: r, wt', hk, e, id, ver, hm => by
    unfold keepW at hk
    split at hk
    · rename_i hw
      rcases List.mem_cons.1 hm with h | h
      · cases h; exact .inl hw
      · exact keepW_spec hk e id ver h
    · split at hk
      case h_2 => cases hk
      rename_i o ho
      split at hk
      case h_2 => cases hk
      rename_i r' hc hr'
      simp only [Option.some.injEq] at hk
      subst hk
      simp only [Bool.and_eq_true] at hc
      rcases List.mem_cons.1 hm with h | h
      · cases h; exact .inr ⟨List.mem_cons_self, o, ho, by have := hc.1; simp [Nat.blt] at this; omega, Nat.eq_of_beq_eq_true hc.2⟩
      · rcases keepW_spec hr' e id ver h with h | ⟨h1, h2⟩
        · exact .inl h
        · exact .inr ⟨List.mem_cons_of_mem _ h1, h2⟩

theorem runPlan_grows {call : CallFn} (hgr : CallGrows call) {ops : Array Oper} {b : Array Nat} : ∀ (pl : List Nat) {t t' : Tr} {s s' : St} {wt : Watch}, runPlan P call ops b pl t s wt = some (t', s') → Grows s s'
  | [], _, _, _, _, _, h => by simp only [runPlan, Option.some.injEq, Prod.mk.injEq] at h; obtain ⟨_, rfl⟩ := h; exact .refl _
  | i :: r, t, t', s, s', wt, h => by
    simp only [runPlan, getQ_eq, fsK_eq] at h
    split at h
    · cases h
    · split at h
      · cases h
      · rename_i v s1 hv
        have g := evStepV_grows hgr hv
        split at h
        · exact g.trans (runPlan_grows hgr r h)
        · split at h
          · exact g.trans (runPlan_grows hgr r h)
          · cases h
set_option maxHeartbeats 1000000 in
theorem runPlan_spec {call : CallFn} (hcall : CallSound P call) (hgr : CallGrows call) {ops : Array Oper} (hok : okRegion ops = true) (hsel : Region.noSelect ops = true) {Q : Exit → Act → World → Prop} (hQ : ∀ c a w, ¬ Q (.panic c) a w) :
    ∀ (pl : List Nat) {t t' : Tr} {s s' : St} {wt : Watch} {listed : Array Bool} {a : Act} {ρ : Rho} {w : World} {pins : Nat → World → Prop}, okPlan P ops (befs ops) pl = true → runPlan P call ops (befs ops) pl t s wt = some (t', s') → s'.Holds →
      listed.size = ops.size → (∀ k, k < ops.size → (listed.getD k false = true ↔ ¬ k ∈ pl)) → (∀ k ∈ pl, k < ops.size) → Closed ops listed →
      HRel P B ρ s.heap w → TRel s.heap.size ρ t a.tmps → WInv P ops pins listed ρ s w wt → (∀ e, listed.getD e false = false → ∀ w', pins e w') →
      After P B ρ s w t' s' (Q .normal) a.defers → wpAnyS P ops Q (Pins P ops pins) pl.length listed a w
  | [], t, t', s, s', wt, listed, a, ρ, w, pins, hp, h, hh, hsz, hl, hlt, hcl, hr, ht, hW, hpn, hK => by
    simp only [runPlan, Option.some.injEq, Prod.mk.injEq] at h
    obtain ⟨rfl, rfl⟩ := h
    refine ⟨?_, hK a ρ w rfl ht hr (.refl _ _ _ _)⟩
    cases hrd : Region.ready .any ops listed with
    | nil => rfl
    | cons k r =>
      have hk : k ∈ Region.ready .any ops listed := by rw [hrd]; exact List.mem_cons_self
      obtain ⟨h1, h2, _⟩ := rdy_mem hok hsz hcl hk
      rw [(hl k h1).2 (by simp)] at h2; cases h2
  | i :: r, t, t', s, s', wt, listed, a, ρ, w, pins, hp, h, hh, hsz, hl, hlt, hcl, hr, ht, hW, hpn, hK => by
    simp only [okPlan, Bool.and_eq_true, Bool.or_eq_true] at hp
    obtain ⟨⟨hmay, hnd⟩, hp⟩ := hp
    have hilt : i < ops.size := hlt i List.mem_cons_self
    have hir : ¬ i ∈ r := fun hm => by
      have := List.all_eq_true.1 hnd i hm
      simp at this
    have hino : listed.getD i false = false := by
      cases hv : listed.getD i false with
      | false => rfl
      | true => exact absurd List.mem_cons_self ((hl i hilt).1 hv)
    have un : ∀ j, j < ops.size → listed.getD j false = false → j = i ∨ j ∈ r := by
      intro j hj hno
      refine Decidable.byContradiction fun hn => ?_
      have := (hl j hj).2 (fun hm => hn (by simpa using hm))
      rw [this] at hno; cases hno
    simp only [runPlan, getQ_eq, fsK_eq] at h
    split at h
    · cases h
    rename_i o ho
    have set := fun d => set_getD (listed := listed) (i := i) (by omega) d
    split at h
    · cases h
    rename_i v s1 hv
    have hsz' : (listed.setIfInBounds i true).size = ops.size := by simpa using hsz
    have hl' : ∀ k, k < ops.size → ((listed.setIfInBounds i true).getD k false = true ↔ ¬ k ∈ r) := by
      intro k hk
      rw [set]
      by_cases hki : k = i
      · rw [if_pos hki]; subst hki; simp [hir]
      · rw [if_neg hki, hl k hk]; simp [hki]
    have hlt' : ∀ k ∈ r, k < ops.size := fun k hk => hlt k (List.mem_cons_of_mem _ hk)
    -- those it waits for are done
    have hpre : ∀ q, ((befs ops).getD i 0).testBit q = true → listed.getD q false = true := by
      intro q hq
      have hqi := pre_lt hok i hilt q hq
      cases hv : listed.getD q false with
      | true => rfl
      | false =>
        exfalso
        rcases un q (by omega) hv with rfl | hqr
        · omega
        · rcases hmay with hm | hm
          · unfold mayEarly at hm
            rw [ho] at hm
            simp only [Bool.and_eq_true] at hm
            have := List.all_eq_true.1 hm.2 q hqr
            simp only [Bool.or_eq_true, Bool.and_eq_true, Bool.not_eq_true', waits] at this
            rcases this with h | ⟨h, _⟩
            · have := Nat.eq_of_beq_eq_true h; omega
            · rw [hq] at h; cases h
          · unfold mayLate at hm
            rw [ho] at hm
            simp only [Bool.and_eq_true] at hm
            have h1 := List.all_eq_true.1 hm.2 q hqr
            have := pre_lt hok q (by omega) i h1
            omega
    have hcl' : Closed ops (listed.setIfInBounds i true) := by
      intro k hk hlk q hq
      rw [set] at hlk ⊢
      by_cases hqi : q = i
      · rw [if_pos hqi]
      · rw [if_neg hqi]
        by_cases hki : k = i
        · subst hki; exact hpre q hq
        · rw [if_neg hki] at hlk; exact hcl k hk hlk q hq
    have hrdy : i ∈ Region.ready .any ops listed := by
      refine mem_ready.2 ⟨by rw [bothD (by omega)]; exact hino, o, ho, fun e he hb => hpre e.on ((pre_spec hok ho e.on).2 ⟨e, by simpa using he, hb, .inl rfl⟩)⟩
    split at h
    · -- made before its turn
      rename_i he
      have g := runPlan_grows hgr r h
      obtain ⟨hsame, v', hv', hy⟩ := early_spec (P := P) (B := B) hgr he hv (g.holds hh) hr ht
      let pins' : Nat → World → Prop := fun e => if e = i then pinOf P ρ t o w else pins e
      have pi : pins' i = pinOf P ρ t o w := if_pos rfl
      have pe : ∀ e, e ≠ i → pins' e = pins e := fun e he => if_neg he
      have hW' : WInv P ops pins' (listed.setIfInBounds i true) ρ s1 w (watchOf P t s i o wt) := by
        intro e oe hoe hee hle
        rw [hsame.heap]
        by_cases hei : e = i
        · subst hei
          rw [ho] at hoe; cases hoe
          rw [pi]
          by_cases hload : (∃ ty x b off, o.op = .load ty x ∧ opnd P t x = some (.pointer (some ⟨b, off, none⟩))) ∨ ∃ src dst x b off n c, o.op = .convert src dst x ∧ opnd P t x = some (.slice (some ⟨b, off, none⟩) n c)
          · obtain ⟨b, hwatch, hvr, hin⟩ : ∃ b, watchOf P t s e o wt = watchB s e b wt ∧ b < s.heap.size ∧ ∀ w', (∀ j, j < (ρ b).size → w'.cell? ⟨(ρ b).blk, (ρ b).shift + j, none⟩ = w.cell? ⟨(ρ b).blk, (ρ b).shift + j, none⟩) → pinOf P ρ t o w w' := by
              rcases hload with ⟨ty, x, b, off, e1, e2⟩ | ⟨src, dst, x, b, off, n, c, e1, e2⟩
              · refine ⟨b, by simp [watchOf, watchV, watchB, blkOf, e1, e2], (ptr_inv (opnd_rel e2 ht hr.glob)).2.1, fun w' hw' => ⟨fun ty' x' b' off' f1 f2 => ?_, fun src' dst' x' b' off' n' c' f1 f2 => ?_⟩⟩
                · rw [e1] at f1; cases f1
                  rw [e2] at f2; cases f2
                  exact hw'
                · rw [e1] at f1; cases f1
              · refine ⟨b, by simp [watchOf, watchV, watchB, blkOf, e1, e2], (slice_inv (opnd_rel e2 ht hr.glob)).1.1, fun w' hw' => ⟨fun ty' x' b' off' f1 f2 => ?_, fun src' dst' x' b' off' n' c' f1 f2 => ?_⟩⟩
                · rw [e1] at f1; cases f1
                · rw [e1] at f1; cases f1
                  rw [e2] at f2; cases f2
                  exact hw'
            cases hob : s.heap[b]? with
            | none =>
              -- there is no such object
              exfalso
              rw [Array.getElem?_eq_none_iff] at hob
              omega
            | some ob =>
              exact .inr (.inr ⟨b, ob.ver, ob, by rw [hwatch]; simp [watchB, getQ_eq, hob], hob, rfl, hin⟩)
          · refine .inl fun w' => ⟨fun ty x b off e1 e2 => absurd (.inl ⟨ty, x, b, off, e1, e2⟩) hload, fun src dst x b off n c e1 e2 => absurd (.inr ⟨src, dst, x, b, off, n, c, e1, e2⟩) hload⟩
        · rw [pe e hei]
          rw [set, if_neg hei] at hle
          rcases hW e oe hoe hee hle with h1 | ⟨j, oj, h1, h2, h3, h4⟩ | ⟨id, ver, ob, h1, h2, h3, h4⟩
          · exact .inl h1
          · refine .inr (.inl ⟨j, oj, h1, h2, ?_, h4⟩)
            rw [set]; split
            · rfl
            · exact h3
          · refine .inr (.inr ⟨id, ver, ob, ?_, h2, h3, h4⟩)
            unfold watchOf watchV watchB
            repeat' split
            all_goals first | exact h1 | exact List.mem_cons_of_mem _ h1
      have hP' : Pins P ops pins' (listed.setIfInBounds i true) w := by
        intro e oe hoe hee hle hno
        rcases hW' e oe hoe hee hle with h1 | ⟨j, oj, h1, h2, h3, h4⟩ | ⟨id, ver, ob, h1, h2, h3, h4⟩
        · exact h1 w
        · exact absurd h4 (hno j oj h1 h2 h3)
        · exact h4 w fun _ _ => rfl
      have hsz1 : s1.heap.size = s.heap.size := by rw [hsame.heap]
      have IH := runPlan_spec hcall hgr hok hsel hQ r (listed := listed.setIfInBounds i true) (a := a.put o.dst v') (ρ := ρ) (w := w) (pins := pins') hp h hh hsz' hl' hlt' hcl' (by rw [hsame.heap]; exact hr) (by rw [hsz1]; exact ht.put o.dst hv') hW'
        (fun e hno w' => by
          rw [set] at hno
          by_cases hei : e = i
          · rw [if_pos hei] at hno; cases hno
          · rw [pe e hei]; rw [if_neg hei] at hno; exact hpn e hno w')
        (fun a' ρ' w' k1 k2 k3 k4 => hK a' ρ' w' (by rw [k1, put_defers]) k2 k3 ((hsame.step ρ w).trans k4))
      have hap : ∀ j oj, ops[j]? = some oj → j ≠ i → listed.getD j false = false → ((befs ops).getD j 0).testBit i = true ∨ o.apart ops oj = true := by
        intro j oj hoj hji hno
        have hjlt := (Array.getElem?_eq_some_iff.1 hoj).1
        have hjr := (un j hjlt hno).resolve_left hji
        rcases hmay with hm | hm
        · unfold mayEarly at hm
          rw [ho] at hm
          simp only [Bool.and_eq_true] at hm
          have := List.all_eq_true.1 hm.2 j hjr
          simp only [Bool.or_eq_true, Bool.and_eq_true, Bool.not_eq_true', waits, apartAt, hoj] at this
          rcases this with h | ⟨_, h⟩
          · exact absurd (Nat.eq_of_beq_eq_true h) hji
          · exact h
        · unfold mayLate at hm
          rw [ho] at hm
          simp only [Bool.and_eq_true, he] at hm
          simp at hm
      refine wpAnyS_first (P := P) (Q := Q) hok ho (Region.noSelect_spec hsel) hQ (S0 := Pins P ops pins) (S1 := Pins P ops pins') (pin := pinOf P ρ t o w) (fun listed' hsz2 hcl2 hno2 w' hS => ?_) (fun listed' w' hS => ?_) r.length listed a w hsz hcl hap hrdy hy ⟨fun _ _ _ _ _ _ _ _ => rfl, fun _ _ _ _ _ _ _ _ _ _ _ => rfl⟩ hP' IH
      · have set2 := fun d => set_getD (listed := listed') (i := i) (by omega) d
        refine ⟨fun e oe hoe hee hle hno => ?_, ?_⟩
        · have hei : e ≠ i := by rintro rfl; rw [hno2] at hle; cases hle
          have := hS e oe hoe hee (by rw [set2, if_neg hei]; exact hle) fun j oj hj hje hjl => by
            rw [set2] at hjl
            by_cases hji : j = i
            · subst hji; rw [ho] at hj; cases hj; rw [he] at hje; cases hje
            · rw [if_neg hji] at hjl; exact hno j oj hj hje hjl
          rw [pe e hei] at this; exact this
        · have := hS i o ho he (by rw [set2, if_pos rfl]) fun j oj hj hje hjl hw => by
            rw [set2] at hjl
            by_cases hji : j = i
            · subst hji; rw [ho] at hj; cases hj; rw [he] at hje; cases hje
            · rw [if_neg hji] at hjl
              have := hcl2 j (Array.getElem?_eq_some_iff.1 hj).1 hjl i hw
              rw [hno2] at this; cases this
          rw [pi] at this; exact this
      · intro e oe hoe hee hle hno
        by_cases hei : e = i
        · subst hei; exact hpn e hino w'
        · have := hS e oe hoe hee hle hno
          rw [pe e hei] at this; exact this
    · -- when nothing else may be
      rename_i he
      split at h
      case h_2 => cases h
      rename_i wt' hkw
      have g := runPlan_grows hgr r h
      have hsole : ∀ j, j ∈ Region.ready .any ops listed → j = i := by
        intro j hj
        obtain ⟨h1, h2, h3⟩ := rdy_mem hok hsz hcl hj
        rcases un j h1 h2 with h | hjr
        · exact h
        · exfalso
          rcases hmay with hm | hm
          · unfold mayEarly at hm
            rw [ho] at hm
            simp only [Bool.and_eq_true, he] at hm
            simp at hm
          · unfold mayLate at hm
            rw [ho] at hm
            simp only [Bool.and_eq_true] at hm
            have := h3 i (List.all_eq_true.1 hm.2 j hjr)
            rw [hino] at this; cases this
      refine ⟨fun h0 => (by rw [h0] at hrdy; cases hrdy), fun j hj => ?_⟩
      obtain rfl := hsole j hj
      unfold wpOp
      rw [ho]
      refine evStepV_spec hcall hgr hv (g.holds hh) hr ht fun v' ρ' w' q1 q2 q3 => ?_
      have hWn : WInv P ops pins (listed.setIfInBounds j true) ρ' s1 w' wt' := by
        intro e oe hoe hee hle
        have hej : e ≠ j := by rintro rfl; rw [ho] at hoe; cases hoe; rw [he] at hee; cases hee
        rw [set, if_neg hej] at hle
        by_cases hwe : ((befs ops).getD j 0).testBit e = true
        · exact .inr (.inl ⟨j, o, ho, he, by rw [set, if_pos rfl], hwe⟩)
        · rcases hW e oe hoe hee hle with h1 | ⟨k, ok, h1, h2, h3, h4⟩ | ⟨id, ver, ob, h1, h2, h3, h4⟩
          · exact .inl h1
          · refine .inr (.inl ⟨k, ok, h1, h2, ?_, h4⟩)
            rw [set]; split
            · rfl
            · exact h3
          · rcases keepW_spec hkw e id ver h1 with h | ⟨m1, ob1, m2, m3, m4⟩
            · exact absurd h hwe
            · obtain ⟨_, n2⟩ := q3.same id ob ob1 h2 m2
              obtain ⟨_, n3⟩ := n2 m3
              have n4 := n3 (by omega)
              have hlt := (Array.getElem?_eq_some_iff.1 h2).1
              have hρ := q3.rho id (.inl hlt)
              refine .inr (.inr ⟨id, ver, ob1, m1, m2, m4, fun w2 hw2 => h4 w2 fun k hk => ?_⟩)
              rw [hρ] at hw2
              rw [hw2 k hk]
              exact n4 k hk
      refine ⟨fun e oe hoe hee hle hno => ?_, ?_⟩
      · rcases hWn e oe hoe hee hle with h1 | ⟨k, ok, h1, h2, h3, h4⟩ | ⟨id, ver, ob, h1, h2, h3, h4⟩
        · exact h1 w'
        · exact absurd h4 (hno k ok h1 h2 h3)
        · exact h4 w' fun _ _ => rfl
      · exact runPlan_spec hcall hgr hok hsel hQ r (listed := listed.setIfInBounds j true) (a := a.put o.dst v') (ρ := ρ') (w := w') (pins := pins) hp h hh hsz' hl' hlt' hcl' q2 ((ht.mono q3.size fun i hi => q3.rho i (.inl hi)).put o.dst q1) hWn
          (fun e hno w2 => by
            rw [set] at hno
            by_cases hej : e = j
            · rw [if_pos hej] at hno; cases hno
            · rw [if_neg hej] at hno; exact hpn e hno w2)
          (fun a' ρ2 w2 k1 k2 k3 k4 => hK a' ρ2 w2 (by rw [k1, put_defers]) k2 k3 (q3.trans k4))

end Go.Ev
