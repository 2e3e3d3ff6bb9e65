/- THE EVALUATOR: each operation. -/
import Derived.Test.YtmnnnickodfibaaEvD
namespace Go.Ev
open Go.RowKit
variable {P : Program} {B : Nat}

theorem asSome_spec {u v : Value} (h : asSome u = some v) : u = v ∧ isGone v = false := by
  unfold asSome at h
  split at h
  · cases h
  · rename_i hne
    simp only [Option.some.injEq] at h
    subst h
    refine ⟨rfl, ?_⟩
    unfold isGone
    split
    · exact absurd rfl (hne _ _ _)
    · rfl

theorem opnd_rel {ρ : Rho} {n : Nat} {t : Tr} {a : Act} {x : Operand} {v : Value} (h : opnd P t x = some v) (ht : TRel n ρ t a.tmps)
    (hg : P.globals.size ≤ n ∧ ∀ g, g < P.globals.size → (ρ g).blk = g ∧ (ρ g).shift = 0 ∧ (ρ g).bad = false) : VRel n ρ v (a.eval x) := by
  cases x with
  | tmp i =>
    simp only [opnd, Tr.getR_eq] at h
    obtain ⟨hv, hn⟩ := asSome_spec h
    rcases ht.get i with hgo | ⟨v', h1, h2⟩
    · rw [hv, hn] at hgo; cases hgo
    · have e2 : a.eval (.tmp i) = v' := by simp [Act.eval, Array.getD, (Array.getElem?_eq_some_iff.1 h1).1, (Array.getElem?_eq_some_iff.1 h1).2]
      rw [e2, ← hv]; exact h2
  | const c =>
    simp only [opnd] at h
    split at h
    · rename_i hf
      simp only [Option.some.injEq] at h; subst h
      exact .flat hf
    · cases h
  | global g =>
    simp only [opnd] at h
    split at h
    · rename_i hgl
      simp only [Option.some.injEq] at h; subst h
      have := @VRel.ptr n ρ g 0 ⟨by omega, (hg.2 g hgl).2.2⟩
      have e := hg.2 g hgl
      rw [Rho.addr] at this
      simp only [e.1, e.2.1] at this
      exact this
    · cases h
  | func f =>
    simp only [opnd, Option.some.injEq] at h
    subst h
    exact .func rfl (fun i h1 => by simp at h1) rfl (fun i h1 => by simp at h1)

inductive LRel (n : Nat) (ρ : Rho) : List Value → List Value → Prop
  | nil : LRel n ρ [] []
  | cons {v v' : Value} {l l' : List Value} (h : VRel n ρ v v') (r : LRel n ρ l l') : LRel n ρ (v :: l) (v' :: l')
theorem LRel.eq_of_flat {n : Nat} {ρ : Rho} {l l' : List Value} (h : LRel n ρ l l') (hf : flatL l = true) : l' = l := by
  induction h with
  | nil => rfl
  | cons h _ ih =>
    simp only [flatL, Bool.and_eq_true] at hf
    rw [h.eq_of_flat hf.1, ih hf.2]

theorem opndsL_rel {ρ : Rho} {n : Nat} {t : Tr} {a : Act} (ht : TRel n ρ t a.tmps) (hg : P.globals.size ≤ n ∧ ∀ g, g < P.globals.size → (ρ g).blk = g ∧ (ρ g).shift = 0 ∧ (ρ g).bad = false) :
    ∀ (xs : List Operand) (vs : List Value), opndsL P t xs = some vs → LRel n ρ vs (xs.map a.eval) ∧ ∀ x ∈ xs, ∃ v, opnd P t x = some v ∧ v ∈ vs
  | [], vs, h => by
    simp only [opndsL, Option.some.injEq] at h; subst h; exact ⟨.nil, by simp⟩
  | x :: r, vs, h => by
    simp only [opndsL] at h
    split at h
    · rename_i v vs' h1 h2
      simp only [Option.some.injEq] at h; subst h
      obtain ⟨i1, i2⟩ := opndsL_rel ht hg r vs' h2
      refine ⟨.cons (opnd_rel h1 ht hg) i1, fun y hy => ?_⟩
      rcases List.mem_cons.1 hy with rfl | hy
      · exact ⟨v, h1, List.mem_cons_self⟩
      · obtain ⟨u, hu, hm⟩ := i2 y hy
        exact ⟨u, hu, List.mem_cons_of_mem _ hm⟩
    · cases h

theorem evalPure_run {α : Type} : ∀ (m : Sem α) (a : α), evalPure P m = some a → ∀ w, m.run P w = .ok a w := by
  intro m
  induction m with
  | pure x => intro a h w; simp only [evalPure, Option.some.injEq] at h; subst h; rfl
  | program k ih => intro a h w; exact ih P a h w
  | _ => intro a h; simp [evalPure] at h

/-- What an operation must come to. -/
def OpGives (P : Program) (B : Nat) (ρ : Rho) (s : St) (w : World) (v : Value) (s' : St) : Result Next → Prop
  | .ok (.value v') w' => ∃ ρ', VRel s'.heap.size ρ' v v' ∧ HRel P B ρ' s'.heap w' ∧ Step B ρ s w ρ' s' w'
  | .ok .skip w' => v = undef ∧ ∃ ρ', HRel P B ρ' s'.heap w' ∧ Step B ρ s w ρ' s' w'
  | .ok (.enter f args) w' => w' = w ∧ Calls P f args w fun e w'' => ∃ v' ρ', e = .returned v' ∧ VRel s'.heap.size ρ' v v' ∧ HRel P B ρ' s'.heap w'' ∧ Step B ρ s w ρ' s' w''
  | _ => False

theorem OpGives.of_gives {ρ : Rho} {s s' : St} {w : World} {v : Value} {m : Sem Value} (h : Gives P B ρ s w v s' (m.run P w)) :
    OpGives P B ρ s w v s' ((do pure (.value (← m)) : Sem Next).run P w) := by
  obtain ⟨v', w', ρ', e, h1, h2, h3⟩ := h
  rw [Sem.run_bind, e]
  exact ⟨ρ', h1, h2, h3⟩

theorem gives_same {ρ : Rho} {s s' : St} {w : World} {v v' : Value} (hr : HRel P B ρ s.heap w) (hs : Same s s') (hv : VRel s.heap.size ρ v v') : Gives P B ρ s w v s' (.ok v' w) :=
  ⟨v', w, ρ, rfl, by rw [hs.heap]; exact hv, by rw [hs.heap]; exact hr, hs.step _ _⟩

theorem evFlat_spec {ρ : Rho} {s s' : St} {w : World} {o : Oper} {t : Tr} {a : Act} {v : Value} (h : evFlat P o t s = some (v, s')) (hh : s'.Holds) (hsel : ∀ cs b, o.op ≠ .select cs b)
    (hr : HRel P B ρ s.heap w) (ht : TRel s.heap.size ρ t a.tmps) : OpGives P B ρ s w v s' ((execOp a.eval o).run P w) := by
  unfold evFlat at h
  split at h
  case h_2 => cases h
  rename_i vs hvs
  split at h
  case isFalse => cases h
  rename_i hfl
  split at h
  case h_2 => cases h
  rename_i v0 hev
  split at h
  case isFalse => cases h
  rename_i hf
  obtain ⟨hsame, hn⟩ := named_spec h
  obtain rfl := hn hh
  obtain ⟨_, hm⟩ := opndsL_rel ht hr.glob _ _ hvs
  have hcong : execOp (fun x => (opnd P t x).getD gone) o = execOp a.eval o := execOp_congr o hsel fun x hx => by
    obtain ⟨u, hu, hmem⟩ := hm x (by simpa using hx)
    have huf := flatL_all.1 hfl u hmem
    simp only [hu, Option.getD_some]
    exact ((opnd_rel hu ht hr.glob).eq_of_flat huf).symm
  rw [hcong] at hev
  rw [evalPure_run _ _ hev w]
  exact ⟨ρ, .flat hf, by rw [hsame.heap]; exact hr, hsame.step _ _⟩

theorem live_spec {s : St} {b : Nat} {o : AObj} (h : live s b = some o) : s.heap[b]? = some o ∧ o.st < 3 := by
  unfold live at h
  simp only [getQ_eq] at h
  split at h
  · rename_i o0 ho
    split at h
    · rename_i hs
      simp only [Option.some.injEq] at h; subst h; exact ⟨ho, hs⟩
    · cases h
  · cases h

theorem readCells_spec {ρ : Rho} {s s' : St} {w : World} {b off n : Nat} {o : AObj} {cs : Array Value} (h : readCells s o off n = some (cs, s')) (hh : s'.Holds)
    (ho : s.heap[b]? = some o) (hst : o.st < 3) (hr : HRel P B ρ s.heap w) :
    Same s s' ∧ ∃ cs' : List Value, cs'.length = n ∧ cs.size = n ∧ (∀ j v, cs'[j]? = some v → w.cell? ⟨(ρ b).blk, (ρ b).shift + off + j, none⟩ = some v) ∧
      ∀ (i : Nat) (h1 : i < cs.size) (h2 : i < cs'.length), scalar cs[i] = true ∧ VRel s.heap.size ρ cs[i] cs'[i] := by
  have key : ∀ s'', Same s s'' → off + n ≤ o.cells.size → o.cells.extract off (off + n) = cs → Same s s'' ∧ ∃ cs' : List Value, cs'.length = n ∧ cs.size = n ∧ (∀ j v, cs'[j]? = some v → w.cell? ⟨(ρ b).blk, (ρ b).shift + off + j, none⟩ = some v) ∧
      ∀ (i : Nat) (h1 : i < cs.size) (h2 : i < cs'.length), scalar cs[i] = true ∧ VRel s.heap.size ρ cs[i] cs'[i] := by
    intro s'' hsame hfit he
    obtain ⟨cs', e1, e2, e3⟩ := hr.range ho hst off n hfit
    subst he
    exact ⟨hsame, cs', e1, by simp; omega, e2, e3⟩
  unfold readCells at h
  split at h
  · split at h
    · simp only [Option.some.injEq, Prod.mk.injEq] at h
      obtain ⟨rfl, rfl⟩ := h
      have hc := hh _ List.mem_cons_self
      exact key _ ⟨rfl, rfl, [_], rfl⟩ hc.1 hc.2
    · cases h
  · simp only [Option.some.injEq, Prod.mk.injEq] at h
    obtain ⟨rfl, rfl⟩ := h
    have hc := hh _ List.mem_cons_self
    exact key _ ⟨rfl, rfl, [_], rfl⟩ hc.1 hc.2
  · split at h
    · rename_i hfit
      simp only [Option.some.injEq, Prod.mk.injEq] at h
      obtain ⟨rfl, rfl⟩ := h
      exact key _ (.refl _) hfit (exQ_eq _ _ _).symm
    · cases h

theorem isAggT_run {ty : TypeId} {r : Bool} (h : isAggT P ty = some r) (w : World) : (isAgg ty).run P w = .ok r w := by
  unfold isAggT at h
  split at h
  · rename_i h0; simp only [Option.some.injEq] at h; subst h; simp [isAgg, run_underlying h0]
  · rename_i h0; simp only [Option.some.injEq] at h; subst h; simp [isAgg, run_underlying h0]
  · rename_i d h1 h2 h0
    simp only [Option.some.injEq] at h; subst h
    cases d <;> first | exact absurd rfl (h1 _) | exact absurd rfl (h2 _ _) | simp [isAgg, run_underlying h0]
  · cases h

theorem ptr_inv {n : Nat} {ρ : Rho} {b off : Nat} {u : Value} (h : VRel n ρ (.pointer (some ⟨b, off, none⟩)) u) : u = .pointer (some (ρ.addr ⟨b, off, none⟩)) ∧ Ok n ρ b := by
  cases h with
  | any h _ => cases h
  | flat hf => simp [flat] at hf
  | ptr hb => exact ⟨rfl, hb⟩

theorem evLoad_same {ρ : Rho} {s s' : St} {w : World} {ty : TypeId} {a a' v : Value} (h : evLoad P ty a s = some (v, s')) (hh : s'.Holds)
    (hr : HRel P B ρ s.heap w) (ha : VRel s.heap.size ρ a a') : ∃ v', (Instr.loadAt ty a').run P w = .ok v' w ∧ VRel s.heap.size ρ v v' ∧ Same s s' := by
  unfold evLoad at h
  split at h
  case h_2 => cases h
  rename_i b off
  obtain ⟨rfl, hb⟩ := ptr_inv ha
  have hadd : ρ.addr ⟨b, off, none⟩ = ⟨(ρ b).blk, (ρ b).shift + off, none⟩ := rfl
  split at h
  · rename_i o i hl hagg hi
    obtain ⟨ho, hst⟩ := live_spec hl
    split at h
    · rename_i cs s1 hrd
      simp only [Option.some.injEq, Prod.mk.injEq] at h
      obtain ⟨rfl, rfl⟩ := h
      obtain ⟨hsame, cs', e1, e2, e3, e4⟩ := readCells_spec hrd hh ho hst hr
      have hload : (loadCells ⟨(ρ b).blk, (ρ b).shift + off, none⟩ i.size).run P w = .ok cs'.toArray w := by
        have := run_loadCells_list (P := P) w ⟨(ρ b).blk, (ρ b).shift + off, none⟩ cs' (fun j v hv => by rw [Addr.add_mid]; exact e3 j v hv)
        rw [e1] at this; exact this
      have : (Instr.loadAt ty (.pointer (some (ρ.addr ⟨b, off, none⟩)))).run P w = .ok (.agg cs'.toArray) w := by
        rw [hadd]
        simp [Instr.loadAt, Instr.sureAddr, loadVar, Sem.run_bind, isAggT_run hagg, sizeOf, typeInfo, hi, hload]
      refine ⟨_, this, .agg (by simp; omega) fun i h1 h2 => ?_, hsame⟩
      have := (e4 i h1 (by simpa using h2)).2
      simpa using this
    · cases h
  · rename_i o i hl hagg hi
    obtain ⟨ho, hst⟩ := live_spec hl
    split at h
    · rename_i cs s1 hrd
      split at h
      · rename_i u hu
        simp only [Option.some.injEq, Prod.mk.injEq] at h
        obtain ⟨rfl, rfl⟩ := h
        obtain ⟨hsame, cs', e1, e2, e3, e4⟩ := readCells_spec hrd hh ho hst hr
        match cs', e1, e3, e4 with
        | [c], _, e3, e4 =>
          have hc := e3 0 c rfl
          have : (Instr.loadAt ty (.pointer (some (ρ.addr ⟨b, off, none⟩)))).run P w = .ok c w := by
            rw [hadd]
            simp only [Nat.add_zero] at hc
            simp [Instr.loadAt, Instr.sureAddr, loadVar, Sem.run_bind, isAggT_run hagg, hc]
          have h4 := (e4 0 (by omega) (by simp)).2
          have e5 : cs[0]'(by omega) = u := by
            cases cs with | mk l => simp only at hu; subst hu; rfl
          rw [e5] at h4
          exact ⟨_, this, h4, hsame⟩
      · cases h
    · cases h
  · cases h

theorem evLoad_spec {ρ : Rho} {s s' : St} {w : World} {ty : TypeId} {a a' v : Value} (h : evLoad P ty a s = some (v, s')) (hh : s'.Holds)
    (hr : HRel P B ρ s.heap w) (ha : VRel s.heap.size ρ a a') : Gives P B ρ s w v s' ((Instr.loadAt ty a').run P w) := by
  obtain ⟨v', e, h1, h2⟩ := evLoad_same h hh hr ha
  rw [e]
  exact gives_same hr h2 h1

theorem evStore_spec {ρ : Rho} {s s' : St} {w : World} {ty : TypeId} {a a' u u' v : Value} (h : evStore P ty a u s = some (v, s')) (hh : s'.Holds)
    (hr : HRel P B ρ s.heap w) (ha : VRel s.heap.size ρ a a') (hu : VRel s.heap.size ρ u u') :
    v = undef ∧ ∃ w', (Instr.storeAt ty a' u').run P w = .ok () w' ∧ HRel P B ρ s'.heap w' ∧ Step B ρ s w ρ s' w' := by
  unfold evStore at h
  split at h
  case h_2 => cases h
  rename_i b off i hi
  obtain ⟨rfl, hb⟩ := ptr_inv ha
  split at h
  case isFalse => cases h
  rename_i hsz
  split at h
  case h_2 => cases h
  rename_i s1 hst
  simp only [Option.some.injEq, Prod.mk.injEq] at h
  obtain ⟨rfl, rfl⟩ := h
  obtain ⟨c1, c2⟩ := hu.cells
  obtain ⟨t1, t2, t3, t4, t5⟩ := storeCellsAt_spec (cs' := u'.cells.toList) hst hh hr (by simpa using c1) (fun i i1 i2 => by
    have := c2 i (by simpa using i1) (by simpa using i2)
    simpa using this)
  have hrun := run_storeCells_cells (P := P) (ρ b).blk ((ρ b).shift + off) u'.cells.toList 0 w (fun j hj => by have := t1 j hj; simpa using this.1) (fun j hj => by have := t1 j hj; simpa using this.2) t2
  refine ⟨rfl, _, ?_, t3, t4⟩
  have hadd : ρ.addr ⟨b, off, none⟩ = ⟨(ρ b).blk, (ρ b).shift + off, none⟩ := rfl
  have hs : u'.cells.size = i.size := by omega
  rw [hadd]
  simp only [Nat.add_zero] at hrun
  simp [Instr.storeAt, Instr.sureAddr, storeVar, Sem.run_bind, sizeOf, typeInfo, hi, hs, hrun]
end Go.Ev
