/- THE EVALUATOR: a region that draws its order: whatever the order. -/
import Derived.Test.YtmnnnickodfibaaEvJ
namespace Go.Ev
open Go.RowKit
variable {P : Program} {B : Nat}

def badLoc : Loc := ⟨0, 0, 0, 0, 0, true⟩
open Classical in
noncomputable def res (S : Nat → St) (m : Nat) (ρ : Rho) (c : Nat → Prop) : Rho := fun id =>
  if id < (S 0).heap.size ∨ (S m).heap.size ≤ id ∨ ∃ j, j < m ∧ c j ∧ (S j).heap.size ≤ id ∧ id < (S (j + 1)).heap.size then ρ id else badLoc
section
variable {S : Nat → St} {m : Nat} {ρ : Rho} {c : Nat → Prop} {id : Nat}
theorem res_pos (h : id < (S 0).heap.size ∨ (S m).heap.size ≤ id ∨ ∃ j, j < m ∧ c j ∧ (S j).heap.size ≤ id ∧ id < (S (j + 1)).heap.size) : res S m ρ c id = ρ id := by
  unfold res; rw [if_pos h]
theorem res_neg (h : ¬ (id < (S 0).heap.size ∨ (S m).heap.size ≤ id ∨ ∃ j, j < m ∧ c j ∧ (S j).heap.size ≤ id ∧ id < (S (j + 1)).heap.size)) : res S m ρ c id = badLoc := by
  unfold res; rw [if_neg h]
theorem res_same (h : (res S m ρ c id).bad = false) : res S m ρ c id = ρ id := by
  unfold res at h ⊢
  split
  · rfl
  · rename_i hn; rw [if_neg hn] at h; cases h
theorem res_mono {c' : Nat → Prop} (hc : ∀ j, c j → c' j) (h : (res S m ρ c id).bad = false) : res S m ρ c' id = res S m ρ c id := by
  rw [res_same h]
  unfold res at h
  split at h
  · rename_i hp
    refine res_pos ?_
    rcases hp with hp | hp | ⟨j, h1, h2, h3⟩
    · exact .inl hp
    · exact .inr (.inl hp)
    · exact .inr (.inr ⟨j, h1, hc j h2, h3⟩)
  · cases h
end

theorem HRel.rho {ρ ρ' : Rho} {H : Array AObj} {w : World} (h : HRel P B ρ H w) (hr : ∀ id, id < H.size → ρ' id = ρ id) : HRel P B ρ' H w := by
  have lt : ∀ {id : Nat} {o : AObj}, H[id]? = some o → id < H.size := fun ho => (Array.getElem?_eq_some_iff.1 ho).1
  refine ⟨⟨h.glob.1, fun g hg => by rw [hr g (by have := h.glob.1; omega)]; exact h.glob.2 g hg⟩, h.base, fun id o ho hst => ?_, fun id o ho hst => ?_, fun id o ho hst => ?_⟩
  · rw [hr id (lt ho)]
    obtain ⟨a1, a2, a3, a4⟩ := h.obj id o ho hst
    refine ⟨a1, a2, a3, fun j hj => ?_⟩
    obtain ⟨c', e1, e2, e3⟩ := a4 j hj
    exact ⟨c', e1, e2, e3.mono (Nat.le_refl _) hr⟩
  · rw [hr id (lt ho)]; exact h.own id o ho hst
  · rw [hr id (lt ho)]
    obtain ⟨a1, a2, a3⟩ := h.head id o ho hst
    refine ⟨a1, a2, fun id2 o2 ho2 hst2 hne hblk => ?_⟩
    rw [hr id2 (lt ho2)] at hblk ⊢
    exact a3 id2 o2 ho2 hst2 hne hblk
theorem HRel.lowBase {ρ : Rho} {H : Array AObj} {w : World} {B' : Nat} (h : HRel P B' ρ H w) (hb : B ≤ B') : HRel P B ρ H w :=
  ⟨h.glob, Nat.le_trans hb h.base, h.obj, fun id o ho hst => Nat.le_trans hb (h.own id o ho hst), h.head⟩
theorem below_cells {w w' : World} (h : Below w.heap.size w w') (a : Addr) (ha : a.block < w.heap.size) : w'.cell? a = w.cell? a ∧ w'.frozen? a = w.frozen? a := by
  have := h.block a.block ha
  simp only [World.cell?, World.frozen?, this, and_self]

abbrev Pre (ops : Array Oper) (z i j : Nat) : Prop := ((befs ops).getD (z + i) 0).testBit (z + j) = true
abbrev CC (ops : Array Oper) (z j : Nat) : Nat → Prop := fun k => Pre ops z j k ∨ k = j

/-- WHAT HOLDS when just the operations of L have been carried out. -/
structure Inv (P : Program) (B : Nat) (ops : Array Oper) (z m : Nat) (T : Nat → Tr) (S : Nat → St) (o : Nat → Oper) (v : Nat → Value) (K : Nat → St) (ρ0 : Rho) (w0 : World) (d0 : List Deferred)
    (L : Nat → Prop) (ρ : Rho) (a : Act) (w : World) : Prop where
  j1 : HRel P B ρ (S 0).heap w
  j2 : ∀ j, j < m → L j → HRel P B (res S m ρ (CC ops z j)) (K j).heap w
  j3 : ∀ j, j < m → L j → ∀ id, (S j).heap.size ≤ id → id < (S (j + 1)).heap.size → ∀ x, (K j).heap[id]? = some x → (x.st = 1 ∨ x.st = 2) → w0.heap.size ≤ (ρ id).blk
  j4 : ∀ j k, j < m → k < m → L j → L k → j ≠ k → ∀ id id2, (S j).heap.size ≤ id → id < (S (j + 1)).heap.size → (S k).heap.size ≤ id2 → id2 < (S (k + 1)).heap.size →
    ∀ x y, (K j).heap[id]? = some x → (x.st = 1 ∨ x.st = 2) → (K k).heap[id2]? = some y → (y.st = 1 ∨ y.st = 2) → (ρ id).blk ≠ (ρ id2).blk
  j5a : ∀ τ, (∀ j, j < m → L j → (o j).dst ≠ some τ) → isGone ((T 0).get τ) = true ∨ ∃ v', a.tmps[τ]? = some v' ∧ VRel (S 0).heap.size ρ ((T 0).get τ) v'
  j5b : ∀ j, j < m → L j → ∀ τ, (o j).dst = some τ → (T 0).has τ = true → (∀ k, k < m → L k → (o k).dst = some τ → k ≤ j) →
    ∃ v', a.tmps[τ]? = some v' ∧ VRel (S (j + 1)).heap.size (res S m ρ (CC ops z j)) (v j) v'
  j6 : (∀ i, (T 0).has i = decide (i < a.tmps.size)) ∧ a.defers = d0
  j7 : ∀ id, id < (S 0).heap.size ∨ (S m).heap.size ≤ id → ρ id = ρ0 id
  j8 : Below w0.heap.size w0 w
  j9 : ∀ i, i < m → L i → (K i).low ≤ (S i).low

section
variable {call : CallFn} {ops : Array Oper} {z m : Nat} {T : Nat → Tr} {S : Nat → St} {R : Nat → Ranges} {o : Nat → Oper} {v : Nat → Value} {K : Nat → St} (tr : Trace P call ops z m T S R o v K)
include tr
theorem Trace.has {i : Nat} (τ : Tmp) : i ≤ m → (T i).has τ = (T 0).has τ := by
  induction i with
  | zero => intro _; rfl
  | succ i ih =>
    intro hi
    rw [tr.tmps i (by omega), ← ih (by omega)]
    unfold putT
    split
    · rw [Tr.putR_eq, Tr.has_put]
    · rfl
theorem Trace.none {i : Nat} {τ : Tmp} : i ≤ m → (∀ j, j < i → (o j).dst ≠ some τ) → (T i).get τ = (T 0).get τ := by
  induction i with
  | zero => intro _ _; rfl
  | succ i ih =>
    intro hi h
    rw [tr.tmps i (by omega), ← ih (by omega) fun j hj => h j (by omega)]
    have := h i (by omega)
    unfold putT
    split
    · rename_i d hd
      rw [Tr.putR_eq, Tr.get_put, if_neg]
      rintro ⟨rfl, _⟩
      exact this hd
    · rfl
theorem Trace.last {i j : Nat} {τ : Tmp} (hj : j < i) (hd : (o j).dst = some τ) (hhas : (T 0).has τ = true) : i ≤ m → (∀ k, j < k → k < i → (o k).dst ≠ some τ) → (T i).get τ = v j := by
  induction i with
  | zero => omega
  | succ i ih =>
    intro hi h
    rw [tr.tmps i (by omega)]
    unfold putT
    rcases Nat.lt_or_ge j i with hlt | hge
    · have := h i hlt (by omega)
      split
      · rename_i d hd'
        rw [Tr.putR_eq, Tr.get_put, if_neg]
        · exact ih hlt (by omega) fun k h1 h2 => h k h1 (by omega)
        · rintro ⟨rfl, _⟩; exact this hd'
      · exact ih hlt (by omega) fun k h1 h2 => h k h1 (by omega)
    · have : j = i := by omega
      subst this
      rw [hd]
      simp only
      rw [Tr.putR_eq, Tr.get_put, if_pos ⟨rfl, by rw [tr.has τ (by omega)]; exact hhas⟩]
end
theorem lastW (o : Nat → Oper) (τ : Tmp) : ∀ i, (∀ j, j < i → (o j).dst ≠ some τ) ∨ ∃ j, j < i ∧ (o j).dst = some τ ∧ ∀ k, j < k → k < i → (o k).dst ≠ some τ := by
  intro i
  induction i with
  | zero => exact .inl fun j h => by omega
  | succ i ih =>
    by_cases hd : (o i).dst = some τ
    · exact .inr ⟨i, by omega, hd, fun k h1 h2 => by omega⟩
    · rcases ih with h | ⟨j, h1, h2, h3⟩
      · refine .inl fun j hj => ?_
        rcases Nat.lt_or_ge j i with h' | h'
        · exact h j h'
        · rw [show j = i by omega]; exact hd
      · refine .inr ⟨j, by omega, h2, fun k k1 k2 => ?_⟩
        rcases Nat.lt_or_ge k i with h' | h'
        · exact h3 k k1 h'
        · rw [show k = i by omega]; exact hd

set_option maxHeartbeats 1000000 in
/-- ONE MORE OPERATION, whose turn it may be. -/
theorem Inv.exec {call : CallFn} (hcall : CallSound P call) (hgr : CallGrows call) {ops : Array Oper} (hok : okRegion ops = true) {z m : Nat} {T : Nat → Tr} {S : Nat → St} {R : Nat → Ranges} {o : Nat → Oper} {v : Nat → Value} {K : Nat → St}
    (tr : Trace P call ops z m T S R o v K) (hh : ∀ i, i < m → (K i).Holds) {ρ0 : Rho} {w0 : World} {d0 : List Deferred} {L : Nat → Prop} {ρ : Rho} {a : Act} {w : World}
    (J : Inv P B ops z m T S o v K ρ0 w0 d0 L ρ a w) {i : Nat} (hi : i < m) (hL : ¬ L i) (hpre : ∀ j, Pre ops z i j → L j) (hcl : ∀ k, k < m → L k → ∀ j, Pre ops z k j → L j)
    {Q : Exit → Act → World → Prop} {N : Act → World → Prop} (hN : ∀ ρ' a' w', Inv P B ops z m T S o v K ρ0 w0 d0 (fun k => L k ∨ k = i) ρ' a' w' → N a' w') :
    wpOp P ops Q (z + i) N a w := by
  have htop := tr.top
  have hop := tr.op i hi
  have mono' : ∀ {x y : Nat}, x ≤ y → y ≤ m → (S x).heap.size ≤ (S y).heap.size := fun h1 h2 => tr.mono' h1 h2
  have plt : ∀ {x y : Nat}, x < m → Pre ops z x y → y < x := fun {x y} h1 h2 => by
    have := pre_lt hok (z + x) (by omega) (z + y) h2
    omega
  -- who writes a temporary that this one looks at, or writes
  have comp : ∀ {k : Nat} {τ : Tmp}, k < m → k ≠ i → L k → (o k).dst = some τ → (τ ∈ looks ops (o i) ∨ (o i).dst = some τ) → Pre ops z i k := by
    intro k τ hk hne hLk hd hl
    rcases ok_pair hok hop (tr.op k hk) hd (show z + i ≠ z + k by omega) hl with h | h
    · exact h
    · exact absurd (hcl k hk hLk i h) hL
  let ρi := res S m ρ (Pre ops z i)
  have ri0 : ∀ id, id < (S 0).heap.size → ρi id = ρ id := fun id h => res_pos (.inl h)
  have rij : ∀ j id, Pre ops z i j → (S j).heap.size ≤ id → id < (S (j + 1)).heap.size → ρi id = ρ id := fun j id h1 h2 h3 => res_pos (.inr (.inr ⟨j, by have := plt hi h1; omega, h1, h2, h3⟩))
  have rres : ∀ j id, Pre ops z i j → (res S m ρ (CC ops z j) id).bad = false → ρi id = res S m ρ (CC ops z j) id := fun j id h1 h2 =>
    res_mono (c := CC ops z j) (c' := Pre ops z i) (fun k hk => by
      rcases hk with hk | rfl
      · exact pre_trans hok (z + i) (by omega) (z + j) (z + k) h1 hk
      · exact h1) h2
  -- memory, as the operation sees it
  have hM : HRel P w.heap.size ρi (⟨maskL (R i) ((befs ops).getD (z + i) 0) 0 (S i).heap.toList⟩ : Array AObj) w := by
    have h0 := mono' (x := 0) (y := i) (by omega) (by omega)
    refine ⟨⟨by rw [Trace.msize]; have := J.j1.glob.1; omega, fun g hg => by rw [ri0 g (by have := J.j1.glob.1; omega)]; exact J.j1.glob.2 g hg⟩, Nat.le_refl _, fun id x hx hst => ?_, fun id x hx hst => ?_, fun id x hx hst => ?_⟩
    · rw [Trace.msize]
      rcases tr.mask hi hx hst with ⟨hlt, y, hy, hyst, rfl⟩ | ⟨j, hji, hp, h1, h2, y, hy, hyst, rfl⟩
      · rw [ri0 id hlt]
        obtain ⟨a1, a2, a3, a4⟩ := J.j1.obj id y hy hyst
        refine ⟨a1, a2, a3, fun q hq => ?_⟩
        obtain ⟨c', e1, e2, e3⟩ := a4 q hq
        exact ⟨c', e1, e2, e3.mono h0 ri0⟩
      · have hj : j < m := by omega
        have hLj := hpre j hp
        have hb := rij j id hp h1 h2
        have hb2 : res S m ρ (CC ops z j) id = ρ id := res_pos (.inr (.inr ⟨j, hj, .inr rfl, h1, h2⟩))
        obtain ⟨a1, a2, a3, a4⟩ := (J.j2 j hj hLj).obj id y hy hyst
        rw [hb2] at a1 a2 a3 a4
        rw [hb]
        refine ⟨a1, a2, a3, fun q hq => ?_⟩
        obtain ⟨c', e1, e2, e3⟩ := a4 q hq
        have hks := tr.ksize hj
        have := mono' (x := j + 1) (y := i) (by omega) (by omega)
        exact ⟨c', e1, e2, e3.mono' (by omega) fun q _ hbad => rres j q hp hbad⟩
    · exfalso
      rcases tr.mask hi hx (by omega) with ⟨_, y, _, _, rfl⟩ | ⟨_, _, _, _, _, y, _, _, rfl⟩ <;> simp at hst
    · exfalso
      rcases tr.mask hi hx (by omega) with ⟨_, y, _, _, rfl⟩ | ⟨_, _, _, _, _, y, _, _, rfl⟩ <;> simp at hst
  -- the temporaries, as it sees them
  obtain ⟨tt, t1, t2, t3⟩ := Tr.only (T i) fun τ => τ ∈ looks ops (o i)
  have hT : TRel (⟨maskL (R i) ((befs ops).getD (z + i) 0) 0 (S i).heap.toList⟩ : Array AObj).size ρi tt a.tmps := by
    rw [Trace.msize]
    refine ⟨fun τ => by rw [t1, tr.has τ (by omega)]; exact J.j6.1 τ, fun τ => ?_⟩
    by_cases hl : τ ∈ looks ops (o i)
    · rw [t2 τ hl]
      rcases lastW o τ i with hno | ⟨j, hji, hd, hmax⟩
      · rw [tr.none (by omega) hno]
        rcases J.j5a τ (fun k hk hLk hd => by
          by_cases hki : k = i
          · subst hki; exact hL hLk
          · have := comp hk hki hLk hd (.inl hl)
            exact hno k (plt hi this) hd) with h | ⟨v', h1, h2⟩
        · exact .inl h
        · exact .inr ⟨v', h1, h2.mono (mono' (by omega) (by omega)) ri0⟩
      · by_cases hhas : (T 0).has τ = true
        · rw [tr.last hji hd hhas (by omega) hmax]
          have hp : Pre ops z i j := by
            rcases ok_pair hok hop (tr.op j (by omega)) hd (show z + i ≠ z + j by omega) (.inl hl) with h | h
            · exact h
            · have := plt (by omega) h; omega
          obtain ⟨v', h1, h2⟩ := J.j5b j (by omega) (hpre j hp) τ hd hhas fun k hk hLk hdk => by
            by_cases hki : k = i
            · subst hki; exact absurd hLk hL
            · have hlt := plt hi (comp hk hki hLk hdk (.inl hl))
              rcases Nat.lt_or_ge j k with h | h
              · exact absurd hdk (hmax k h hlt)
              · exact h
          exact .inr ⟨v', h1, h2.mono' (mono' (by omega) (by omega)) fun q _ hbad => rres j q hp hbad⟩
        · left
          rw [Tr.get_none]
          · rfl
          · rw [tr.has τ (by omega)]; simpa using hhas
    · left; rw [t3 τ hl]; rfl
  have hstep := tr.step i hi
  rw [evStepV_congr (u := tt) fun d hd => (t2 d hd).symm] at hstep
  unfold wpOp
  rw [hop]
  refine evStepV_spec hcall hgr hstep (hh i hi) hM hT fun v' ρ' w' q1 q2 q3 => ?_
  -- what holds behind it
  have hrho : ∀ id, id < (S i).heap.size ∨ (K i).heap.size ≤ id → ρ' id = ρi id := fun id h => q3.rho id (by simpa [maskL_length] using h)
  have hbel : Below w.heap.size w w' := q3.below
  let ρn : Rho := fun id => if (S i).heap.size ≤ id ∧ id < (S (i + 1)).heap.size then ρ' id else ρ id
  have rn1 : ∀ id, (S i).heap.size ≤ id → id < (S (i + 1)).heap.size → ρn id = ρ' id := fun id h1 h2 => if_pos ⟨h1, h2⟩
  have rn2 : ∀ id, ¬ ((S i).heap.size ≤ id ∧ id < (S (i + 1)).heap.size) → ρn id = ρ id := fun id h => if_neg h
  have s0i := mono' (x := 0) (y := i) (by omega) (by omega)
  have sim := mono' (x := i + 1) (y := m) (by omega) (by omega)
  have rn0 : ∀ id, id < (S 0).heap.size → ρn id = ρ id := fun id h => rn2 id (by omega)
  have rnj : ∀ j, j < m → j ≠ i → ∀ id, (S j).heap.size ≤ id → id < (S (j + 1)).heap.size → ρn id = ρ id := fun j hj hne id h1 h2 => rn2 id fun h => hne (tr.one hj hi h1 h2 h.1 h.2)
  have eqi : res S m ρn (CC ops z i) = ρ' := by
    funext id
    by_cases hr : (S i).heap.size ≤ id ∧ id < (S (i + 1)).heap.size
    · rw [res_pos (.inr (.inr ⟨i, hi, .inr rfl, hr.1, hr.2⟩)), rn1 id hr.1 hr.2]
    · have hks := tr.size hi
      rw [hrho id (by omega)]
      by_cases hc : id < (S 0).heap.size ∨ (S m).heap.size ≤ id ∨ ∃ j, j < m ∧ Pre ops z i j ∧ (S j).heap.size ≤ id ∧ id < (S (j + 1)).heap.size
      · have e1 : ρi id = ρ id := res_pos hc
        rw [e1, ← rn2 id hr]
        refine res_pos ?_
        rcases hc with hc | hc | ⟨j, h1, h2, h3⟩
        · exact .inl hc
        · exact .inr (.inl hc)
        · exact .inr (.inr ⟨j, h1, .inl h2, h3⟩)
      · have e1 : ρi id = badLoc := res_neg hc
        rw [e1]
        refine res_neg fun hc' => ?_
        rcases hc' with hc' | hc' | ⟨j, h1, h2, h3⟩
        · exact hc (.inl hc')
        · exact hc (.inr (.inl hc'))
        · rcases h2 with h2 | rfl
          · exact hc (.inr (.inr ⟨j, h1, h2, h3⟩))
          · exact hr h3
  have eqj : ∀ j, j < m → L j → res S m ρn (CC ops z j) = res S m ρ (CC ops z j) := by
    intro j hj hLj
    funext id
    by_cases hc : id < (S 0).heap.size ∨ (S m).heap.size ≤ id ∨ ∃ k, k < m ∧ CC ops z j k ∧ (S k).heap.size ≤ id ∧ id < (S (k + 1)).heap.size
    · rw [res_pos hc, res_pos hc]
      rcases hc with hc | hc | ⟨k, h1, h2, h3, h4⟩
      · exact rn0 id hc
      · exact rn2 id (by omega)
      · refine rnj k h1 ?_ id h3 h4
        rintro rfl
        rcases h2 with h2 | rfl
        · exact hL (hcl j hj hLj k h2)
        · exact hL hLj
    · rw [res_neg hc, res_neg hc]
  have hBw := J.j1.base
  refine hN ρn _ _ ⟨(J.j1.world hbel.size fun a ha => below_cells hbel a ha).rho rn0, fun j hj hLj => ?_, fun j hj hLj id h1 h2 x hx hst => ?_, ?_, fun τ hno => ?_, fun j hj hLj τ hd hhas hmax => ?_, ⟨fun τ => ?_, by rw [put_defers]; exact J.j6.2⟩, fun id h => by rw [rn2 id (by omega)]; exact J.j7 id h, J.j8.trans (hbel.mono J.j8.size), fun j hj hLj => ?_⟩
  · by_cases hji : j = i
    · subst hji
      rw [eqi]; exact q2.lowBase hBw
    · have hLj : L j := hLj.resolve_right hji
      rw [eqj j hj hLj]
      exact (J.j2 j hj hLj).world hbel.size fun a ha => below_cells hbel a ha
  · by_cases hji : j = i
    · subst hji
      rw [rn1 id h1 h2]
      have := q2.own id x hx hst
      have := J.j8.size
      omega
    · have hLj : L j := hLj.resolve_right hji
      rw [rnj j hj hji id h1 h2]
      exact J.j3 j hj hLj id h1 h2 x hx hst
  · -- two blocks are two
    have oldlt : ∀ k, k < m → L k → ∀ id, (S k).heap.size ≤ id → id < (S (k + 1)).heap.size → ∀ y, (K k).heap[id]? = some y → (y.st = 1 ∨ y.st = 2) → (ρ id).blk < w.heap.size := by
      intro k hk hLk id h1 h2 y hy hst
      have hb2 : res S m ρ (CC ops z k) id = ρ id := res_pos (.inr (.inr ⟨k, hk, .inr rfl, h1, h2⟩))
      have := ((J.j2 k hk hLk).obj id y hy (by omega)).2.2.1
      rw [hb2] at this; exact this
    intro j k hj hk hLj hLk hne id id2 h1 h2 h3 h4 x y hx hst hy hst2
    by_cases hji : j = i
    · subst hji
      have hLk : L k := hLk.resolve_right (Ne.symm hne)
      rw [rn1 id h1 h2, rnj k hk (Ne.symm hne) id2 h3 h4]
      have e1 := q2.own id x hx hst
      have e2 := oldlt k hk hLk id2 h3 h4 y hy hst2
      omega
    · have hLj' : L j := hLj.resolve_right hji
      by_cases hki : k = i
      · subst hki
        rw [rn1 id2 h3 h4, rnj j hj hji id h1 h2]
        have e1 := q2.own id2 y hy hst2
        have e2 := oldlt j hj hLj' id h1 h2 x hx hst
        omega
      · have hLk : L k := hLk.resolve_right hki
        rw [rnj j hj hji id h1 h2, rnj k hk hki id2 h3 h4]
        exact J.j4 j k hj hk hLj' hLk hne id id2 h1 h2 h3 h4 x y hx hst hy hst2
  · have hdi : (o i).dst ≠ some τ := hno i hi (.inr rfl)
    have e : (a.put (o i).dst v').tmps[τ]? = a.tmps[τ]? := by
      cases hd : (o i).dst with
      | none => rfl
      | some d =>
        simp only [Act.put]
        rw [Array.getElem?_setIfInBounds, if_neg (by rintro rfl; exact hdi hd)]
    rw [e]
    rcases J.j5a τ fun j hj hLj => hno j hj (.inl hLj) with h | ⟨u, h1, h2⟩
    · exact .inl h
    · exact .inr ⟨u, h1, h2.mono (Nat.le_refl _) rn0⟩
  · by_cases hdi : (o i).dst = some τ
    · have hij : i ≤ j := hmax i hi (.inr rfl) hdi
      have hji : j = i := by
        by_cases hji : j = i
        · exact hji
        · have := plt hi (comp hj hji (hLj.resolve_right hji) hd (.inr hdi)); omega
      subst hji
      have hlt : τ < a.tmps.size := by rw [J.j6.1 τ] at hhas; simpa using hhas
      refine ⟨v', ?_, ?_⟩
      · rw [hdi]; simp only [Act.put]; rw [Array.getElem?_setIfInBounds]; simp [hlt]
      · rw [eqi]; exact q1.mono (tr.ksize hi) fun _ _ => rfl
    · have hji : j ≠ i := by rintro rfl; exact hdi hd
      have hLj : L j := hLj.resolve_right hji
      obtain ⟨u, h1, h2⟩ := J.j5b j hj hLj τ hd hhas fun k hk hLk => hmax k hk (.inl hLk)
      refine ⟨u, ?_, by rw [eqj j hj hLj]; exact h2⟩
      rw [← h1]
      cases hd' : (o i).dst with
      | none => rfl
      | some d =>
        simp only [Act.put]
        rw [Array.getElem?_setIfInBounds, if_neg (by rintro rfl; exact hdi hd')]
  · have e : (a.put (o i).dst v').tmps.size = a.tmps.size := by cases (o i).dst <;> simp [Act.put]
    rw [e]; exact J.j6.1 τ
  · by_cases hji : j = i
    · subst hji; exact q3.low
    · exact J.j9 j hj (hLj.resolve_right hji)
theorem Inv.congr {ops : Array Oper} {z m : Nat} {T : Nat → Tr} {S : Nat → St} {o : Nat → Oper} {v : Nat → Value} {K : Nat → St} {ρ0 : Rho} {w0 : World} {d0 : List Deferred} {L L' : Nat → Prop} {ρ : Rho} {a : Act} {w : World}
    (J : Inv P B ops z m T S o v K ρ0 w0 d0 L ρ a w) (h : ∀ k, k < m → (L k ↔ L' k)) : Inv P B ops z m T S o v K ρ0 w0 d0 L' ρ a w :=
  ⟨J.j1, fun j hj hl => J.j2 j hj ((h j hj).2 hl), fun j hj hl => J.j3 j hj ((h j hj).2 hl), fun j k hj hk hl hl' => J.j4 j k hj hk ((h j hj).2 hl) ((h k hk).2 hl'),
    fun τ hno => J.j5a τ fun j hj hl => hno j hj ((h j hj).1 hl), fun j hj hl τ hd hhas hmax => J.j5b j hj ((h j hj).2 hl) τ hd hhas fun k hk hlk => hmax k hk ((h k hk).1 hlk),
    J.j6, J.j7, J.j8, fun i hi hl => J.j9 i hi ((h i hi).2 hl)⟩

/-- How many there are still. -/
def cnt (f : Nat → Bool) : Nat → Nat
  | 0 => 0
  | n + 1 => cnt f n + if f n then 1 else 0
theorem cnt_zero {f : Nat → Bool} : ∀ {n : Nat}, cnt f n = 0 → ∀ k, k < n → f k = false
  | 0, _, k, hk => by omega
  | n + 1, h, k, hk => by
    simp only [cnt] at h
    rcases Nat.lt_or_ge k n with h' | h'
    · exact cnt_zero (n := n) (by omega) k h'
    · have : k = n := by omega
      subst this
      cases hf : f k with
      | false => rfl
      | true => simp [hf] at h
theorem cnt_less {f g : Nat → Bool} {i : Nat} (hg : g i = false) (hf : f i = true) (h : ∀ k, k ≠ i → f k = g k) : ∀ n, cnt f n = cnt g n + if i < n then 1 else 0
  | 0 => by simp [cnt]
  | n + 1 => by
    simp only [cnt, cnt_less hg hf h n]
    by_cases hn : n = i
    · subst hn
      simp [hf, hg]
    · rw [h n hn]
      have : (i < n + 1) ↔ i < n := by omega
      simp only [this]
      omega

end Go.Ev
