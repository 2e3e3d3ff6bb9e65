/- THE EVALUATOR: a region that draws its order. -/
import Derived.Test.YtmnnnickodfibaaEvJ0
namespace Go.Ev
open Go.RowKit
variable {P : Program} {B : Nat}

theorem stepD_grows {call : CallFn} (hgr : CallGrows call) {ops : Array Oper} {i : Nat} {x y : Tr × St × Ranges} (h : stepD P call ops (befs ops) i x = some y) : Grows x.2.1 y.2.1 := by
  unfold stepD at h
  split at h
  · cases h
  · split at h
    · cases h
    · rename_i t1 s1 h1
      obtain ⟨v, hv, _⟩ := evStep_eq h1
      have := evStepV_grows hgr hv
      split at h <;> (simp only [Option.some.injEq] at h; subst h; exact this)
theorem stepB_eq {call : CallFn} {ops : Array Oper} {i : Nat} {x y : Tr × St × Ranges} (h : stepB P call ops i x = some y) :
    ∃ o v, ops[i]? = some o ∧ evStepV P call ops o x.1 x.2.1 = some (v, y.2.1) ∧ y.1 = putT x.1 o.dst v ∧ y.2.2 = [] := by
  unfold stepB at h
  split at h
  · cases h
  · rename_i o ho
    split at h
    · cases h
    · rename_i t1 s1 h1
      obtain ⟨v, hv, rfl⟩ := evStep_eq h1
      simp only [Option.some.injEq] at h
      subst h
      exact ⟨o, v, ho, hv, rfl, rfl⟩
theorem drawL_grows {call : CallFn} (hgr : CallGrows call) {ops : Array Oper} : ∀ (l : List Bool) (i : Nat) {x y : Tr × St × Ranges}, drawL P call ops (befs ops) l i x = some y → Grows x.2.1 y.2.1
  | [], _, _, _, h => by simp only [drawL, Option.some.injEq] at h; subst h; exact .refl _
  | true :: r, i, x, y, h => by
    simp only [drawL] at h
    split at h
    · rename_i z hz
      obtain ⟨o, v, _, hv, _⟩ := stepB_eq hz
      exact (evStepV_grows hgr hv).trans (drawL_grows hgr r (i + 1) h)
    · cases h
  | false :: r, i, x, y, h => by
    simp only [drawL] at h
    split at h
    · rename_i z hz
      exact (stepD_grows hgr hz).trans (drawL_grows hgr r (i + 1) h)
    · cases h
theorem evDrawOld_grows {call : CallFn} (hgr : CallGrows call) {ops : Array Oper} {t t' : Tr} {s s' : St} (h : evDrawOld P call ops t s = some (t', s')) : Grows s s' := by
  unfold evDrawOld at h
  split at h
  · rename_i hr
    simp only [Option.some.injEq, Prod.mk.injEq] at h
    obtain ⟨rfl, rfl⟩ := h
    exact drawL_grows hgr (ops := front ops) _ _ hr
  · cases h
theorem drawL_split {call : CallFn} {ops : Array Oper} {r : List Bool} : ∀ (m i : Nat) (x : Tr × St × Ranges),
    drawL P call ops (befs ops) (List.replicate m false ++ r) i x = (runTo P call ops (befs ops) i x m).bind (drawL P call ops (befs ops) r (i + m)) := by
  have first : ∀ (m i : Nat) (x : Tr × St × Ranges), runTo P call ops (befs ops) i x (m + 1) = (stepD P call ops (befs ops) i x).bind fun y => runTo P call ops (befs ops) (i + 1) y m := by
    intro m
    induction m with
    | zero => intro i x; simp only [runTo, Nat.add_zero]; cases stepD P call ops (befs ops) i x <;> rfl
    | succ m ih =>
      intro i x
      rw [runTo, ih i x]
      cases hs : stepD P call ops (befs ops) i x with
      | none => rfl
      | some y =>
        simp only [Option.bind_some]
        rw [runTo, show i + (m + 1) = i + 1 + m by omega]
  intro m
  induction m with
  | zero => intro i x; rfl
  | succ m ih =>
    intro i x
    rw [List.replicate_succ, List.cons_append, drawL, first m i x]
    cases hs : stepD P call ops (befs ops) i x with
    | none => rfl
    | some y =>
      simp only [Option.bind_some]
      rw [ih (i + 1) y, show i + 1 + m = i + (m + 1) by omega]

/-- THE RUN IN THE TEXT's ORDER, step for step. -/
structure Trace (P : Program) (call : CallFn) (ops : Array Oper) (z m : Nat) (T : Nat → Tr) (S : Nat → St) (R : Nat → Ranges) (o : Nat → Oper) (v : Nat → Value) (K : Nat → St) : Prop where
  top : z + m ≤ ops.size
  op : ∀ i, i < m → ops[z + i]? = some (o i)
  step : ∀ i, i < m → evStepV P call ops (o i) (T i) { S i with heap := ⟨maskL (R i) ((befs ops).getD (z + i) 0) 0 (S i).heap.toList⟩ } = some (v i, K i)
  tmps : ∀ i, i < m → T (i + 1) = putT (T i) (o i).dst (v i)
  next : ∀ i, i < m → (S (i + 1)).low = (K i).low ∧ (S (i + 1)).cons = (K i).cons ∧ (S (i + 1)).heap = ⟨(S i).heap.toList ++ ((K i).heap.toList.drop (S i).heap.size).map fixO⟩
  rng0 : R 0 = []
  rng : ∀ i, i < m → ((K i).heap.size ≤ (S i).heap.size ∧ R (i + 1) = R i) ∨ R (i + 1) = (z + i, (S i).heap.size, (K i).heap.size) :: R i

theorem trace_of {call : CallFn} {ops : Array Oper} {z m : Nat} (htop : z + m ≤ ops.size) {t t1 : Tr} {s s1 : St} {r1 : Ranges} (hrun : runTo P call ops (befs ops) z (t, s, []) m = some (t1, s1, r1)) :
    ∃ T S R o v K, Trace P call ops z m T S R o v K ∧ T 0 = t ∧ S 0 = s ∧ T m = t1 ∧ S m = s1 := by
  -- it has come to each place on the way
  have down : ∀ n, ∀ y, runTo P call ops (befs ops) z (t, s, []) n = some y → ∀ i, i ≤ n → ∃ q, runTo P call ops (befs ops) z (t, s, []) i = some q := by
    intro n
    induction n with
    | zero => intro y hy i hi; exact ⟨y, by rw [Nat.le_zero.1 hi]; exact hy⟩
    | succ n ih =>
      intro y hy i hi
      rcases Nat.lt_or_ge i (n + 1) with hlt | hge
      · simp only [runTo] at hy
        split at hy
        · exact ih _ ‹_› i (by omega)
        · cases hy
      · exact ⟨y, by rw [show i = n + 1 by omega]; exact hy⟩
  let y : Nat → Tr × St × Ranges := fun i => (runTo P call ops (befs ops) z (t, s, []) i).getD (t, s, [])
  have hy : ∀ i, i ≤ m → runTo P call ops (befs ops) z (t, s, []) i = some (y i) := by
    intro i hi
    obtain ⟨q, hq⟩ := down _ _ hrun i hi
    show _ = some ((runTo P call ops (befs ops) z (t, s, []) i).getD (t, s, []))
    rw [hq]; rfl
  have hs : ∀ i, i < m → stepD P call ops (befs ops) (z + i) (y i) = some (y (i + 1)) := by
    intro i hi
    have h1 := hy (i + 1) (by omega)
    simp only [runTo, hy i (by omega)] at h1
    exact h1
  let M : Nat → St := fun i => { (y i).2.1 with heap := ⟨maskL (y i).2.2 ((befs ops).getD (z + i) 0) 0 (y i).2.1.heap.toList⟩ }
  let o : Nat → Oper := fun i => (ops[z + i]?).getD default
  let r : Nat → Value × St := fun i => (evStepV P call ops (o i) (y i).1 (M i)).getD (gone, s)
  have key : ∀ i, i < m → ops[z + i]? = some (o i) ∧ evStepV P call ops (o i) (y i).1 (M i) = some (r i) ∧ (y (i + 1)).1 = putT (y i).1 (o i).dst (r i).1 ∧
      ((r i).2.heap.size ≤ (y i).2.1.heap.size ∧ (y (i + 1)).2.1 = { (r i).2 with heap := (y i).2.1.heap } ∧ (y (i + 1)).2.2 = (y i).2.2 ∨
       ¬ (r i).2.heap.size ≤ (y i).2.1.heap.size ∧ (y (i + 1)).2.1 = { (r i).2 with heap := ⟨(y i).2.1.heap.toList ++ ((r i).2.heap.toList.drop (y i).2.1.heap.size).map fixO⟩ } ∧ (y (i + 1)).2.2 = (z + i, (y i).2.1.heap.size, (r i).2.heap.size) :: (y i).2.2) := by
    intro i hi
    have h1 := hs i hi
    have ho : ops[z + i]? = some (o i) := by
      show ops[z + i]? = some ((ops[z + i]?).getD default)
      rw [Array.getElem?_eq_getElem (show z + i < ops.size by omega)]; rfl
    unfold stepD at h1
    rw [ho] at h1
    simp only at h1
    split at h1
    · cases h1
    · rename_i t2 s2 h2
      obtain ⟨v, hv, rfl⟩ := evStep_eq h2
      have hr : r i = (v, s2) := by
        show (evStepV P call ops (o i) (y i).1 (M i)).getD (gone, s) = _
        rw [hv]; rfl
      refine ⟨ho, by rw [hr]; exact hv, ?_, ?_⟩
      · rw [hr]
        split at h1 <;> (simp only [Option.some.injEq] at h1; rw [← h1])
      · rw [hr]
        split at h1
        · rename_i hc
          simp only [Option.some.injEq] at h1
          exact .inl ⟨hc, by rw [← h1], by rw [← h1]⟩
        · rename_i hc
          simp only [Option.some.injEq] at h1
          exact .inr ⟨hc, by rw [← h1], by rw [← h1]⟩
  refine ⟨fun i => (y i).1, fun i => (y i).2.1, fun i => (y i).2.2, o, fun i => (r i).1, fun i => (r i).2, ⟨htop, fun i hi => (key i hi).1, fun i hi => (key i hi).2.1, fun i hi => (key i hi).2.2.1, fun i hi => ?_, ?_, fun i hi => ?_⟩, ?_, ?_, ?_, ?_⟩
  · rcases (key i hi).2.2.2 with ⟨h1, h2, _⟩ | ⟨_, h2, _⟩
    · show (y (i + 1)).2.1.low = _ ∧ (y (i + 1)).2.1.cons = _ ∧ (y (i + 1)).2.1.heap = _
      rw [h2]
      refine ⟨rfl, rfl, ?_⟩
      have : (r i).2.heap.toList.drop (y i).2.1.heap.size = [] := List.drop_eq_nil_of_le (by simpa using h1)
      rw [this]; simp
    · show (y (i + 1)).2.1.low = _ ∧ (y (i + 1)).2.1.cons = _ ∧ (y (i + 1)).2.1.heap = _
      rw [h2]; exact ⟨rfl, rfl, rfl⟩
  · have := hy 0 (Nat.zero_le _)
    simp only [runTo, Option.some.injEq] at this
    show (y 0).2.2 = []
    rw [← this]
  · rcases (key i hi).2.2.2 with ⟨h1, _, h3⟩ | ⟨_, _, h3⟩
    · exact .inl ⟨h1, h3⟩
    · exact .inr h3
  · have := hy 0 (Nat.zero_le _)
    simp only [runTo, Option.some.injEq] at this
    show (y 0).1 = t
    rw [← this]
  · have := hy 0 (Nat.zero_le _)
    simp only [runTo, Option.some.injEq] at this
    show (y 0).2.1 = s
    rw [← this]
  · have := hy m (Nat.le_refl _)
    rw [hrun, Option.some.injEq] at this
    show (y m).1 = t1
    rw [← this]
  · have := hy m (Nat.le_refl _)
    rw [hrun, Option.some.injEq] at this
    show (y m).2.1 = s1
    rw [← this]

/-- Whose is it? -/
theorem Trace.whose {S : Nat → St} {id : Nat} : ∀ n, (S 0).heap.size ≤ id → id < (S n).heap.size → ∃ j, j < n ∧ (S j).heap.size ≤ id ∧ id < (S (j + 1)).heap.size := by
  intro n
  induction n with
  | zero => intro h1 h2; omega
  | succ n ih =>
    intro h1 h2
    rcases Nat.lt_or_ge id (S n).heap.size with h | h
    · obtain ⟨j, a, b, c⟩ := ih h1 h
      exact ⟨j, by omega, b, c⟩
    · exact ⟨n, by omega, h, h2⟩
theorem Trace.msize {ops : Array Oper} {z : Nat} {S : Nat → St} {R : Nat → Ranges} {i : Nat} : (⟨maskL (R i) ((befs ops).getD (z + i) 0) 0 (S i).heap.toList⟩ : Array AObj).size = (S i).heap.size := by simp [maskL_length]
section
variable {call : CallFn} {ops : Array Oper} {z m : Nat} {T : Nat → Tr} {S : Nat → St} {R : Nat → Ranges} {o : Nat → Oper} {v : Nat → Value} {K : Nat → St} (tr : Trace P call ops z m T S R o v K)
include tr
theorem Trace.size {i : Nat} (hi : i < m) : (S (i + 1)).heap.size = (S i).heap.size + ((K i).heap.size - (S i).heap.size) := by
  rw [(tr.next i hi).2.2]
  simp
theorem Trace.mono {i : Nat} (k : Nat) (hk : i + k ≤ m) : (S i).heap.size ≤ (S (i + k)).heap.size := by
  induction k with
  | zero => exact Nat.le_refl _
  | succ k ih =>
    have := tr.size (i := i + k) (by omega)
    rw [show i + (k + 1) = i + k + 1 by omega, this]
    have := ih (by omega)
    omega
theorem Trace.mono' {i j : Nat} (h : i ≤ j) (hj : j ≤ m) : (S i).heap.size ≤ (S j).heap.size := by
  have := tr.mono (i := i) (j - i) (by omega)
  rwa [show i + (j - i) = j by omega] at this
theorem Trace.one {id j k : Nat} (hj : j < m) (hk : k < m) (h1 : (S j).heap.size ≤ id) (h2 : id < (S (j + 1)).heap.size) (h3 : (S k).heap.size ≤ id) (h4 : id < (S (k + 1)).heap.size) : j = k := by
  rcases Nat.lt_trichotomy j k with h | h | h
  · have := tr.mono' (i := j + 1) (j := k) (by omega) (by omega); omega
  · exact h
  · have := tr.mono' (i := k + 1) (j := j) (by omega) (by omega); omega
theorem Trace.owner {id : Nat} : ∀ i, i ≤ m → (∀ j, j < i → (S j).heap.size ≤ id → id < (S (j + 1)).heap.size → ownerIn (R i) id = some (z + j)) ∧ (id < (S 0).heap.size ∨ (S i).heap.size ≤ id → ownerIn (R i) id = none) := by
  intro i
  induction i with
  | zero => intro _; rw [tr.rng0]; exact ⟨fun j h => by omega, fun _ => rfl⟩
  | succ i ih =>
    intro hi
    obtain ⟨i1, i2⟩ := ih (by omega)
    have hsz := tr.size (i := i) (by omega)
    have h0 := tr.mono' (i := 0) (j := i) (by omega) (by omega)
    rcases tr.rng i (by omega) with ⟨hle, hR⟩ | hR
    · rw [hR]
      have e : (S (i + 1)).heap.size = (S i).heap.size := by omega
      refine ⟨fun j hj h1 h2 => ?_, fun h => i2 (by rw [e] at h; exact h)⟩
      rcases Nat.lt_or_ge j i with h | h
      · exact i1 j h h1 h2
      · have : j = i := by omega
        subst this; omega
    · rw [hR]
      simp only [ownerIn]
      refine ⟨fun j hj h1 h2 => ?_, fun h => ?_⟩
      · rcases Nat.lt_or_ge j i with hlt | hge
        · have := tr.mono' (i := j + 1) (j := i) (by omega) (by omega)
          rw [if_neg (by omega)]
          exact i1 j hlt h1 h2
        · have : j = i := by omega
          subst this
          rw [if_pos (by omega)]
      · rw [if_neg (by omega)]
        exact i2 (by omega)
/-- What stood stays. -/
theorem Trace.old {i id : Nat} (hid : id < (S i).heap.size) : ∀ k, i + k ≤ m → (S (i + k)).heap[id]? = (S i).heap[id]? := by
  intro k
  induction k with
  | zero => intro _; rfl
  | succ k ih =>
    intro hk
    have hm := tr.mono (i := i) k (by omega)
    rw [show i + (k + 1) = i + k + 1 by omega, (tr.next (i + k) (by omega)).2.2, ← Array.getElem?_toList]
    simp only
    rw [List.getElem?_append_left (by simp; omega), Array.getElem?_toList]
    exact ih (by omega)
theorem Trace.new {j id : Nat} (hj : j < m) (h1 : (S j).heap.size ≤ id) (h2 : id < (S (j + 1)).heap.size) {k : Nat} (hjk : j < k) (hk : k ≤ m) : (S k).heap[id]? = ((K j).heap[id]?).map fixO := by
  have := tr.old (i := j + 1) (id := id) h2 (k - (j + 1)) (by omega)
  rw [show j + 1 + (k - (j + 1)) = k by omega] at this
  rw [this, (tr.next j hj).2.2, ← Array.getElem?_toList]
  simp only
  rw [List.getElem?_append_right (by simp; exact h1), List.getElem?_map, List.getElem?_drop, Array.length_toList, Array.getElem?_toList]
  congr 2
  omega
theorem Trace.ksize {j : Nat} (hj : j < m) : (K j).heap.size ≤ (S (j + 1)).heap.size := by have := tr.size hj; omega
/-- What an operation looks at. -/
theorem Trace.mask {i id : Nat} (hi : i < m) {x : AObj} (hx : (⟨maskL (R i) ((befs ops).getD (z + i) 0) 0 (S i).heap.toList⟩ : Array AObj)[id]? = some x) (hst : x.st < 3) :
    (id < (S 0).heap.size ∧ ∃ y, (S 0).heap[id]? = some y ∧ y.st < 3 ∧ x = { y with st := 0 }) ∨
    (∃ j, j < i ∧ ((befs ops).getD (z + i) 0).testBit (z + j) = true ∧ (S j).heap.size ≤ id ∧ id < (S (j + 1)).heap.size ∧ ∃ y, (K j).heap[id]? = some y ∧ y.st < 3 ∧ x = { y with st := 0 }) := by
  rw [List.getElem?_toArray, maskL_get, Nat.zero_add, Array.getElem?_toList] at hx
  cases hy : (S i).heap[id]? with
  | none => rw [hy] at hx; simp at hx
  | some y =>
    rw [hy] at hx
    simp only [Option.map_some, Option.some.injEq] at hx
    have hlt := (Array.getElem?_eq_some_iff.1 hy).1
    obtain ⟨o1, o2⟩ := tr.owner (id := id) i (by omega)
    have hro : ∀ z : AObj, (roO z).st < 3 → z.st < 3 ∧ roO z = { z with st := 0 } := by
      intro z hz
      unfold roO at hz ⊢
      by_cases h : z.st < 3
      · simp [h]
      · simp [h] at hz
    rcases Nat.lt_or_ge id (S 0).heap.size with h0 | h0
    · left
      have := tr.old (i := 0) (id := id) h0 i (by omega)
      rw [Nat.zero_add] at this
      rw [this] at hy
      unfold maskO at hx
      rw [o2 (.inl h0)] at hx
      simp only at hx
      subst hx
      obtain ⟨h1, h2⟩ := hro y hst
      exact ⟨h0, y, hy, h1, h2⟩
    · right
      obtain ⟨j, j1, j2, j3⟩ := Trace.whose i h0 hlt
      unfold maskO at hx
      rw [o1 j j1 j2 j3] at hx
      simp only at hx
      split at hx
      · rename_i hb
        subst hx
        rw [tr.new (by omega) j2 j3 j1 (by omega)] at hy
        cases hz : (K j).heap[id]? with
        | none => rw [hz] at hy; simp at hy
        | some z =>
          rw [hz] at hy
          simp only [Option.map_some, Option.some.injEq] at hy
          subst hy
          obtain ⟨h1, h2⟩ := hro _ hst
          have hfix : (fixO z).st < 3 → z.st < 3 ∧ ({ fixO z with st := 0 } : AObj) = { z with st := 0 } := by
            intro h
            unfold fixO at h ⊢
            by_cases h0 : z.st = 0
            · simp [h0, deadO] at h
            · simp [h0] at h ⊢; exact h
          obtain ⟨h3, h4⟩ := hfix h1
          exact ⟨j, j1, hb, j2, j3, z, hz, h3, by rw [h2, h4]⟩
      · subst hx
        simp [deadO] at hst
end
end Go.Ev
