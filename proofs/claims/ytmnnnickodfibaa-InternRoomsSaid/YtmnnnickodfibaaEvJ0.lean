/- THE EVALUATOR: the order within a region. -/
import Derived.Test.YtmnnnickodfibaaEvI
namespace Go.Ev
open Go.RowKit
variable {P : Program} {B : Nat}

theorem maskE_spec (acc : Array Nat) (j : Nat) : ∀ l : List Edge, (maskE acc l).testBit j = true ↔ ∃ e ∈ l, Region.binds .any e = true ∧ (j = e.on ∨ (acc.getD e.on 0).testBit j = true)
  | [] => by simp [maskE]
  | e :: r => by
    have ih := maskE_spec acc j r
    simp only [maskE]
    split
    · rename_i hb
      rw [Nat.testBit_or, Nat.testBit_or, Bool.or_eq_true, Bool.or_eq_true, ih]
      constructor
      · rintro ((h | h) | ⟨e', h1, h2⟩)
        · rw [Nat.testBit_two_pow] at h
          have h' : e.on = j := by simpa using h
          exact ⟨e, List.mem_cons_self, hb, .inl h'.symm⟩
        · exact ⟨e, List.mem_cons_self, hb, .inr h⟩
        · exact ⟨e', List.mem_cons_of_mem _ h1, h2⟩
      · rintro ⟨e', h1, h2, h3⟩
        rcases List.mem_cons.1 h1 with rfl | h1
        · rcases h3 with rfl | h3
          · exact .inl (.inl (by rw [Nat.testBit_two_pow]; simp))
          · exact .inl (.inr h3)
        · exact .inr ⟨e', h1, h2, h3⟩
    · rename_i hb
      rw [ih]
      constructor
      · rintro ⟨e', h1, h2⟩
        exact ⟨e', List.mem_cons_of_mem _ h1, h2⟩
      · rintro ⟨e', h1, h2, h3⟩
        rcases List.mem_cons.1 h1 with rfl | h1
        · exact absurd h2 hb
        · exact ⟨e', h1, h2, h3⟩

theorem maskE_congr (acc acc' : Array Nat) : ∀ l : List Edge, (∀ e ∈ l, Region.binds .any e = true → acc.getD e.on 0 = acc'.getD e.on 0) → maskE acc l = maskE acc' l
  | [], _ => rfl
  | e :: r, h => by
    simp only [maskE]
    rw [maskE_congr acc acc' r fun e' he' => h e' (List.mem_cons_of_mem _ he')]
    split
    · rename_i hb; rw [h e List.mem_cons_self hb]
    · rfl

theorem befL_old : ∀ (l : List Oper) (acc : Array Nat) (k : Nat), k < acc.size → (befL l acc).getD k 0 = acc.getD k 0
  | [], _, _, _ => rfl
  | o :: r, acc, k, hk => by
    simp only [befL]
    rw [befL_old r _ k (by simp; omega)]
    simp [Array.getD, hk, Nat.lt_succ_of_lt hk, Array.getElem_push]

theorem befL_at : ∀ (l : List Oper) (acc : Array Nat) (k : Nat) (o : Oper), l[k]? = some o → (∀ e ∈ o.after.toList, Region.binds .any e = true → e.on < acc.size + k) →
    (befL l acc).getD (acc.size + k) 0 = maskE (befL l acc) o.after.toList
  | [], _, _, _, h, _ => by simp at h
  | o :: r, acc, 0, o', h, he => by
    simp only [List.getElem?_cons_zero, Option.some.injEq] at h
    subst h
    simp only [befL, Nat.add_zero] at he ⊢
    rw [befL_old r _ acc.size (by simp)]
    have : (acc.push (maskE acc o.after.toList)).getD acc.size 0 = maskE acc o.after.toList := by simp [Array.getD]
    rw [this]
    refine maskE_congr _ _ _ fun e h1 h2 => ?_
    have hlt := he e h1 h2
    rw [befL_old r _ e.on (by simp; omega)]
    simp [Array.getD, hlt, Nat.lt_succ_of_lt hlt, Array.getElem_push]
  | o :: r, acc, k + 1, o', h, he => by
    simp only [befL]
    have := befL_at r (acc.push (maskE acc o.after.toList)) k o' (by simpa using h) (fun e h1 h2 => by have := he e h1 h2; simp; omega)
    simp only [Array.size_push] at this
    rw [show acc.size + (k + 1) = acc.size + 1 + k by omega]
    exact this

section
variable {ops : Array Oper} (hok : okRegion ops = true)
include hok
theorem ok_edge {i : Nat} {o : Oper} (ho : ops[i]? = some o) {e : Edge} (he : e ∈ o.after.toList) (hb : Region.binds .any e = true) : e.on < i := by
  have hlt := (Array.getElem?_eq_some_iff.1 ho).1
  unfold okRegion at hok
  have h1 := List.all_eq_true.1 hok i (List.mem_range.2 hlt)
  simp only [Bool.and_eq_true, ho, Option.map_some, Option.getD_some] at h1
  have := List.all_eq_true.1 h1.1 e he
  simpa [hb] using this
theorem ok_pair {i j : Nat} {oi oj : Oper} {d : Tmp} (hi : ops[i]? = some oi) (hj : ops[j]? = some oj) (hd : oj.dst = some d) (hne : i ≠ j) (hl : d ∈ looks ops oi ∨ oi.dst = some d) :
    ((befs ops).getD i 0).testBit j = true ∨ ((befs ops).getD j 0).testBit i = true := by
  have hlt := (Array.getElem?_eq_some_iff.1 hi).1
  have hlt2 := (Array.getElem?_eq_some_iff.1 hj).1
  unfold okRegion at hok
  have h1 := List.all_eq_true.1 hok i (List.mem_range.2 hlt)
  simp only [Bool.and_eq_true] at h1
  have h2 := List.all_eq_true.1 h1.2 j (List.mem_range.2 hlt2)
  simp only [okPair, hi, hj, hd, Bool.or_eq_true] at h2
  rcases h2 with ((h2 | h2) | h2) | h2
  · exact absurd (by simpa using h2) hne
  · exact .inl h2
  · exact .inr h2
  · exfalso
    simp only [Bool.not_eq_true', Bool.or_eq_false_iff] at h2
    rcases hl with hl | hl
    · have := h2.1; simp [hl] at this
    · have := h2.2; simp [hl] at this
theorem pre_spec {i : Nat} {o : Oper} (ho : ops[i]? = some o) (j : Nat) : ((befs ops).getD i 0).testBit j = true ↔ ∃ e ∈ o.after.toList, Region.binds .any e = true ∧ (j = e.on ∨ ((befs ops).getD e.on 0).testBit j = true) := by
  have := befL_at ops.toList #[] i o (by simpa using ho) (fun e h1 h2 => by have := ok_edge hok ho h1 h2; simpa using this)
  simp only [List.size_toArray, List.length_nil, Nat.zero_add] at this
  unfold befs
  rw [this]
  exact maskE_spec _ _ _
theorem pre_lt : ∀ (i : Nat), i < ops.size → ∀ j, ((befs ops).getD i 0).testBit j = true → j < i := by
  intro i
  induction i using Nat.strongRecOn with
  | _ i ih =>
    intro hi j hj
    have ho : ops[i]? = some ops[i] := Array.getElem?_eq_getElem hi
    obtain ⟨e, h1, h2, h3⟩ := (pre_spec hok ho j).1 hj
    have hlt := ok_edge hok ho h1 h2
    rcases h3 with rfl | h3
    · exact hlt
    · have := ih e.on hlt (by omega) j h3
      omega
theorem pre_trans : ∀ (i : Nat), i < ops.size → ∀ j k, ((befs ops).getD i 0).testBit j = true → ((befs ops).getD j 0).testBit k = true → ((befs ops).getD i 0).testBit k = true := by
  intro i
  induction i using Nat.strongRecOn with
  | _ i ih =>
    intro hi j k hj hk
    have ho : ops[i]? = some ops[i] := Array.getElem?_eq_getElem hi
    obtain ⟨e, h1, h2, h3⟩ := (pre_spec hok ho j).1 hj
    have hlt := ok_edge hok ho h1 h2
    refine (pre_spec hok ho k).2 ⟨e, h1, h2, .inr ?_⟩
    rcases h3 with rfl | h3
    · exact hk
    · exact ih e.on hlt (by omega) j k h3 hk
end

theorem maskL_get (rg : Ranges) (p : Nat) : ∀ (l : List AObj) (k i : Nat), (maskL rg p k l)[i]? = (l[i]?).map (maskO rg p (k + i))
  | [], _, _ => by simp [maskL]
  | o :: r, k, 0 => by simp [maskL]
  | o :: r, k, i + 1 => by
    simp only [maskL, List.getElem?_cons_succ]
    rw [maskL_get rg p r (k + 1) i]
    congr 2
    omega
theorem maskL_length (rg : Ranges) (p : Nat) : ∀ (l : List AObj) (k : Nat), (maskL rg p k l).length = l.length
  | [], _ => rfl
  | o :: r, k => by simp [maskL, maskL_length rg p r (k + 1)]

/-- The temporaries but for those that are not looked at. -/
theorem Tr.only (t : Tr) : ∀ p : Nat → Prop, ∃ t' : Tr, (∀ i, t'.has i = t.has i) ∧ (∀ i, p i → t'.get i = t.get i) ∧ (∀ i, ¬ p i → t'.get i = gone) := by
  induction t with
  | leaf => exact fun p => ⟨.leaf, fun _ => rfl, fun _ _ => rfl, fun _ _ => rfl⟩
  | node l v r ihl ihr =>
    intro p
    obtain ⟨l', l1, l2, l3⟩ := ihl fun j => p (2 * j + 1)
    obtain ⟨r', r1, r2, r3⟩ := ihr fun j => p (2 * j + 2)
    have hcl : ∃ u, (p 0 → u = v) ∧ (¬ p 0 → u = gone) := by
      by_cases h : p 0
      · exact ⟨v, fun _ => rfl, fun h' => absurd h h'⟩
      · exact ⟨gone, fun h' => absurd h' h, fun _ => rfl⟩
    obtain ⟨u, u1, u2⟩ := hcl
    refine ⟨.node l' u r', fun i => ?_, fun i hp => ?_, fun i hp => ?_⟩
    · cases i with
      | zero => rfl
      | succ i =>
        simp only [Tr.has]
        rw [l1, r1]
    · cases i with
      | zero => exact u1 hp
      | succ i =>
        simp only [Tr.get]
        rcases Nat.mod_two_eq_zero_or_one i with h | h
        · have hb : Nat.beq (i % 2) 0 = true := by rw [h]; rfl
          simp only [hb, cond]
          exact l2 _ (by rw [show 2 * (i / 2) + 1 = i + 1 by omega]; exact hp)
        · have hb : Nat.beq (i % 2) 0 = false := by rw [h]; rfl
          simp only [hb, cond]
          exact r2 _ (by rw [show 2 * (i / 2) + 2 = i + 1 by omega]; exact hp)
    · cases i with
      | zero => exact u2 hp
      | succ i =>
        simp only [Tr.get]
        rcases Nat.mod_two_eq_zero_or_one i with h | h
        · have hb : Nat.beq (i % 2) 0 = true := by rw [h]; rfl
          simp only [hb, cond]
          exact l3 _ (by rw [show 2 * (i / 2) + 1 = i + 1 by omega]; exact hp)
        · have hb : Nat.beq (i % 2) 0 = false := by rw [h]; rfl
          simp only [hb, cond]
          exact r3 _ (by rw [show 2 * (i / 2) + 2 = i + 1 by omega]; exact hp)

theorem evStepV_congr {call : CallFn} {ops : Array Oper} {o : Oper} {t u : Tr} {s : St} (h : ∀ d ∈ looks ops o, t.get d = u.get d) : evStepV P call ops o t s = evStepV P call ops o u s := by
  have hop : ∀ s, evOpF P call o t s = evOpF P call o u s := fun s => by
   rw [evOpF_eq, evOpF_eq]
   exact evOp_congr fun x hx => by
    cases x with
    | tmp i =>
      simp only [opnd, Tr.getR_eq]
      rw [h i (by
        unfold looks
        refine List.mem_append_left _ (List.mem_filterMap.2 ⟨.tmp i, by simpa using hx, rfl⟩))]
    | const => rfl
    | global => rfl
    | func => rfl
  have hw : evWanted ops o t s = evWanted ops o u s := by
    unfold evWanted
    split
    · rfl
    · rename_i j want hg
      split
      · rfl
      · rename_i d hd
        rw [h d (by
          unfold looks
          refine List.mem_append_right _ ?_
          rw [hg]
          simp [hd])]
  unfold evStepV
  rw [hw]
  split
  · exact hop _
  · rfl
  · rfl
end Go.Ev
