/- THE EVALUATOR: what a new block, a store, a longer row do to the relation. -/
import Derived.Test.YtmnnnickodfibaaEvB
namespace Go.Ev
open Go.RowKit
variable {P : Program} {B : Nat}

def upd (ρ : Rho) (n : Nat) (l : Loc) : Rho := fun i => if i = n then l else ρ i
theorem upd_same (ρ : Rho) (n : Nat) (l : Loc) : upd ρ n l n = l := by simp [upd]
theorem upd_other (ρ : Rho) {n i : Nat} (l : Loc) (h : i ≠ n) : upd ρ n l i = ρ i := by simp [upd, h]

/-- A state with the same objects; more is asked. -/
structure Same (s s' : St) : Prop where
  heap : s'.heap = s.heap
  low : s'.low = s.low
  cons : ∃ l, s'.cons = l ++ s.cons
theorem Same.refl (s : St) : Same s s := ⟨rfl, rfl, [], rfl⟩
theorem Same.trans {s s' s'' : St} (h : Same s s') (k : Same s' s'') : Same s s'' := by
  obtain ⟨l, e⟩ := h.cons
  obtain ⟨l', e'⟩ := k.cons
  exact ⟨by rw [k.heap, h.heap], by rw [k.low, h.low], l' ++ l, by rw [e', e, List.append_assoc]⟩
theorem Same.step {s s' : St} (h : Same s s') (ρ : Rho) (w : World) : Step B ρ s w ρ s' w :=
  ⟨fun _ _ => rfl, by rw [h.heap]; exact Nat.le_refl _, by rw [h.low]; exact Nat.le_refl _, fun _ _ _ o' ho => ⟨o', by rw [← h.heap]; exact ho, id, .inl rfl⟩, Below.refl _ _, h.cons, fun id o o' h1 h2 => same_refl (C := fun id j => j < (ρ id).size → w.cell? ⟨(ρ id).blk, (ρ id).shift + j, none⟩ = w.cell? ⟨(ρ id).blk, (ρ id).shift + j, none⟩) (fun _ _ _ => rfl) id o o' h1 (by rw [← h.heap]; exact h2)⟩
theorem Same.holds {s s' : St} (h : Same s s') (hh : s'.Holds) : s.Holds := by
  obtain ⟨l, e⟩ := h.cons
  exact fun p hp => hh p (by rw [e]; exact List.mem_append_right _ hp)

theorem test_spec {s s' : St} {b d : Bool} (h : test s b = some (d, s')) : Same s s' ∧ (s'.Holds → b = d) := by
  unfold test at h
  split at h
  · split at h <;> (simp only [Option.some.injEq, Prod.mk.injEq] at h; obtain ⟨rfl, rfl⟩ := h; exact ⟨.refl _, fun _ => rfl⟩)
  · simp only [Option.some.injEq, Prod.mk.injEq] at h
    obtain ⟨rfl, rfl⟩ := h
    exact ⟨⟨rfl, rfl, [_], rfl⟩, fun hh => hh _ (by simp)⟩
  · split at h <;> (simp only [Option.some.injEq, Prod.mk.injEq] at h; obtain ⟨rfl, rfl⟩ := h; exact ⟨⟨rfl, rfl, [], rfl⟩, fun _ => rfl⟩)
  · split at h <;> (simp only [Option.some.injEq, Prod.mk.injEq] at h; obtain ⟨rfl, rfl⟩ := h; exact ⟨⟨rfl, rfl, [_], rfl⟩, fun _ => rfl⟩)
  · cases h
theorem need_spec {s s' : St} {b : Bool} (h : need s b = some s') : Same s s' ∧ (s'.Holds → b = true) := by
  unfold need at h
  split at h
  · split at h
    · simp only [Option.some.injEq] at h; subst h; exact ⟨.refl _, fun _ => rfl⟩
    · cases h
  · simp only [Option.some.injEq] at h
    subst h
    exact ⟨⟨rfl, rfl, [_], rfl⟩, fun hh => hh _ (by simp)⟩
  · split at h
    · simp only [Option.some.injEq] at h; subst h; exact ⟨⟨rfl, rfl, [], rfl⟩, fun _ => rfl⟩
    · cases h
  · split at h
    · simp only [Option.some.injEq] at h; subst h; exact ⟨⟨rfl, rfl, [_], rfl⟩, fun _ => rfl⟩
    · cases h
  · cases h

theorem forceN_eq {α : Type} (m : Nat) (k : Nat → α) : forceN m k = k m := by cases m <;> rfl
theorem forceI_eq {α : Type} (n : Int) (k : Int → α) : forceI n k = k n := by cases n <;> simp [forceI, forceN_eq]
theorem forceV_eq {α : Type} (v : Value) (k : Value → α) : forceV v k = k v := by
  unfold forceV
  split <;> first | rfl | exact forceI_eq _ _
theorem force_eq {α : Type} (s : St) (v : Value) (k : Value → α) : force s v k = k v := by
  unfold force
  split
  · exact forceV_eq _ _
  · rfl

theorem named_spec {s s' : St} {v u : Value} (h : named s v = some (u, s')) : Same s s' ∧ (s'.Holds → v = u) := by
  unfold named at h
  split at h
  · split at h
    · split at h
      · simp only [Option.some.injEq, Prod.mk.injEq] at h
        obtain ⟨rfl, rfl⟩ := h
        exact ⟨⟨rfl, rfl, [_], rfl⟩, fun hh => hh _ (by simp)⟩
      · cases h
    · simp only [Option.some.injEq, Prod.mk.injEq] at h
      obtain ⟨rfl, rfl⟩ := h
      exact ⟨⟨rfl, rfl, [], rfl⟩, fun _ => rfl⟩
  · rw [force_eq] at h
    simp only [Option.some.injEq, Prod.mk.injEq] at h
    obtain ⟨rfl, rfl⟩ := h
    exact ⟨.refl _, fun _ => rfl⟩

theorem there_of {w w' : World} {b o n : Nat} (h : w.there b o n) (hw : ∀ j, w'.cell? ⟨b, j, none⟩ = w.cell? ⟨b, j, none⟩ ∧ w'.frozen? ⟨b, j, none⟩ = w.frozen? ⟨b, j, none⟩) : w'.there b o n :=
  fun j hj => by rw [(hw _).1, (hw _).2]; exact h j hj

/-- The relation in a world that holds the same in old blocks. -/
theorem HRel.world {ρ : Rho} {H : Array AObj} {w w' : World} (h : HRel P B ρ H w) (hs : w.heap.size ≤ w'.heap.size)
    (hw : ∀ a : Addr, a.block < w.heap.size → w'.cell? a = w.cell? a ∧ w'.frozen? a = w.frozen? a) : HRel P B ρ H w' := by
  refine ⟨h.glob, Nat.le_trans h.base hs, fun id o ho hst => ?_, h.own, fun id o ho hst => ?_⟩
  · obtain ⟨h1, h2, h3, h4⟩ := h.obj id o ho hst
    refine ⟨h1, h2, by omega, fun j hj => ?_⟩
    obtain ⟨c', e1, e2, e3⟩ := h4 j hj
    exact ⟨c', by rw [(hw _ (by exact h3)).1]; exact e1, e2, e3⟩
  · obtain ⟨h1, h2, h3⟩ := h.head id o ho hst
    have hb := (h.obj id o ho (by omega)).2.2.1
    exact ⟨there_of h1 fun j => hw _ (by exact hb), h2, h3⟩

theorem HRel.push {ρ : Rho} {H : Array AObj} {w w' : World} (h : HRel P B ρ H w) (o : AObj) (ho : o.st = 1) (room : Nat) (hroom : o.cells.size ≤ room)
    (hs : w'.heap.size = w.heap.size + 1) (hw : ∀ a : Addr, a.block < w.heap.size → w'.cell? a = w.cell? a ∧ w'.frozen? a = w.frozen? a)
    (ht : w'.there w.heap.size 0 room)
    (hc : ∀ (j : Nat) (hj : j < o.cells.size), ∃ c', w'.cell? ⟨w.heap.size, j, none⟩ = some c' ∧ scalar o.cells[j] = true ∧ VRel H.size ρ o.cells[j] c') :
    HRel P B (upd ρ H.size ⟨w.heap.size, 0, o.cells.size, o.esz, room, false⟩) (H.push o) w' := by
  have hold : ∀ i, i < H.size → upd ρ H.size ⟨w.heap.size, 0, o.cells.size, o.esz, room, false⟩ i = ρ i := fun i hi => upd_other _ _ (by omega)
  have hw' := h.world (w' := w') (by omega) hw
  have hget : ∀ id x, (H.push o)[id]? = some x → (id < H.size ∧ H[id]? = some x) ∨ (id = H.size ∧ x = o) := by
    intro id x hx
    rw [Array.getElem?_push] at hx
    split at hx
    · rename_i e; simp at hx; exact .inr ⟨e, hx.symm⟩
    · refine .inl ⟨?_, hx⟩
      exact (Array.getElem?_eq_some_iff.1 hx).1
  refine ⟨⟨by simp; have := h.glob.1; omega, fun g hg => ?_⟩, by have := h.base; omega, fun id x hx hst => ?_, fun id x hx hst => ?_, fun id x hx hst => ?_⟩
  · rw [hold g (by have := h.glob.1; omega)]; exact h.glob.2 g hg
  · rcases hget id x hx with ⟨hlt, hx⟩ | ⟨rfl, rfl⟩
    · rw [hold id hlt]
      obtain ⟨h1, h2, h3, h4⟩ := hw'.obj id x hx hst
      refine ⟨h1, h2, h3, fun j hj => ?_⟩
      obtain ⟨c', e1, e2, e3⟩ := h4 j hj
      exact ⟨c', e1, e2, e3.mono (by simp) hold⟩
    · rw [upd_same]
      refine ⟨rfl, rfl, by show w.heap.size < _; omega, fun j hj => ?_⟩
      obtain ⟨c', e1, e2, e3⟩ := hc j hj
      exact ⟨c', by simpa using e1, e2, e3.mono (by simp) hold⟩
  · rcases hget id x hx with ⟨hlt, hx⟩ | ⟨rfl, rfl⟩
    · rw [hold id hlt]; exact h.own id x hx hst
    · rw [upd_same]; exact h.base
  · rcases hget id x hx with ⟨hlt, hxx⟩ | ⟨rfl, rfl⟩
    · rw [hold id hlt]
      obtain ⟨h1, h2, h3⟩ := hw'.head id x hxx hst
      refine ⟨h1, h2, fun id2 o2 ho2 hst2 hne hblk => ?_⟩
      rcases hget id2 o2 ho2 with ⟨hlt2, ho2⟩ | ⟨rfl, _⟩
      · rw [hold id2 hlt2] at hblk ⊢
        exact h3 id2 o2 ho2 hst2 hne hblk
      · rw [upd_same] at hblk
        have := (h.obj id x hxx (by omega)).2.2.1
        simp only at hblk
        omega
    · rw [upd_same]
      refine ⟨ht, by simpa using hroom, fun id2 o2 ho2 hst2 hne hblk => ?_⟩
      rcases hget id2 o2 ho2 with ⟨hlt2, ho2⟩ | ⟨rfl, rfl⟩
      · rw [hold id2 hlt2] at hblk
        have := (h.obj id2 o2 ho2 hst2).2.2.1
        simp only at hblk
        omega
      · exact absurd rfl hne

theorem killL_get (H : Array AObj) (l : List Nat) (id : Nat) : (killL H l)[id]? = (H[id]?).map fun o => if id ∈ l then { o with st := 3 } else o := by
  induction l generalizing H with
  | nil => simp [killL]
  | cons b r ih =>
    simp only [killL, ih, Array.getElem?_modify]
    by_cases hb : b = id
    · subst hb
      cases H[b]? <;> simp
    · simp only [if_neg hb]
      cases H[id]? with
      | none => simp
      | some x =>
        simp only [Option.map_some, List.mem_cons]
        by_cases h : id ∈ r
        · simp [h]
        · simp [h, Ne.symm hb]
theorem killL_size (H : Array AObj) (l : List Nat) : (killL H l).size = H.size := by
  induction l generalizing H with
  | nil => rfl
  | cons b r ih => simp [killL, ih]

theorem putCells_size (cells : Array Value) (off : Nat) (cs : List Value) : (putCells cells off cs).size = cells.size := by
  induction cs generalizing cells off with
  | nil => rfl
  | cons v r ih => simp [putCells, ih]
theorem putCells_get (cells : Array Value) (off : Nat) (cs : List Value) (j : Nat) (hj : j < cells.size) :
    (putCells cells off cs)[j]'(by rw [putCells_size]; exact hj) = if h : off ≤ j ∧ j < off + cs.length then cs[j - off]'(by omega) else cells[j] := by
  induction cs generalizing cells off with
  | nil => simp [putCells]; omega
  | cons v r ih =>
    simp only [putCells]
    rw [ih (cells.setIfInBounds off v) (off + 1) (by simpa using hj)]
    by_cases h1 : j = off
    · subst h1
      rw [dif_neg (by omega), dif_pos (by simp)]
      simp
    · by_cases h2 : off + 1 ≤ j ∧ j < off + 1 + r.length
      · rw [dif_pos h2, dif_pos (by simp; omega)]
        simp only [show j - off = (j - (off + 1)) + 1 by omega, List.getElem_cons_succ]
      · rw [dif_neg h2, dif_neg (by simp; omega)]
        rw [Array.getElem_setIfInBounds hj]
        simp [Ne.symm h1]

/-- A STORE into a row of the call's own. -/
theorem storeCellsAt_spec {ρ : Rho} {s s' : St} {w : World} {b off : Nat} {cs cs' : List Value} (h : storeCellsAt s b off cs = some s') (hh : s'.Holds)
    (hr : HRel P B ρ s.heap w) (hl : cs.length = cs'.length) (hv : ∀ (i : Nat) (h1 : i < cs.length) (h2 : i < cs'.length), VRel s.heap.size ρ cs[i] cs'[i]) :
    w.there (ρ b).blk ((ρ b).shift + off) cs'.length ∧ (∀ v ∈ cs', v.oneCell' = true) ∧
    HRel P B ρ s'.heap (w.setCells (ρ b).blk ((ρ b).shift + off) cs') ∧ Step B ρ s w ρ s' (w.setCells (ρ b).blk ((ρ b).shift + off) cs') ∧ s'.heap.size = s.heap.size := by
  unfold storeCellsAt own at h
  try simp only [lenQ_eq, pushQ_eq, setQ_eq] at h
  simp only [getQ_eq] at h
  split at h
  case h_2 => cases h
  rename_i o ho
  split at ho
  case h_2 => cases ho
  rename_i o0 hob
  split at ho
  case isFalse => cases ho
  rename_i hst
  simp only [Option.some.injEq] at ho
  subst ho
  split at h
  case isFalse => cases h
  rename_i hsc
  split at h
  case h_2 => cases h
  rename_i s1 hn
  obtain ⟨hsame, hcond⟩ := need_spec hn
  simp only [Option.some.injEq] at h
  subst h
  have hs1 : s1.Holds := fun p hp => hh p hp
  have hfit : off + cs.length ≤ o0.cells.size := by simpa using hcond hs1
  have hheap : s1.heap = s.heap := hsame.heap
  have hblt : b < s.heap.size := (Array.getElem?_eq_some_iff.1 hob).1
  obtain ⟨hsz, hesz, hblk, hcells⟩ := hr.obj b o0 hob (by omega)
  obtain ⟨hthere, hroom, hapart⟩ := hr.head b o0 hob hst
  have hone : ∀ v ∈ cs', v.oneCell' = true := by
    intro v hv'
    obtain ⟨i, hi, rfl⟩ := List.getElem_of_mem hv'
    exact (hv i (by omega) hi).one (List.all_eq_true.1 hsc _ (List.getElem_mem _))
  have ht : w.there (ρ b).blk ((ρ b).shift + off) cs'.length := by
    intro j hj
    have := hthere ((ρ b).shift + off + j) (by omega)
    simpa [Nat.add_assoc] using this
  have hget : ∀ id x, ((killL s1.heap o0.prev).setIfInBounds b { o0 with cells := putCells o0.cells off cs, prev := [], ver := o0.ver + 1 })[id]? = some x →
      (id = b ∧ x = { o0 with cells := putCells o0.cells off cs, prev := [], ver := o0.ver + 1 }) ∨ (id ≠ b ∧ ∃ y, s.heap[id]? = some y ∧ x = if id ∈ o0.prev then { y with st := 3 } else y) := by
    intro id x hx
    rw [hheap, Array.getElem?_setIfInBounds] at hx
    by_cases hid : b = id
    · subst hid
      rw [if_pos rfl] at hx
      split at hx
      · simp only [Option.some.injEq] at hx; exact .inl ⟨rfl, hx.symm⟩
      · cases hx
    · rw [if_neg hid, killL_get] at hx
      cases hy : s.heap[id]? with
      | none => rw [hy] at hx; simp at hx
      | some y =>
        rw [hy] at hx
        simp only [Option.map_some, Option.some.injEq] at hx
        exact .inr ⟨Ne.symm hid, y, rfl, hx.symm⟩
  have hsize' : ((killL s1.heap o0.prev).setIfInBounds b { o0 with cells := putCells o0.cells off cs, prev := [], ver := o0.ver + 1 }).size = s.heap.size := by
    rw [Array.size_setIfInBounds, killL_size, hheap]
  have hwsize : (w.setCells (ρ b).blk ((ρ b).shift + off) cs').heap.size = w.heap.size := size_setCells _ _ _ _
  refine ⟨ht, hone, ⟨⟨by rw [hsize']; exact hr.glob.1, hr.glob.2⟩, by rw [hwsize]; exact hr.base, fun id x hx hst' => ?_, fun id x hx hst' => ?_, fun id x hx hst' => ?_⟩, ⟨fun _ _ => rfl, by show _ ≤ Array.size _; rw [hsize']; exact Nat.le_refl _, ?_, fun id h1 h2 o' ho' => ?_, below_setCells _ (hr.own b o0 hob (.inl hst)) _ _ (Below.refl _ _), hsame.cons, fun id y x hy hx => ?_⟩, hsize'⟩
  · rcases hget id x hx with ⟨rfl, rfl⟩ | ⟨hne, y, hy, rfl⟩
    · refine ⟨by rw [hsz]; exact (putCells_size _ _ _).symm, hesz, by rw [hwsize]; exact hblk, fun j hj => ?_⟩
      have hj0 : j < o0.cells.size := by rw [putCells_size] at hj; exact hj
      simp only [hsize']
      rw [putCells_get _ _ _ _ hj0]
      by_cases hin : off ≤ j ∧ j < off + cs.length
      · rw [dif_pos hin]
        have hlt : j - off < cs'.length := by omega
        refine ⟨cs'[j - off], ?_, List.all_eq_true.1 hsc _ (List.getElem_mem _), hv _ _ _⟩
        have := World.cell?_setCells_in (ρ id).blk cs' ((ρ id).shift + off) w (fun k hk => (ht k hk).1) (j - off) hlt
        rw [← this]
        congr 2
        omega
      · rw [dif_neg hin]
        obtain ⟨c', e1, e2, e3⟩ := hcells j hj0
        refine ⟨c', ?_, e2, e3⟩
        rw [World.cell?_setCells_out _ _ _ _ _ (fun _ _ => by show (ρ id).shift + j < _ ∨ _ ≤ (ρ id).shift + j; omega)]
        exact e1
    · have hnp : id ∉ o0.prev := by
        intro hp; rw [if_pos hp] at hst'; simp at hst'
      simp only [if_neg hnp] at hst' ⊢
      obtain ⟨h1, h2, h3, h4⟩ := hr.obj id y hy hst'
      refine ⟨h1, h2, by rw [hwsize]; exact h3, fun j hj => ?_⟩
      obtain ⟨c', e1, e2, e3⟩ := h4 j hj
      refine ⟨c', ?_, e2, by rw [hsize']; exact e3⟩
      rw [World.cell?_setCells_out _ _ _ _ _ (fun hb _ => ?_)]
      · exact e1
      · exact absurd (hapart id y hy hst' hne hb).1 hnp
  · rcases hget id x hx with ⟨rfl, rfl⟩ | ⟨hne, y, hy, rfl⟩
    · exact hr.own id o0 hob (.inl hst)
    · by_cases hp : id ∈ o0.prev
      · rw [if_pos hp] at hst'; simp at hst'
      · rw [if_neg hp] at hst'; exact hr.own id y hy hst'
  · have thereSet : ∀ g, w.there g 0 (ρ id).room → (w.setCells (ρ b).blk ((ρ b).shift + off) cs').there g 0 (ρ id).room := fun g hg => World.there_setCells hg _ _ _
    rcases hget id x hx with ⟨rfl, rfl⟩ | ⟨hne, y, hy, rfl⟩
    · refine ⟨thereSet _ hthere, by simp only [putCells_size]; exact hroom, fun id2 o2 ho2 hst2 hne2 hblk2 => ?_⟩
      rcases hget id2 o2 ho2 with ⟨rfl, _⟩ | ⟨_, y2, hy2, rfl⟩
      · exact absurd rfl hne2
      · by_cases hp2 : id2 ∈ o0.prev
        · rw [if_pos hp2] at hst2; simp at hst2
        · rw [if_neg hp2] at hst2
          exact absurd (hapart id2 y2 hy2 hst2 hne2 hblk2).1 hp2
    · have hnp : id ∉ o0.prev := by
        intro hp; rw [if_pos hp] at hst'; simp at hst'
      simp only [if_neg hnp] at hst' ⊢
      obtain ⟨h1, h2, h3⟩ := hr.head id y hy hst'
      refine ⟨thereSet _ h1, h2, fun id2 o2 ho2 hst2 hne2 hblk2 => ?_⟩
      rcases hget id2 o2 ho2 with ⟨rfl, rfl⟩ | ⟨_, y2, hy2, rfl⟩
      · simp only [putCells_size]
        exact h3 id2 o0 hob (by omega) hne2 hblk2
      · by_cases hp2 : id2 ∈ o0.prev
        · rw [if_pos hp2] at hst2; simp at hst2
        · simp only [if_neg hp2] at hst2 ⊢
          exact h3 id2 y2 hy2 hst2 hne2 hblk2
  · show (if flatL cs = true then s1.low else min s1.low b) ≤ s.low
    have := hsame.low
    split <;> omega
  · rcases hget id o' ho' with ⟨rfl, rfl⟩ | ⟨hne, y, hy, rfl⟩
    · refine ⟨o0, hob, fun h => h, .inr fun j v hv' => ?_⟩
      have hfl : flatL cs = true := by
        by_cases hf : flatL cs = true
        · exact hf
        · simp only [if_neg hf] at h2; omega
      have hj : j < o0.cells.size := by
        have := (Array.getElem?_eq_some_iff.1 hv').1
        rw [putCells_size] at this; exact this
      rw [Array.getElem?_eq_getElem (by rw [putCells_size]; exact hj), putCells_get _ _ _ _ hj] at hv'
      split at hv'
      · refine .inr ?_
        simp only [Option.some.injEq] at hv'
        rw [← hv']
        exact flatL_all.1 hfl _ (List.getElem_mem _)
      · left; rw [Array.getElem?_eq_getElem hj]; exact hv'
    · by_cases hp : id ∈ o0.prev
      · rw [if_pos hp]; exact ⟨y, hy, fun h => absurd h (by simp), .inl rfl⟩
      · rw [if_neg hp]; exact ⟨y, hy, fun h => h, .inl rfl⟩
  · rcases hget id x hx with ⟨rfl, rfl⟩ | ⟨hne, y', hy', rfl⟩
    · rw [hob] at hy; cases hy
      exact ⟨Nat.le_succ _, fun _ => ⟨by omega, fun hv => absurd hv (by simp)⟩⟩
    · rw [hy'] at hy; cases hy
      by_cases hp : id ∈ o0.prev
      · simp only [if_pos hp]; exact ⟨Nat.le_refl _, fun h => absurd h (by simp)⟩
      · simp only [if_neg hp]
        refine ⟨Nat.le_refl _, fun hst' => ⟨hst', fun _ j hj => ?_⟩⟩
        rw [World.cell?_setCells_out _ _ _ _ _ (fun hb _ => ?_)]
        exact absurd (hapart id y hy' hst' hne hb).1 hp
end Go.Ev
