/- THE EVALUATOR: append. -/
import Derived.Test.YtmnnnickodfibaaEvC
namespace Go.Ev
open Go.RowKit
variable {P : Program} {B : Nat}

/-- An own row that is no longer to be written. -/
theorem HRel.past {ρ : Rho} {H : Array AObj} {w : World} (h : HRel P B ρ H w) (b : Nat) (o : AObj) (ho : H[b]? = some o) (hst : o.st = 1) :
    HRel P B ρ (H.setIfInBounds b { o with st := 2, prev := [] }) w := by
  have hget : ∀ id x, (H.setIfInBounds b { o with st := 2, prev := [] })[id]? = some x → (id = b ∧ x = { o with st := 2, prev := [] }) ∨ (id ≠ b ∧ H[id]? = some x) := by
    intro id x hx
    rw [Array.getElem?_setIfInBounds] at hx
    by_cases hid : b = id
    · subst hid
      rw [if_pos rfl] at hx
      split at hx
      · simp only [Option.some.injEq] at hx; exact .inl ⟨rfl, hx.symm⟩
      · cases hx
    · rw [if_neg hid] at hx; exact .inr ⟨Ne.symm hid, hx⟩
  have hsz : (H.setIfInBounds b { o with st := 2, prev := [] }).size = H.size := Array.size_setIfInBounds
  refine ⟨by rw [hsz]; exact h.glob, h.base, fun id x hx hx3 => ?_, fun id x hx hx3 => ?_, fun id x hx hx3 => ?_⟩
  · rw [hsz]
    rcases hget id x hx with ⟨rfl, rfl⟩ | ⟨_, hx⟩
    · exact h.obj id o ho (by omega)
    · exact h.obj id x hx hx3
  · rcases hget id x hx with ⟨rfl, rfl⟩ | ⟨_, hx⟩
    · exact h.own id o ho (.inl hst)
    · exact h.own id x hx hx3
  · rcases hget id x hx with ⟨rfl, rfl⟩ | ⟨_, hx⟩
    · simp at hx3
    · obtain ⟨h1, h2, h3⟩ := h.head id x hx hx3
      refine ⟨h1, h2, fun id2 o2 ho2 hst2 hne hblk => ?_⟩
      rcases hget id2 o2 ho2 with ⟨rfl, rfl⟩ | ⟨_, ho2⟩
      · exact absurd hst (h3 id2 o ho (by omega) hne hblk).2.1
      · exact h3 id2 o2 ho2 hst2 hne hblk

/-- A row that grew where it lies. -/
theorem HRel.grow {ρ : Rho} {H : Array AObj} {w : World} (h : HRel P B ρ H w) (b : Nat) (o : AObj) (ho : H[b]? = some o) (hst : o.st = 1) (off k : Nat) (hend : off + k = o.cells.size)
    (new : Array Value) (news : List Value) (hl : new.size = news.length) (hfit : (ρ b).shift + off + k + news.length ≤ (ρ b).room)
    (hv : ∀ (i : Nat) (h1 : i < new.size) (h2 : i < news.length), scalar new[i] = true ∧ VRel H.size ρ new[i] news[i]) (sym : Bool) (esz : Nat) (_ : o.esz = esz) :
    w.there (ρ b).blk ((ρ b).shift + off + k) news.length ∧
    HRel P B (upd ρ H.size ⟨(ρ b).blk, (ρ b).shift + off, k + news.length, esz, (ρ b).room, false⟩)
      ((H.setIfInBounds b { o with st := 2, prev := [] }).push { cells := o.cells.extract off (off + k) ++ new, esz := esz, st := 1, prev := b :: o.prev, sym := sym })
      (w.setCells (ρ b).blk ((ρ b).shift + off + k) news) := by
  obtain ⟨hsz, hesz, hblk, hcells⟩ := h.obj b o ho (by omega)
  obtain ⟨hthere, hroom, hapart⟩ := h.head b o ho hst
  have hblt : b < H.size := (Array.getElem?_eq_some_iff.1 ho).1
  have ht : w.there (ρ b).blk ((ρ b).shift + off + k) news.length := by
    intro j hj
    have := hthere ((ρ b).shift + off + k + j) (by omega)
    simpa [Nat.add_assoc] using this
  refine ⟨ht, ?_⟩
  have hp := h.past b o ho hst
  generalize hL : (⟨(ρ b).blk, (ρ b).shift + off, k + news.length, esz, (ρ b).room, false⟩ : Loc) = L
  generalize hO : ({ cells := o.cells.extract off (off + k) ++ new, esz := esz, st := 1, prev := b :: o.prev, sym := sym } : AObj) = O
  have hOsize : O.cells.size = k + news.length := by subst hO; simp; omega
  have hsz1 : (H.setIfInBounds b { o with st := 2, prev := [] }).size = H.size := Array.size_setIfInBounds
  generalize hH1 : H.setIfInBounds b { o with st := 2, prev := [] } = H1 at hp hsz1
  have hget1 : ∀ id x, H1[id]? = some x → (id = b ∧ x = { o with st := 2, prev := [] }) ∨ (id ≠ b ∧ H[id]? = some x) := by
    intro id x hx
    rw [← hH1, Array.getElem?_setIfInBounds] at hx
    by_cases hid : b = id
    · subst hid
      rw [if_pos rfl, if_pos hblt] at hx
      simp only [Option.some.injEq] at hx; exact .inl ⟨rfl, hx.symm⟩
    · rw [if_neg hid] at hx; exact .inr ⟨Ne.symm hid, hx⟩
  have hold : ∀ i, i < H.size → upd ρ H.size L i = ρ i := fun i hi => upd_other _ _ (by omega)
  have hget : ∀ id x, (H1.push O)[id]? = some x → (id < H.size ∧ H1[id]? = some x) ∨ (id = H.size ∧ x = O) := by
    intro id x hx
    rw [Array.getElem?_push] at hx
    split at hx
    · rename_i e; simp at hx; exact .inr ⟨by rw [e, hsz1], hx.symm⟩
    · exact .inl ⟨by have := (Array.getElem?_eq_some_iff.1 hx).1; omega, hx⟩
  -- whoever lies in that block ends ahead of where it grows
  have hbefore : ∀ id x, H1[id]? = some x → x.st < 3 → (ρ id).blk = (ρ b).blk → (ρ id).shift + x.cells.size ≤ (ρ b).shift + o.cells.size ∧ (id = b ∨ id ∈ o.prev) ∧ x.st ≠ 1 := by
    intro id x hx hx3 hb
    rcases hget1 id x hx with ⟨rfl, rfl⟩ | ⟨hne, hx⟩
    · exact ⟨Nat.le_refl _, .inl rfl, by simp⟩
    · obtain ⟨a1, a2, a3⟩ := hapart id x hx hx3 hne hb
      exact ⟨a3, .inr a1, a2⟩
  have hwsize : (w.setCells (ρ b).blk ((ρ b).shift + off + k) news).heap.size = w.heap.size := size_setCells _ _ _ _
  have hkeepc : ∀ id x, H1[id]? = some x → x.st < 3 → ∀ j, j < x.cells.size → (w.setCells (ρ b).blk ((ρ b).shift + off + k) news).cell? ⟨(ρ id).blk, (ρ id).shift + j, none⟩ = w.cell? ⟨(ρ id).blk, (ρ id).shift + j, none⟩ := by
    intro id x hx hx3 j hj
    refine World.cell?_setCells_out _ _ _ _ _ (fun hb _ => ?_)
    have := (hbefore id x hx hx3 hb).1
    show (ρ id).shift + j < _ ∨ _
    omega
  refine ⟨⟨by simp [hsz1]; have := h.glob.1; omega, fun g hg => ?_⟩, by rw [hwsize]; exact h.base, fun id x hx hx3 => ?_, fun id x hx hx3 => ?_, fun id x hx hx3 => ?_⟩
  · rw [hold g (by have := h.glob.1; omega)]; exact h.glob.2 g hg
  · rcases hget id x hx with ⟨hlt, hxx⟩ | ⟨rfl, rfl⟩
    · rw [hold id hlt]
      obtain ⟨h1, h2, h3, h4⟩ := hp.obj id x hxx hx3
      refine ⟨h1, h2, by rw [hwsize]; exact h3, fun j hj => ?_⟩
      obtain ⟨c', e1, e2, e3⟩ := h4 j hj
      exact ⟨c', by rw [hkeepc id x hxx hx3 j hj]; exact e1, e2, e3.mono (by simp) (by rw [hsz1]; exact hold)⟩
    · rw [upd_same]
      subst hL
      refine ⟨hOsize.symm, by subst hO; rfl, by rw [hwsize]; exact hblk, fun j hj => ?_⟩
      show ∃ c', World.cell? _ ⟨(ρ b).blk, (ρ b).shift + off + j, none⟩ = some c' ∧ _ ∧ VRel (H1.push x).size _ _ _
      by_cases hjk : j < k
      · obtain ⟨c', e1, e2, e3⟩ := hcells (off + j) (by omega)
        have e4 : x.cells[j] = o.cells[off + j] := by
          subst hO
          rw [Array.getElem_append_left (by simp; omega)]
          simp
        refine ⟨c', ?_, by rw [e4]; exact e2, by rw [e4]; exact e3.mono (by simp [hsz1]) hold⟩
        rw [World.cell?_setCells_out _ _ _ _ _ (fun _ _ => by show (ρ b).shift + off + j < _ ∨ _; omega)]
        rw [← e1]; congr 2; omega
      · have hjn : j - k < news.length := by omega
        have e4 : x.cells[j] = new[j - k]'(by omega) := by
          subst hO
          rw [Array.getElem_append_right (by simp; omega)]
          congr 1
          simp
          omega
        refine ⟨news[j - k], ?_, by rw [e4]; exact (hv _ _ hjn).1, by rw [e4]; exact (hv _ _ hjn).2.mono (by simp [hsz1]) hold⟩
        have := World.cell?_setCells_in (ρ b).blk news ((ρ b).shift + off + k) w (fun i hi => (ht i hi).1) (j - k) hjn
        rw [← this]
        congr 2
        omega
  · rcases hget id x hx with ⟨hlt, hxx⟩ | ⟨rfl, rfl⟩
    · rw [hold id hlt]; exact hp.own id x hxx hx3
    · rw [upd_same]; subst hL; exact h.own b o ho (.inl hst)
  · rcases hget id x hx with ⟨hlt, hxx⟩ | ⟨rfl, rfl⟩
    · rw [hold id hlt]
      obtain ⟨h1, h2, h3⟩ := hp.head id x hxx hx3
      refine ⟨World.there_setCells h1 _ _ _, h2, fun id2 o2 ho2 hst2 hne hblk => ?_⟩
      rcases hget id2 o2 ho2 with ⟨hlt2, ho2⟩ | ⟨rfl, _⟩
      · rw [hold id2 hlt2] at hblk ⊢
        exact h3 id2 o2 ho2 hst2 hne hblk
      · rw [upd_same] at hblk
        subst hL
        exact absurd hx3 (hbefore id x hxx (by omega) hblk.symm).2.2
    · rw [upd_same]
      subst hL
      refine ⟨World.there_setCells hthere _ _ _, by rw [hOsize]; show (ρ b).shift + off + (k + news.length) ≤ (ρ b).room; omega, fun id2 o2 ho2 hst2 hne hblk => ?_⟩
      rcases hget id2 o2 ho2 with ⟨hlt2, ho2⟩ | ⟨rfl, _⟩
      · rw [hold id2 hlt2] at hblk ⊢
        obtain ⟨a1, a2, a3⟩ := hbefore id2 o2 ho2 hst2 hblk
        refine ⟨?_, a3, by rw [hOsize]; show _ ≤ (ρ b).shift + off + (k + news.length); omega⟩
        subst hO
        rcases a2 with rfl | a2
        · exact List.mem_cons_self
        · exact List.mem_cons_of_mem _ a2
      · exact absurd rfl hne

theorem addr_add (ρ : Rho) (b off k : Nat) : (ρ.addr ⟨b, off, none⟩).add k = ⟨(ρ b).blk, (ρ b).shift + off + k, none⟩ := by
  rw [Rho.addr, Addr.add_mid]

/-- Cells of a live row, as they stand. -/
theorem HRel.range {ρ : Rho} {H : Array AObj} {w : World} (h : HRel P B ρ H w) {b : Nat} {o : AObj} (ho : H[b]? = some o) (hst : o.st < 3) (off n : Nat) (hfit : off + n ≤ o.cells.size) :
    ∃ cs' : List Value, cs'.length = n ∧ (∀ j v, cs'[j]? = some v → w.cell? ⟨(ρ b).blk, (ρ b).shift + off + j, none⟩ = some v) ∧
      ∀ (i : Nat) (h1 : i < (o.cells.extract off (off + n)).size) (h2 : i < cs'.length), scalar (o.cells.extract off (off + n))[i] = true ∧ VRel H.size ρ (o.cells.extract off (off + n))[i] cs'[i] := by
  obtain ⟨_, _, _, hc⟩ := h.obj b o ho hst
  have : ∀ m, m ≤ n → ∃ cs' : List Value, cs'.length = m ∧ (∀ j v, cs'[j]? = some v → w.cell? ⟨(ρ b).blk, (ρ b).shift + off + j, none⟩ = some v) ∧
      ∀ (i : Nat) (h1 : off + i < o.cells.size) (h2 : i < cs'.length), scalar o.cells[off + i] = true ∧ VRel H.size ρ o.cells[off + i] cs'[i] := by
    intro m
    induction m with
    | zero => exact fun _ => ⟨[], rfl, fun j v hv => by simp at hv, fun i _ h2 => by simp at h2⟩
    | succ m ih =>
      intro hm
      obtain ⟨cs', e1, e2, e3⟩ := ih (by omega)
      obtain ⟨c, d1, d2, d3⟩ := hc (off + m) (by omega)
      refine ⟨cs' ++ [c], by simp [e1], fun j v hv => ?_, fun i h1 h2 => ?_⟩
      · rw [List.getElem?_append] at hv
        split at hv
        · exact e2 j v hv
        · have : j = m := by
            have := (List.getElem?_eq_some_iff.1 hv).1
            simp at this; omega
          subst this
          simp [e1] at hv
          subst hv
          rw [← d1]; congr 2; omega
      · by_cases hi : i < cs'.length
        · rw [List.getElem_append_left hi]; exact e3 i h1 hi
        · have : i = m := by simp at h2; omega
          subst this
          rw [List.getElem_append_right (by omega)]
          simp [e1, d2, d3]
  obtain ⟨cs', e1, e2, e3⟩ := this n (Nat.le_refl _)
  refine ⟨cs', e1, e2, fun i h1 h2 => ?_⟩
  have := e3 i (by simp at h1; omega) h2
  simpa using this

/-- The same cells in another world. -/
def SameOld (w W : World) : Prop := ∀ a : Addr, a.block < w.heap.size → W.cell? a = w.cell? a

theorem firstCells_str (str : ByteArray) (m : Nat) (W : World) : (Builtin.firstCells 1 m (.string str)).run P W = .ok ((str.data.map fun b => Value.int .u8 b.toNat).extract 0 m) W := by
  simp [Builtin.firstCells]

theorem evTail_spec {ρ : Rho} {s s' : St} {w : World} {esz n : Nat} {y y' : Value} {new : Array Value} {sy : Bool} (h : evTail P esz y s = some (n, new, sy, s')) (hh : s'.Holds)
    (hr : HRel P B ρ s.heap w) (hy : VRel s.heap.size ρ y y') :
    Same s s' ∧ ∃ news : List Value, new.size = n * esz ∧ new.size = news.length ∧ (∀ (i : Nat) (h1 : i < new.size) (h2 : i < news.length), scalar new[i] = true ∧ VRel s.heap.size ρ new[i] news[i]) ∧
      (∀ W, (Builtin.lenOf y').run P W = .ok n W) ∧ (∀ W, SameOld w W → (Builtin.firstCells esz n y').run P W = .ok news.toArray W) ∧
      ∀ m, m ≤ n → ∀ W, SameOld w W → (Builtin.firstCells esz m y').run P W = .ok (news.take (m * esz)).toArray W := by
  unfold evTail at h
  simp only [exQ_eq, strCells_eq] at h
  split at h
  · simp only [Option.some.injEq, Prod.mk.injEq] at h
    obtain ⟨rfl, rfl, rfl, rfl⟩ := h
    have := hy.eq_of_flat rfl
    subst this
    refine ⟨.refl _, [], by simp, by simp, fun i h1 => by simp at h1, fun W => rfl, fun W _ => rfl, fun m hm W _ => by simp [Builtin.firstCells]⟩
  · simp only [Option.some.injEq, Prod.mk.injEq] at h
    obtain ⟨rfl, rfl, rfl, rfl⟩ := h
    cases hy with
    | flat hf => simp [flat] at hf
    | any h _ => cases h
    | noRoom =>
      refine ⟨.refl _, [], by simp, by simp, fun i h1 => by simp at h1, fun W => rfl, fun W _ => ?_, fun m hm W _ => ?_⟩
      · simp [Builtin.firstCells, loadCells, loadCellsFrom]
      · have : m = 0 := by omega
        subst this
        simp [Builtin.firstCells, loadCells, loadCellsFrom]
  · split at h
    case isFalse => cases h
    rename_i str he
    subst he
    simp only [Option.some.injEq, Prod.mk.injEq] at h
    obtain ⟨rfl, rfl, rfl, rfl⟩ := h
    have := hy.eq_of_flat rfl
    subst this
    have hsz : str.data.size = str.size := rfl
    refine ⟨.refl _, (str.data.map fun b => Value.int .u8 b.toNat).toList, by simp, by simp, fun i h1 h2 => ?_, fun W => rfl, fun W _ => ?_, fun m hm W _ => ?_⟩
    · simp only [Array.getElem_map, Array.toList_map, List.getElem_map]
      exact ⟨rfl, .flat rfl⟩
    · have := firstCells_str (P := P) str str.size W
      rw [this]
      congr 2
      apply Array.ext'
      simp
      exact List.take_of_length_le (by simp)
    · have := firstCells_str (P := P) str m W
      rw [this]
      congr 2
      apply Array.ext'
      simp
  · split at h
    case h_2 => cases h
    rename_i b off n0 c _ o ho
    split at h
    case isFalse => cases h
    rename_i he
    split at h
    case h_2 => cases h
    rename_i s1 hn
    simp only [Option.some.injEq, Prod.mk.injEq] at h
    obtain ⟨rfl, rfl, rfl, rfl⟩ := h
    obtain ⟨hsame, hcond⟩ := need_spec hn
    have hfit : off + n0 * esz ≤ o.cells.size := by simpa using hcond hh
    unfold live at ho
    simp only [getQ_eq] at ho
    split at ho
    case h_2 => cases ho
    rename_i o0 hob
    split at ho
    case isFalse => cases ho
    rename_i hst
    simp only [Option.some.injEq] at ho
    subst ho
    obtain ⟨cs', e1, e2, e3⟩ := hr.range hob hst off (n0 * esz) hfit
    cases hy with
    | any h _ => cases h
    | flat hf => simp [flat] at hf
    | slice hb he0 h1 h2 h3 h4 =>
      have hload : ∀ k, k ≤ cs'.length → ∀ W, SameOld w W → (loadCells (ρ.addr ⟨b, off, none⟩) k).run P W = .ok (cs'.take k).toArray W := by
        intro k hk W hW
        have hlen : (cs'.take k).length = k := by simp; omega
        have := run_loadCells_list (P := P) W (ρ.addr ⟨b, off, none⟩) (cs'.take k) (fun j v hv => by
          rw [addr_add, hW _ (by exact (hr.obj b o0 hob hst).2.2.1)]
          refine e2 j v ?_
          rw [List.getElem?_take] at hv
          split at hv
          · exact hv
          · cases hv)
        rw [hlen] at this
        exact this
      refine ⟨hsame, cs', by simp; omega, by simp; omega, e3, fun W => rfl, fun W hW => ?_, fun m hm W hW => ?_⟩
      · have := hload (n0 * esz) (by omega) W hW
        rw [List.take_of_length_le (by omega)] at this
        exact this
      · exact hload (m * esz) (by rw [e1]; exact Nat.mul_le_mul_right _ hm) W hW
    | slice0 hb he0 ho =>
      have hnil : cs' = [] := List.length_eq_zero_iff.1 (by simpa using e1)
      subst hnil
      refine ⟨hsame, [], by simp; omega, by simp; omega, fun i h1 h2 => by simp at h2, fun W => rfl, fun W hW => ?_, fun m hm W hW => ?_⟩
      · simp [Builtin.firstCells, loadCells, loadCellsFrom]
      · have : m = 0 := by omega
        subst this
        simp [Builtin.firstCells, loadCells, loadCellsFrom]
  · cases h
section
variable {argTypes : Array TypeId} {ty sT yT elem : TypeId} {i : TypeInfo} {yd : TypeDesc}
theorem run_app_room (h0 : argTypes[0]? = some sT) (h1 : argTypes[1]? = some yT) (hs : P.underlying sT = some (.slice elem)) (hy : P.underlying yT = some yd)
    (hyd : (∃ x, yd = .slice x) ∨ yd = .string) (hi : P.info? elem = some i) {y : Value} {n : Nat} {news : Array Value} {w w' : World} {a : Addr} {sLen sCap : Nat}
    (hlen : (Builtin.lenOf y).run P w = .ok n w) (hfc : (Builtin.firstCells i.size n y).run P w = .ok news w) (hroom : sLen + n ≤ sCap)
    (hst : (storeCells (a.add (sLen * i.size)) news.toList).run P w = .ok () w') :
    (Builtin.append_ argTypes ty #[.slice (some a) sLen sCap, y]).run P w = .ok (.slice (some a) (sLen + n) sCap) w' := by
  rcases hyd with ⟨x, rfl⟩ | rfl <;>
    simp [Builtin.append_, h0, h1, run_underlying hs, run_underlying hy, sizeOf, typeInfo, hi, hlen, hroom, hfc, hst]
theorem run_app_grow (h0 : argTypes[0]? = some sT) (h1 : argTypes[1]? = some yT) (hs : P.underlying sT = some (.slice elem)) (hy : P.underlying yT = some yd)
    (hyd : (∃ x, yd = .slice x) ∨ yd = .string) (hi : P.info? elem = some i) {z : Value} (hz : i.zero = some z) {y : Value} {n : Nat} {olds news : Array Value} {w : World} {base : Option Addr} {sLen sCap : Nat}
    (hlen : (Builtin.lenOf y).run P w = .ok n w) (hfc : (Builtin.firstCells i.size n y).run P w.drew = .ok news w.drew) (hfo : (Builtin.firstCells i.size sLen (.slice base sLen sCap)).run P w.drew = .ok olds w.drew) (hroom : sCap < sLen + n)
    (h63 : ((sLen + n : Nat) : Int) ≤ 9223372036854775807) (hfit : Builtin.nextslicecap (sLen + n) sCap * i.bytes ≤ 281474976710656) :
    ∃ cap, sLen + n ≤ cap ∧ (Builtin.append_ argTypes ty #[.slice base sLen sCap, y]).run P w = .ok (.slice (some ⟨w.heap.size, 0, none⟩) (sLen + n) cap)
      (w.drew.alloc (.cells (olds ++ news ++ Builtin.zeroCells z.cells (cap - (sLen + n))) elem)) := by
  refine ⟨grownCap w (sLen + n) sCap elem, grownCap_ge _ _ _ _, ?_⟩
  have hn : ¬ (sLen + n ≤ sCap) := by omega
  have h63' : ¬ (9223372036854775807 < ((sLen : Int) + (n : Int))) := by omega
  have h48' : ¬ (281474976710656 < Builtin.nextslicecap (sLen + n) sCap * i.bytes) := by omega
  rcases hyd with ⟨x, rfl⟩ | rfl <;>
    simp [Builtin.append_, h0, h1, run_underlying hs, run_underlying hy, sizeOf, typeInfo, zeroValue, hi, hz, hlen, hn, h63', h48', Question.forced, hfc, hfo, newRow, grownCap]
end

def Gives (P : Program) (B : Nat) (ρ : Rho) (s : St) (w : World) (v : Value) (s' : St) (r : Result Value) : Prop :=
  ∃ v' w' ρ', r = .ok v' w' ∧ VRel s'.heap.size ρ' v v' ∧ HRel P B ρ' s'.heap w' ∧ Step B ρ s w ρ' s' w'

theorem alloc_old (w : World) (c : Array Value) (t : TypeId) (a : Addr) (ha : a.block < w.heap.size) :
    (w.alloc (.cells c t)).cell? a = w.cell? a ∧ (w.alloc (.cells c t)).frozen? a = w.frozen? a := by
  have h : (w.alloc (.cells c t)).heap[a.block]? = w.heap[a.block]? := Below.heap_alloc _ _ _ ha
  simp only [World.cell?, World.frozen?, h, and_self]
theorem alloc_new (w : World) (c : Array Value) (t : TypeId) (j : Nat) :
    (w.alloc (.cells c t)).cell? ⟨w.heap.size, j, none⟩ = c[j]? ∧ (w.alloc (.cells c t)).frozen? ⟨w.heap.size, j, none⟩ = false := by
  have h : (w.alloc (.cells c t)).heap[w.heap.size]? = some (.cells c t) := by
    show (w.heap.push _)[w.heap.size]? = _
    simp
  simp only [World.cell?, World.frozen?, h]
  simp

/-- A NEW BLOCK, behind any draws. -/
theorem new_block {ρ : Rho} {s : St} {w w1 : World} (hr : HRel P B ρ s.heap w) (h1 : w1 = w ∨ w1 = w.drew) (cells : Array Value) (esz : Nat) (st : Nat) (hst : st = 1) (pv : List Nat) (sym : Bool)
    (cs : Array Value) (rest : Array Value) (t : TypeId) (hs : cells.size = cs.size)
    (hv : ∀ (i : Nat) (h1 : i < cells.size) (h2 : i < cs.size), scalar cells[i] = true ∧ VRel s.heap.size ρ cells[i] cs[i]) :
    HRel P B (upd ρ s.heap.size ⟨w.heap.size, 0, cells.size, esz, cs.size + rest.size, false⟩) (s.heap.push { cells, esz, st, prev := pv, sym }) (w1.alloc (.cells (cs ++ rest) t)) ∧
    Below B w (w1.alloc (.cells (cs ++ rest) t)) ∧ (∀ a : Addr, a.block < w.heap.size → (w1.alloc (.cells (cs ++ rest) t)).cell? a = w.cell? a) := by
  have e1 : w1.heap = w.heap := by rcases h1 with rfl | rfl <;> rfl
  have hsz : w1.heap.size = w.heap.size := by rw [e1]
  have hb : Below B w w1 := by
    rcases h1 with rfl | rfl
    · exact Below.refl _ _
    · exact (Below.refl _ _).drew
  refine ⟨hr.push { cells, esz, st, prev := pv, sym } hst (cs.size + rest.size) (by simp; omega) (by simp [hsz]) (fun a ha => ?_) (fun j hj => ?_) (fun j hj => ?_), hb.alloc (by rw [hsz]; exact hr.base) _, fun a ha => ?_⟩
  · have := alloc_old w1 (cs ++ rest) t a (by omega)
    rw [this.1, this.2]
    simp only [World.cell?, World.frozen?, e1, and_self]
  · have := alloc_new w1 (cs ++ rest) t j
    rw [hsz] at this
    rw [Nat.zero_add, this.1, this.2]
    exact ⟨by simp; omega, rfl⟩
  · have := alloc_new w1 (cs ++ rest) t j
    rw [hsz] at this
    simp only at hj
    refine ⟨cs[j]'(by omega), ?_, (hv j hj (by omega)).1, (hv j hj (by omega)).2⟩
    rw [this.1]
    simp [show j < cs.size by omega, Array.getElem?_append]
  · rw [(alloc_old w1 (cs ++ rest) t a (by omega)).1]
    simp only [World.cell?, e1]

/-- The step that lays one object more. -/
theorem step_push {ρ : Rho} {s s1 : St} {w w' : World} (hsame : Same s s1) (l : Loc) (o : AObj) (hr : HRel P B ρ s.heap w) (hb : Below B w w' ∧ ∀ a : Addr, a.block < w.heap.size → w'.cell? a = w.cell? a) :
    Step B ρ s w (upd ρ s.heap.size l) { s1 with heap := s1.heap.push o } w' := by
  refine ⟨fun id hid => upd_other _ _ ?_, by simp [hsame.heap], by show s1.low ≤ _; rw [hsame.low]; exact Nat.le_refl _, fun id h1 _ o' ho' => ⟨o', ?_, fun h => h, .inl rfl⟩, hb.1, hsame.cons, fun id x x' hx hx' => ?_⟩
  · simp only [Array.size_push, hsame.heap] at hid; omega
  · simp only [hsame.heap] at ho'
    rw [Array.getElem?_push, if_neg (by omega)] at ho'
    exact ho'
  · have hlt := (Array.getElem?_eq_some_iff.1 hx).1
    simp only [hsame.heap] at hx'
    rw [Array.getElem?_push, if_neg (by omega), hx] at hx'
    cases hx'
    refine ⟨Nat.le_refl _, fun hst => ⟨hst, fun _ j _ => hb.2 _ (hr.obj id x hx hst).2.2.1⟩⟩

/-- A slice of a new block. -/
theorem gives_slice {ρ : Rho} {s s1 : St} {w w1 : World} (hr : HRel P B ρ s.heap w) (hsame : Same s s1) (h1 : w1 = w ∨ w1 = w.drew) (cells : Array Value) (esz n cap : Nat) (he : 0 < esz) (sym : Bool)
    (cs rest : Array Value) (t : TypeId) (hn : cells.size = n * esz) (hs : cells.size = cs.size) (hc : n ≤ cap) (hroom : cs.size + rest.size = cap * esz)
    (hv : ∀ (i : Nat) (h1 : i < cells.size) (h2 : i < cs.size), scalar cells[i] = true ∧ VRel s.heap.size ρ cells[i] cs[i]) :
    Gives P B ρ s w (.slice (some ⟨s1.heap.size, 0, none⟩) n 0) (s1.new cells esz sym) (.ok (.slice (some ⟨w.heap.size, 0, none⟩) n cap) (w1.alloc (.cells (cs ++ rest) t))) := by
  obtain ⟨hR, hB⟩ := new_block hr h1 cells esz 1 rfl [] sym cs rest t hs hv
  have hr1 := upd_same ρ s.heap.size ⟨w.heap.size, 0, cells.size, esz, cs.size + rest.size, false⟩
  refine ⟨_, _, upd ρ s.heap.size ⟨w.heap.size, 0, cells.size, esz, cs.size + rest.size, false⟩, rfl, ?_, ?_, ?_⟩
  · have := @VRel.slice (s1.new cells esz sym).heap.size (upd ρ s.heap.size ⟨w.heap.size, 0, cells.size, esz, cs.size + rest.size, false⟩) s.heap.size 0 n 0 cap ⟨by simp [pushQ_eq, St.new, hsame.heap], by rw [hr1]⟩ (by rw [hr1]; exact he) (by rw [hr1]; simp [hn]) (by rw [hr1]; simp only [Nat.zero_add, hn]; exact Nat.mul_le_mul_right _ (by omega)) (by rw [hr1]; simp only; omega) hc
    rw [hsame.heap]
    rw [Rho.addr] at this
    simp only [hr1] at this
    simpa using this
  · simpa [pushQ_eq, St.new, hsame.heap] using hR
  · have := step_push (B := B) (ρ := ρ) (w := w) hsame ⟨w.heap.size, 0, cells.size, esz, cs.size + rest.size, false⟩ { cells := cells, esz := esz, st := 1, prev := [], sym := sym } hr hB
    simpa [pushQ_eq, St.new] using this

/-- The step by which a row grows. -/
theorem step_grow {ρ : Rho} {s s1 : St} {w w' : World} (hsame : Same s s1) (l : Loc) (b : Nat) (o0 O : AObj) (hob : s.heap[b]? = some o0) (hst : o0.st = 1) (hb : Below B w w') (hold : ∀ id x, s.heap[id]? = some x → x.st < 3 → ∀ j, j < (ρ id).size → w'.cell? ⟨(ρ id).blk, (ρ id).shift + j, none⟩ = w.cell? ⟨(ρ id).blk, (ρ id).shift + j, none⟩) :
    Step B ρ s w (upd ρ s.heap.size l) { s1 with heap := (s.heap.setIfInBounds b { o0 with st := 2, prev := [] }).push O } w' := by
  have hbid : b < s.heap.size := (Array.getElem?_eq_some_iff.1 hob).1
  refine ⟨fun id hid => upd_other _ _ ?_, by simp, by show s1.low ≤ _; rw [hsame.low]; exact Nat.le_refl _, fun id h1 _ o' ho' => ?_, hb, hsame.cons, fun id x x' hx hx' => ?_⟩
  · simp only [Array.size_push, Array.size_setIfInBounds] at hid; omega
  · simp only at ho'
    rw [Array.getElem?_push, if_neg (by simp; omega), Array.getElem?_setIfInBounds] at ho'
    split at ho'
    · rename_i e1
      subst e1
      simp only [Option.some.injEq] at ho'
      subst ho'
      exact ⟨o0, hob, fun _ => by omega, .inl rfl⟩
    · exact ⟨o', ho', fun h => h, .inl rfl⟩
  · have hlt := (Array.getElem?_eq_some_iff.1 hx).1
    simp only at hx'
    rw [Array.getElem?_push, if_neg (by simp; omega), Array.getElem?_setIfInBounds] at hx'
    split at hx'
    · rename_i e1
      subst e1
      rw [hob] at hx; cases hx
      simp only [Option.some.injEq] at hx'
      subst hx'
      exact ⟨Nat.le_refl _, fun _ => ⟨by omega, fun _ => hold b o0 hob (by omega)⟩⟩
    · rw [hx] at hx'; cases hx'
      exact ⟨Nat.le_refl _, fun hst => ⟨hst, fun _ => hold id x hx hst⟩⟩

theorem append_bytes {n bytes : Nat} (h : n ≤ 1073741824) (hb : bytes ≤ 65536) : n * bytes ≤ 140737488355328 := by
  have : n * bytes ≤ 1073741824 * 65536 := Nat.mul_le_mul h hb
  omega

theorem storeCellsAt_cons {s s' : St} {b off : Nat} {cs : List Value} (h : storeCellsAt s b off cs = some s') : ∃ l, s'.cons = l ++ s.cons := by
  unfold storeCellsAt at h
  try simp only [lenQ_eq, pushQ_eq, setQ_eq] at h
  split at h
  case h_2 => cases h
  split at h
  case isFalse => cases h
  split at h
  case h_2 => cases h
  rename_i s1 hn
  simp only [Option.some.injEq] at h
  subst h
  exact (need_spec hn).1.cons

set_option maxHeartbeats 1000000 in
theorem evAppend_spec {ρ : Rho} {s s' : St} {w : World} {argTypes : Array TypeId} {ty : TypeId} {x y x' y' v : Value} (h : evAppend P argTypes x y s = some (v, s')) (hh : s'.Holds)
    (hr : HRel P B ρ s.heap w) (hx : VRel s.heap.size ρ x x') (hy : VRel s.heap.size ρ y y') :
    Gives P B ρ s w v s' ((Builtin.append_ argTypes ty #[x', y']).run P w) := by
  unfold evAppend at h
  try simp only [lenQ_eq, pushQ_eq, setQ_eq] at h
  simp only [exQ_eq, apQ_eq] at h
  split at h
  case h_2 => cases h
  rename_i sT yT h0 h1
  split at h
  case h_2 => cases h
  rename_i elem yd hs hyu
  split at h
  case h_2 => cases h
  rename_i e hydm he
  split at h
  case h_1 => cases h
  rename_i z hz
  split at h
  case isFalse => cases h
  rename_i hg
  obtain ⟨hesz, hzs, hbytes⟩ := hg
  split at h
  case h_2 => cases h
  rename_i n new sy s1 htail
  have hyd : (∃ x, yd = .slice x) ∨ yd = .string := by
    cases yd <;> simp at hydm ⊢
  -- what comes of the tail in any case
  have tail := fun (hh1 : s1.Holds) => evTail_spec htail hh1 hr hy
  split at h
  · -- onto nil
    have := hx.eq_of_flat rfl
    subst this
    split at h
    · rename_i s2 ht
      simp only [Option.some.injEq, Prod.mk.injEq] at h
      obtain ⟨rfl, rfl⟩ := h
      obtain ⟨hs2, hb2⟩ := test_spec ht
      obtain ⟨hs1, news, a1, a2, a3, a4, a5, a6⟩ := tail (hs2.holds hh)
      have hn : n = 0 := by simpa using hb2 hh
      subst hn
      have hnew : news = [] := by
        have : news.length = 0 := by simp at a1; simp [a1] at a2; omega
        exact List.length_eq_zero_iff.1 this
      subst hnew
      have hsame := hs1.trans hs2
      refine ⟨.slice none 0 0, w, ρ, ?_, .flat rfl, by rw [hsame.heap]; exact hr, hsame.step _ _⟩
      have hf := a5 w (fun _ _ => rfl)
      have hl := a4 w
      rcases hyd with ⟨x, rfl⟩ | rfl <;>
        simp [Builtin.append_, h0, h1, run_underlying hs, run_underlying hyu, sizeOf, typeInfo, he, hl, hf]
    · rename_i s2 ht
      split at h
      case h_2 => cases h
      rename_i s3 hn
      simp only [Option.some.injEq, Prod.mk.injEq] at h
      obtain ⟨rfl, rfl⟩ := h
      obtain ⟨hs2, hb2⟩ := test_spec ht
      obtain ⟨hs3, hb3⟩ := need_spec hn
      have hh3 : s3.Holds := hh
      obtain ⟨hs1, news, a1, a2, a3, a4, a5, a6⟩ := tail (hs2.holds (hs3.holds hh3))
      have hn0 : n ≠ 0 := by simpa using hb2 (hs3.holds hh3)
      have hn1 : n ≤ 1073741824 := by simpa using hb3 hh3
      have hsame := (hs1.trans hs2).trans hs3
      obtain ⟨cap, hcap, hrun⟩ := run_app_grow (ty := ty) (w := w) (base := none) (sLen := 0) (sCap := 0) (olds := #[]) h0 h1 hs hyu hyd he hz (a4 w) (a5 w.drew (fun _ _ => rfl)) (by simp [Builtin.firstCells]) (by omega) (by omega) (by
        simpa using growslice_fits (old := 0) (show 0 < 0 + n by omega) (append_bytes (by omega) hbytes))
      have hz' : (Builtin.zeroCells z.cells (cap - (0 + n))).size = (cap - n) * e.size := by simp [size_zeroCells, hzs]
      have hcn : n * e.size + (cap - n) * e.size = cap * e.size := by rw [← Nat.add_mul]; congr 1; omega
      rw [hrun]
      have := gives_slice (B := B) hr hsame (.inr rfl) new e.size n cap hesz sy news.toArray (Builtin.zeroCells z.cells (cap - (0 + n))) elem a1 (by simpa using a2) (by omega) (by rw [hz']; simp; omega) (fun i h1 h2 => a3 i h1 (by simpa using h2))
      simpa using this
    · cases h
  · -- onto what has no room
    cases hx with
    | flat hf => simp [flat] at hf
    | any h _ => cases h
    | noRoom =>
    rename_i x0
    split at h
    · rename_i s2 ht
      simp only [Option.some.injEq, Prod.mk.injEq] at h
      obtain ⟨rfl, rfl⟩ := h
      obtain ⟨hs2, hb2⟩ := test_spec ht
      obtain ⟨hs1, news, a1, a2, a3, a4, a5, a6⟩ := tail (hs2.holds hh)
      have hn : n = 0 := by simpa using hb2 hh
      subst hn
      have hnew : news = [] := by
        have : news.length = 0 := by simp at a1; simp [a1] at a2; omega
        exact List.length_eq_zero_iff.1 this
      subst hnew
      have hsame := hs1.trans hs2
      have hrun := run_app_room (P := P) (ty := ty) (w := w) (w' := w) (a := x0) (sLen := 0) (sCap := 0) h0 h1 hs hyu hyd he (a4 w) (a5 w (fun _ _ => rfl)) (by omega) (by simp [storeCells])
      exact ⟨_, w, ρ, hrun, .noRoom, by rw [hsame.heap]; exact hr, hsame.step _ _⟩
    · rename_i s2 ht
      split at h
      case h_2 => cases h
      rename_i s3 hn
      simp only [Option.some.injEq, Prod.mk.injEq] at h
      obtain ⟨rfl, rfl⟩ := h
      obtain ⟨hs2, hb2⟩ := test_spec ht
      obtain ⟨hs3, hb3⟩ := need_spec hn
      have hh3 : s3.Holds := hh
      obtain ⟨hs1, news, a1, a2, a3, a4, a5, a6⟩ := tail (hs2.holds (hs3.holds hh3))
      have hn0 : n ≠ 0 := by simpa using hb2 (hs3.holds hh3)
      have hn1 : n ≤ 1073741824 := by simpa using hb3 hh3
      have hsame := (hs1.trans hs2).trans hs3
      obtain ⟨cap, hcap, hrun⟩ := run_app_grow (ty := ty) (w := w) (base := some x0) (sLen := 0) (sCap := 0) (olds := #[]) h0 h1 hs hyu hyd he hz (a4 w) (a5 w.drew (fun _ _ => rfl)) (by simp [Builtin.firstCells, loadCells, loadCellsFrom]) (by omega) (by omega) (by
        simpa using growslice_fits (old := 0) (show 0 < 0 + n by omega) (append_bytes (by omega) hbytes))
      have hz' : (Builtin.zeroCells z.cells (cap - (0 + n))).size = (cap - n) * e.size := by simp [size_zeroCells, hzs]
      have hcn : n * e.size + (cap - n) * e.size = cap * e.size := by rw [← Nat.add_mul]; congr 1; omega
      rw [hrun]
      have := gives_slice (B := B) hr hsame (.inr rfl) new e.size n cap hesz sy news.toArray (Builtin.zeroCells z.cells (cap - (0 + n))) elem a1 (by simpa using a2) (by omega) (by rw [hz']; simp; omega) (fun i h1 h2 => a3 i h1 (by simpa using h2))
      simpa using this
    · cases h
  · -- onto a row
    rename_i b off len c
    split at h
    case h_2 => cases h
    rename_i o ho
    unfold own at ho
    simp only [getQ_eq] at ho
    split at ho
    case h_2 => cases ho
    rename_i o0 hob1
    split at ho
    case isFalse => cases ho
    rename_i hst
    simp only [Option.some.injEq] at ho
    subst ho
    split at h
    case isFalse => cases h
    rename_i hoe
    split at h
    · -- nothing is appended
      rename_i s2 ht
      simp only [Option.some.injEq, Prod.mk.injEq] at h
      obtain ⟨rfl, rfl⟩ := h
      obtain ⟨hs2, hb2⟩ := test_spec ht
      obtain ⟨hs1, news, a1, a2, a3, a4, a5, a6⟩ := tail (hs2.holds hh)
      have hn : n = 0 := by simpa using hb2 hh
      subst hn
      have hnew : news = [] := by
        have : news.length = 0 := by simp at a1; simp [a1] at a2; omega
        exact List.length_eq_zero_iff.1 this
      subst hnew
      have hsame := hs1.trans hs2
      cases hx with
      | any h _ => cases h
      | flat hf => simp [flat] at hf
      | slice hb he0 h1' h2 h3 h4 =>
        rename_i c'
        have hrun := run_app_room (P := P) (ty := ty) (w := w) (w' := w) (a := ρ.addr ⟨b, off, none⟩) (sLen := len) (sCap := c') h0 h1 hs hyu hyd he (a4 w) (a5 w (fun _ _ => rfl)) (by omega) (by simp [storeCells])
        exact ⟨_, w, ρ, hrun, by rw [hsame.heap]; exact .slice hb he0 h1' h2 h3 h4, by rw [hsame.heap]; exact hr, hsame.step _ _⟩
      | slice0 hb he0 hoff =>
        rename_i x0
        have hrun := run_app_room (P := P) (ty := ty) (w := w) (w' := w) (a := x0) (sLen := 0) (sCap := 0) h0 h1 hs hyu hyd he (a4 w) (a5 w (fun _ _ => rfl)) (by omega) (by simp [storeCells])
        exact ⟨_, w, ρ, hrun, by rw [hsame.heap]; exact .slice0 hb he0 hoff, by rw [hsame.heap]; exact hr, hsame.step _ _⟩
    · rename_i s2 ht
      obtain ⟨hs2, hb2⟩ := test_spec ht
      split at h
      · -- at its end
        rename_i s3 ht3
        split at h
        case h_2 => cases h
        rename_i s4 hn4
        simp only [Option.some.injEq, Prod.mk.injEq] at h
        obtain ⟨rfl, rfl⟩ := h
        obtain ⟨hs3, hb3⟩ := test_spec ht3
        obtain ⟨hs4, hb4⟩ := need_spec hn4
        have hh4 : s4.Holds := hh
        obtain ⟨hs1, news, a1, a2, a3, a4, a5, a6⟩ := tail (hs2.holds (hs3.holds (hs4.holds hh4)))
        have hend : off + len * e.size = o0.cells.size := by simpa using hb3 (hs4.holds hh4)
        have hn1 : len + n ≤ 1073741824 := by simpa using hb4 hh4
        have hsame := ((hs1.trans hs2).trans hs3).trans hs4
        have hob : s.heap[b]? = some o0 := by rw [← hs1.heap]; exact hob1
        obtain ⟨hsz, hoesz, hblk, hcells⟩ := hr.obj b o0 hob (by omega)
        have hbid : b < s.heap.size := (Array.getElem?_eq_some_iff.1 hob).1
        have elsewhere : ∀ (pa : Addr) (c' : Nat), ¬ len + n ≤ c' → (∀ W, SameOld w W → ∀ olds : List Value, olds.length = len * e.size → (∀ j v, olds[j]? = some v → w.cell? ⟨(ρ b).blk, (ρ b).shift + off + j, none⟩ = some v) → (Builtin.firstCells e.size len (.slice (some pa) len c')).run P W = .ok olds.toArray W) →
            Gives P B ρ s w (.slice (some ⟨s4.heap.size, 0, none⟩) (len + n) 0) { s4 with heap := (s4.heap.setIfInBounds b { o0 with st := 2, prev := [] }).push { cells := o0.cells.extract off (off + len * e.size) ++ new, esz := e.size, st := 1, prev := b :: o0.prev, sym := o0.sym || sy } }
              ((Builtin.append_ argTypes ty #[.slice (some pa) len c', y']).run P w) := by
            intro pa c' hroom hpa
            obtain ⟨olds, d1, d2, d3⟩ := hr.range hob (by omega) off (len * e.size) (by omega)
            have hfo : (Builtin.firstCells e.size len (.slice (some pa) len c')).run P w.drew = .ok olds.toArray w.drew :=
              hpa w.drew (fun _ _ => rfl) olds d1 d2
            obtain ⟨cap, hcap, hrun⟩ := run_app_grow (ty := ty) (w := w) (base := some pa) (sLen := len) (sCap := c') (olds := olds.toArray) h0 h1 hs hyu hyd he hz (a4 w) (a5 w.drew (fun _ _ => rfl)) hfo (by omega) (by omega) (growslice_fits (by omega) (append_bytes (by omega) hbytes))
            have hp := hr.past b o0 hob hst
            have hz' : (Builtin.zeroCells z.cells (cap - (len + n))).size = (cap - (len + n)) * e.size := by simp [size_zeroCells, hzs]
            have hcn : len * e.size + n * e.size + (cap - (len + n)) * e.size = cap * e.size := by rw [← Nat.add_mul, ← Nat.add_mul]; congr 1; omega
            have hext : (o0.cells.extract off (off + len * e.size)).size = len * e.size := by simp; omega
            obtain ⟨hR, hB⟩ := new_block (s := { s with heap := s.heap.setIfInBounds b { o0 with st := 2, prev := [] } }) hp (.inr rfl) (o0.cells.extract off (off + len * e.size) ++ new) e.size 1 rfl (b :: o0.prev) (o0.sym || sy) (olds.toArray ++ news.toArray) (Builtin.zeroCells z.cells (cap - (len + n))) elem (by simp only [Array.size_append, hext, List.size_toArray]; omega) (fun i i1 i2 => by
              simp only [Array.size_setIfInBounds]
              by_cases hi : i < len * e.size
              · have := d3 i (by rw [hext]; exact hi) (by omega)
                rw [Array.getElem_append_left (by rw [hext]; exact hi), Array.getElem_append_left (by simp; omega)]
                simpa using this
              · have hi2 : i - len * e.size < new.size := by simp only [Array.size_append, hext] at i1; omega
                have := a3 (i - len * e.size) hi2 (by omega)
                rw [Array.getElem_append_right (by rw [hext]; omega), Array.getElem_append_right (by simp; omega)]
                simp only [hext, List.size_toArray, d1, List.getElem_toArray]
                exact this)
            generalize hL : (⟨w.heap.size, 0, (o0.cells.extract off (off + len * e.size) ++ new).size, e.size, (olds.toArray ++ news.toArray).size + (Builtin.zeroCells z.cells (cap - (len + n))).size, false⟩ : Loc) = L at hR
            have hr1 := upd_same ρ s.heap.size L
            refine ⟨_, _, upd ρ s.heap.size L, hrun, ?_, by rw [hsame.heap]; simpa using hR, ?_⟩
            · have hle : (len + n) * e.size ≤ cap * e.size := Nat.mul_le_mul_right _ hcap
              rw [Nat.add_mul] at hle
              have := @VRel.slice (s.heap.size + 1) (upd ρ s.heap.size L) s.heap.size 0 (len + n) 0 cap ⟨by omega, by rw [hr1, ← hL]⟩ (by rw [hr1, ← hL]; exact hesz) (by rw [hr1, ← hL]; simp only [Array.size_append, hext]; rw [Nat.add_mul]; omega) (by rw [hr1, ← hL]; simp only [Array.size_append, hext]; omega) (by rw [hr1, ← hL]; simp only [Array.size_append, hz', List.size_toArray]; omega) hcap
              have hL0 : (upd ρ s.heap.size L).addr ⟨s.heap.size, 0, none⟩ = ⟨w.heap.size, 0, none⟩ := by rw [Rho.addr]; simp only [hr1]; rw [← hL]
              rw [hL0] at this
              simp only [Array.size_push, Array.size_setIfInBounds, hsame.heap]
              exact this
            · rw [hsame.heap]
              exact step_grow hsame _ b o0 _ hob hst hB.1 fun id x hx hst j _ => hB.2 _ (hr.obj id x hx hst).2.2.1
        cases hx with
        | any h _ => cases h
        | flat hf => simp [flat] at hf
        | slice hb he0 h1' h2 h3 h4 =>
          rename_i c'
          have hes : (ρ b).esz = e.size := by rw [hoesz, hoe]
          by_cases hroom : len + n ≤ c'
          · -- where it lies
            have hle : (len + n) * e.size ≤ c' * e.size := Nat.mul_le_mul_right _ hroom
            rw [Nat.add_mul] at hle
            rw [hes] at h1' h2 h3
            obtain ⟨hthere, hR⟩ := hr.grow b o0 hob hst off (len * e.size) hend new news a2 (by omega) a3 (o0.sym || sy) e.size hoe
            have hone : ∀ v ∈ news, v.oneCell' = true := by
              intro v hv'
              obtain ⟨i, hi, rfl⟩ := List.getElem_of_mem hv'
              exact (a3 i (by omega) hi).2.one (a3 i (by omega) hi).1
            have hst' := run_storeCells_cells (P := P) (ρ b).blk ((ρ b).shift + off + len * e.size) news 0 w (fun j hj => (hthere j hj).1) (fun j hj => (hthere j hj).2) hone
            have hrun := run_app_room (P := P) (ty := ty) (w := w) (w' := w.setCells (ρ b).blk ((ρ b).shift + off + len * e.size) news) (a := ρ.addr ⟨b, off, none⟩) (sLen := len) (sCap := c') h0 h1 hs hyu hyd he (a4 w) (a5 w (fun _ _ => rfl)) hroom (by
              rw [addr_add]; simpa using hst')
            have hr1 := upd_same ρ s.heap.size ⟨(ρ b).blk, (ρ b).shift + off, len * e.size + news.length, e.size, (ρ b).room, false⟩
            refine ⟨_, _, upd ρ s.heap.size ⟨(ρ b).blk, (ρ b).shift + off, len * e.size + news.length, e.size, (ρ b).room, false⟩, hrun, ?_, by rw [hsame.heap]; exact hR, ?_⟩
            · have := @VRel.slice (s.heap.size + 1) (upd ρ s.heap.size ⟨(ρ b).blk, (ρ b).shift + off, len * e.size + news.length, e.size, (ρ b).room, false⟩) s.heap.size 0 (len + n) 0 c' ⟨by omega, by rw [hr1]⟩ (by rw [hr1]; exact hesz) (by rw [hr1]; simp only; rw [Nat.add_mul]; omega) (by rw [hr1]; simp only; omega) (by rw [hr1]; simp only; omega) (by omega)
              simp only [Array.size_push, Array.size_setIfInBounds, hsame.heap]
              rw [Rho.addr] at this
              simp only [hr1, Nat.add_zero] at this
              simpa [Rho.addr] using this
            · rw [hsame.heap]
              refine step_grow hsame _ b o0 _ hob hst (below_setCells _ (hr.own b o0 hob (.inl hst)) _ _ (Below.refl _ _)) fun id x hx hst2 j hj => ?_
              rw [World.cell?_setCells_out _ _ _ _ _ (fun hblk2 _ => ?_)]
              left
              simp only at hblk2 ⊢
              by_cases hid : id = b
              · subst hid; omega
              · have := ((hr.head b o0 hob hst).2.2 id x hx hst2 hid hblk2).2.2
                have := (hr.obj id x hx hst2).1
                omega
          · -- elsewhere
            exact elsewhere _ _ hroom fun W hW olds l1 l2 => run_firstCells_some (P := P) W e.size len (ρ.addr ⟨b, off, none⟩) len c' olds l1 (fun j v hv => by rw [addr_add, hW _ (by exact hblk)]; exact l2 j v hv)
        | slice0 hb he0 hoff =>
          refine elsewhere _ 0 ?_ fun W hW olds l1 l2 => ?_
          · have hn0 : n ≠ 0 := by simpa using hb2 (hs3.holds (hs4.holds hh4))
            omega
          · have hnil : olds = [] := List.length_eq_zero_iff.1 (by simpa using l1)
            subst hnil
            simp [Builtin.firstCells, loadCells, loadCellsFrom]
      · -- over what stands there
        rename_i s3 ht3
        split at h
        case h_2 => cases h
        rename_i s4 hn4
        split at h
        case h_2 => cases h
        rename_i s5 hst5
        simp only [Option.some.injEq, Prod.mk.injEq] at h
        obtain ⟨rfl, rfl⟩ := h
        obtain ⟨hs3, hb3⟩ := test_spec ht3
        obtain ⟨hs4, hb4⟩ := need_spec hn4
        have hs14 := (hs2.trans hs3).trans hs4
        have hh4 : s4.Holds := by
          obtain ⟨l, e⟩ := storeCellsAt_cons hst5
          exact fun p hp => hh p (by rw [e]; exact List.mem_append_right _ hp)
        obtain ⟨hs1, news, a1, a2, a3, a4, a5, a6⟩ := tail (hs14.holds hh4)
        have hsame := hs1.trans hs14
        have hfit : off + (len + n) * e.size ≤ o0.cells.size := by simpa using hb4 hh4
        have hob : s.heap[b]? = some o0 := by rw [← hs1.heap]; exact hob1
        obtain ⟨hsz, hoesz, hblk, hcells⟩ := hr.obj b o0 hob (by omega)
        have hr4 : HRel P B ρ s4.heap w := by rw [hsame.heap]; exact hr
        obtain ⟨t1, t2, t3, t4, t5⟩ := storeCellsAt_spec (cs' := news) hst5 hh hr4 (by simpa using a2) (fun i i1 i2 => by
          rw [hsame.heap]
          have := (a3 i (by simpa using i1) i2).2
          simpa using this)
        cases hx with
        | any h _ => cases h
        | flat hf => simp [flat] at hf
        | slice hb he0 h1' h2 h3 h4 =>
          rename_i c'
          have hes : (ρ b).esz = e.size := by rw [hoesz, hoe]
          have hroom : len + n ≤ c' := by
            rw [hes] at h2
            have : (len + n) * e.size ≤ c' * e.size := by omega
            exact Nat.le_of_mul_le_mul_right this hesz
          have hst' := run_storeCells_cells (P := P) (ρ b).blk ((ρ b).shift + off + len * e.size) news 0 w (fun j hj => by have := t1 j hj; simpa [Nat.add_assoc] using this.1) (fun j hj => by have := t1 j hj; simpa [Nat.add_assoc] using this.2) t2
          have hrun := run_app_room (P := P) (ty := ty) (w := w) (w' := w.setCells (ρ b).blk ((ρ b).shift + off + len * e.size) news) (a := ρ.addr ⟨b, off, none⟩) (sLen := len) (sCap := c') h0 h1 hs hyu hyd he (a4 w) (a5 w (fun _ _ => rfl)) hroom (by
              rw [addr_add]; simpa using hst')
          have hadd : (ρ b).shift + (off + len * e.size) = (ρ b).shift + off + len * e.size := by omega
          rw [hadd] at t3 t4
          refine ⟨_, _, ρ, hrun, ?_, t3, (hsame.step ρ w).trans t4⟩
          rw [t5, hsame.heap]
          exact .slice hb he0 (by rw [hes, hsz]; exact hfit) h2 h3 hroom
        | slice0 hb he0 hoff =>
          have hn0 : n ≠ 0 := by simpa using hb2 (hs3.holds (hs4.holds hh4))
          have : 0 < n * e.size := Nat.mul_pos (by omega) hesz
          rw [hsz] at hoff
          simp only [Nat.zero_add] at hfit
          omega
      · cases h
    · cases h
  · cases h
end Go.Ev
