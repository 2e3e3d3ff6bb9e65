/- PINS: the rows that were handed in are the first objects of every small heap, and are made anew from the first world; so a row can be brought in, or left out, between two pieces. -/
import Derived.Test.YtddlejbcnjmfmaaEvZ2
namespace Go.Ev
open Go.RowKit
variable {P : Program}
/-- What is known of a cell of such a row. -/
def PCell (g : Nat) (ls : List Loc) (v c' : Value) : Prop :=
  (Ev.flat v = true ∧ c' = v) ∨ (isGone v = true ∧ Ev.scalar c' = true) ∨
  (∃ (k len cap : Nat) (l : Loc), v = .slice (some ⟨g + k, 0, none⟩) len 0 ∧ ls[k]? = some l ∧ c' = .slice (some ⟨l.blk, l.shift, none⟩) len cap ∧ l.bad = false ∧ 0 < l.esz ∧ len * l.esz ≤ l.size ∧ l.size ≤ cap * l.esz ∧ l.shift + cap * l.esz ≤ l.room ∧ len ≤ cap) ∨
  ∃ (k : Nat) (l : Loc) (x : Addr), v = .slice (some ⟨g + k, 0, none⟩) 0 0 ∧ ls[k]? = some l ∧ c' = .slice (some x) 0 0 ∧ l.bad = false ∧ 0 < l.esz ∧ l.size = 0
/-- One row, as it lies in the first world. -/
structure PRow (g : Nat) (W0 : World) (ls : List Loc) (o : AObj) (l : Loc) : Prop where
  st : o.st = 0
  size : l.size = o.cells.size
  esz : l.esz = o.esz
  bad : l.bad = false
  blk : l.blk < W0.heap.size
  cell : ∀ (j : Nat) (hj : j < o.cells.size), ∃ c', W0.cell? ⟨l.blk, l.shift + j, none⟩ = some c' ∧ scalar o.cells[j] = true ∧ PCell g ls o.cells[j] c'
def PinsOk (g : Nat) (W0 : World) (ps : List (AObj × Loc)) : Prop := ∀ p ∈ ps, PRow g W0 (ps.map (·.2)) p.1 p.2
/-- The small heap (the pins first) and the temporaries stand for what is there. -/
structure AtQ (P : Program) (W0 : World) (ps : List (AObj × Loc)) (H : Array AObj) (t : Tr) (a : Act) (w : World) : Prop where
  rel : ∃ ρ, HRel P W0.heap.size ρ H w ∧ TRel H.size ρ t a.tmps ∧ ∀ i l, (ps.map (·.2))[i]? = some l → ρ (P.globals.size + i) = l
  below : Below W0.heap.size W0 w
  defers : a.defers = []
theorem AtQ.at' {W0 : World} {ps : List (AObj × Loc)} {H : Array AObj} {t : Tr} {a : Act} {w : World} (h : AtQ P W0 ps H t a w) : At P W0 H t a w := by
  obtain ⟨⟨ρ, h1, h2, _⟩, h3, h4⟩ := h
  exact ⟨⟨ρ, h1, h2⟩, h3, h4⟩
/-- The code comes from one to the other. -/
def GoesQ (P : Program) (W0 : World) (ps ps' : List (AObj × Loc)) (c : Code) (H : Array AObj) (t : Tr) (e : AExit) (H' : Array AObj) (t' : Tr) : Prop :=
  ∀ (a : Act) (w : World) (Q : Exit → Act → World → Prop), AtQ P W0 ps H t a w → (∀ a' w', AtQ P W0 ps' H' t' a' w' → Q e.toExit a' w') → c.wp P Q a w
def GoesQL (P : Program) (W0 : World) (ps ps' : List (AObj × Loc)) (n : Nat) (c : Code) (H : Array AObj) (t : Tr) (e : AExit) (H' : Array AObj) (t' : Tr) : Prop :=
  ∀ (a : Act) (w : World) (Q : Exit → Act → World → Prop), AtQ P W0 ps H t a w → (∀ a' w', AtQ P W0 ps' H' t' a' w' → Q e.toExit a' w') → Code.rounds P c Q n a w
section
variable {W0 : World} {c d : Code} {H H1 H2 : Array AObj} {t t1 t2 : Tr} {e : AExit} {id id' n : Nat} {ps qs rs : List (AObj × Loc)} {x : Operand}
theorem GoesQ.run {E : Env} (hE : E.Sound P) (hP : Good P) {n k : Nat} {f : FuncId} {s s' : St} (hok : okCode c = true) (h : evCode P E (evCall P E k) f n c t s = some (e, t1, s')) (hh : s'.Holds) (hps : P.globals.size + ps.length ≤ s.heap.size) : GoesQ P W0 ps ps c s.heap t e s'.heap t1 := by
  intro a w Q hat hQ
  obtain ⟨ρ, hr, ht, hpin⟩ := hat.rel
  exact (evCode_spec hE (evCall_sound hE hP k) (evCall_grows hE k) hP.mixed n c t s e t1 s' a ρ w W0.heap.size Q hok h hh hr ht
    (fun a' ρ' w' d1 d2 d3 d4 => hQ a' w' ⟨⟨ρ', d3, d2, fun i l hi => by
      have hlt : i < ps.length := by have := (List.getElem?_eq_some_iff.1 hi).1; simpa using this
      rw [d4.rho _ (.inl (by omega))]; exact hpin i l hi⟩, hat.below.trans d4.below, by rw [d1]; exact hat.defers⟩)).1
theorem GoesQ.seq (h1 : GoesQ P W0 ps qs c H t .normal H1 t1) (h2 : GoesQ P W0 qs rs d H1 t1 e H2 t2) : GoesQ P W0 ps rs (.seq c d) H t e H2 t2 :=
  fun a w Q hat hQ => wp_seq (h1 a w _ hat fun a' w' hat' => h2 a' w' Q hat' hQ)
theorem GoesQ.seqRet (h1 : GoesQ P W0 ps qs c H t .ret H1 t1) : GoesQ P W0 ps qs (.seq c d) H t .ret H1 t1 :=
  fun a w Q hat hQ => wp_seq (h1 a w _ hat fun a' w' hat' => hQ a' w' hat')
theorem GoesQ.seqExit (h1 : GoesQ P W0 ps qs c H t (.exit id) H1 t1) : GoesQ P W0 ps qs (.seq c d) H t (.exit id) H1 t1 :=
  fun a w Q hat hQ => wp_seq (h1 a w _ hat fun a' w' hat' => hQ a' w' hat')
theorem GoesQ.block (h : GoesQ P W0 ps qs c H t .normal H1 t1) : GoesQ P W0 ps qs (.block id c) H t .normal H1 t1 :=
  fun a w Q hat hQ => wp_block (h a w _ hat fun a' w' hat' => hQ a' w' hat')
theorem GoesQ.blockRet (h : GoesQ P W0 ps qs c H t .ret H1 t1) : GoesQ P W0 ps qs (.block id c) H t .ret H1 t1 :=
  fun a w Q hat hQ => wp_block (h a w _ hat fun a' w' hat' => hQ a' w' hat')
theorem GoesQ.blockExit (h : GoesQ P W0 ps qs c H t (.exit id) H1 t1) : GoesQ P W0 ps qs (.block id c) H t .normal H1 t1 :=
  fun a w Q hat hQ => wp_block (h a w _ hat fun a' w' hat' => by
    simp only [AExit.toExit, Exit.inBlock, if_true]
    exact hQ a' w' hat')
theorem GoesQL.next (h1 : GoesQ P W0 ps qs c H t .normal H1 t1) (h2 : GoesQL P W0 qs rs n c H1 t1 e H2 t2) : GoesQL P W0 ps rs (n + 1) c H t e H2 t2 :=
  fun a w Q hat hQ => h1 a w _ hat fun a' w' hat' => h2 a' w' Q hat' hQ
theorem GoesQL.exit (h1 : GoesQ P W0 ps qs c H t (.exit id) H1 t1) : GoesQL P W0 ps qs (n + 1) c H t (.exit id) H1 t1 :=
  fun a w Q hat hQ => h1 a w _ hat fun a' w' hat' => hQ a' w' hat'
theorem GoesQL.ret (h1 : GoesQ P W0 ps qs c H t .ret H1 t1) : GoesQL P W0 ps qs (n + 1) c H t .ret H1 t1 :=
  fun a w Q hat hQ => h1 a w _ hat fun a' w' hat' => hQ a' w' hat'
theorem GoesQL.loop (h : GoesQL P W0 ps qs n c H t e H1 t1) : GoesQ P W0 ps qs (.loop c) H t e H1 t1 :=
  fun a w Q hat hQ => wp_loop_rounds n (h a w Q hat hQ)
end
/-- Old numbers, in the order of the new ones: pins that stay, pins that are new (no old number), own objects. -/
def oldIds (g q k' top : Nat) (m : List Nat) : List Nat := (List.range q).map (g + ·) ++ ((List.range (k' - q)).map (top + ·) ++ m)
/-- All but own objects 'm' and temporaries 'ks' is let go; the pins are 'os' from here on, the first 'q' of them where they were. -/
noncomputable def viewQ (g k q : Nat) (os : List AObj) (m : List (Nat × Bool)) (ks : List Nat) (n : Nat) (H : Array AObj) (t : Tr) : Option (List AObj × List (Nat × Value) × List Prop) :=
  match freshM (g + k) (m.map (·.1)) && (t.has (n - 1) && !t.has n) && Nat.ble n 8190 && Nat.blt 0 n && Nat.ble q k && Nat.ble q os.length && (m.map (·.1)).all (fun b => Nat.blt b H.size),
      keepP g (oldIds g q os.length H.size (m.map (·.1))) H m, keepV g (oldIds g q os.length H.size (m.map (·.1))) t ks with
  | true, some (L, cs), some K => some (L, K, cs)
  | _, _, _ => none
def rhoQ (g q k' : Nat) (ls : List Loc) (m : List Nat) (ρ : Rho) : Rho := fun i => if g + q ≤ i ∧ i < g + k' then (ls[i - g]?).getD (ρ i) else rhoK g m ρ i
theorem oldIds_length (g q k' top : Nat) (m : List Nat) (h : q ≤ k') : (oldIds g q k' top m).length = k' + m.length := by simp [oldIds]; omega
theorem oldIds_get {g q k' top : Nat} {m : List Nat} {j b : Nat} (hq : q ≤ k') (h : (oldIds g q k' top m)[j]? = some b) (hb : b < top) : (j < q ∧ b = g + j) ∨ (k' ≤ j ∧ m[j - k']? = some b) := by
  unfold oldIds at h
  rw [List.getElem?_append] at h
  split at h
  · rename_i hj
    simp only [List.length_map, List.length_range] at hj
    rw [List.getElem?_map, List.getElem?_range hj] at h
    simp only [Option.map_some, Option.some.injEq] at h
    exact .inl ⟨hj, h.symm⟩
  · rename_i hj
    simp only [List.length_map, List.length_range] at hj h
    rw [List.getElem?_append] at h
    split at h
    · rename_i hj2
      simp only [List.length_map, List.length_range] at hj2
      rw [List.getElem?_map, List.getElem?_range hj2] at h
      simp only [Option.map_some, Option.some.injEq] at h
      omega
    · rename_i hj2
      simp only [List.length_map, List.length_range] at hj2 h
      refine .inr ⟨by omega, ?_⟩
      rw [show j - k' = j - q - (k' - q) by omega]
      exact h
theorem rhoQ_of {g q k' top : Nat} {ls : List Loc} {m : List Nat} {ρ : Rho} {b j : Nat} (hq : q ≤ k') (h : newId g (oldIds g q k' top m) b = some j) (hb : b < top) : j < g + (k' + m.length) ∧ rhoQ g q k' ls (oldIds g q k' top m) ρ j = ρ b := by
  obtain ⟨h1, h2⟩ := newId_spec (ρ := ρ) h
  rw [oldIds_length _ _ _ _ _ hq] at h1
  refine ⟨h1, ?_⟩
  unfold rhoQ
  rw [if_neg ?_, h2]
  rintro ⟨h3, h4⟩
  unfold newId at h
  split at h
  · rename_i hlt
    simp only [Option.some.injEq] at h
    have : b < g := Nat.le_of_ble_eq_true hlt
    omega
  · split at h
    · rename_i k hk
      simp only [Option.some.injEq] at h
      rcases oldIds_get hq (idxN_spec hk) hb with ⟨h5, _⟩ | ⟨h5, _⟩ <;> omega
    · cases h
theorem renQ_rel {g q k' n n' : Nat} {ls : List Loc} {m : List Nat} {ρ : Rho} {v u v' : Value} (hq : q ≤ k') (hn : n' = g + (k' + m.length)) (h : VRel n ρ v v') (hu : renV g (oldIds g q k' n m) v = some u) : VRel n' (rhoQ g q k' ls (oldIds g q k' n m) ρ) u v' := by
  subst hn
  unfold renV at hu
  split at hu
  · rename_i b off
    split at hu
    · rename_i j hj
      simp only [Option.some.injEq] at hu; subst hu
      obtain ⟨rfl, hok⟩ := ptr_inv h
      obtain ⟨k1, k2⟩ := rhoQ_of (ls := ls) (ρ := ρ) hq hj hok.1
      have e : ρ.addr ⟨b, off, none⟩ = (rhoQ g q k' ls (oldIds g q k' n m) ρ).addr ⟨j, off, none⟩ := by simp only [Rho.addr, k2]
      rw [e]
      exact .ptr ⟨k1, by rw [k2]; exact hok.2⟩
    · cases hu
  · rename_i b off l c
    split at hu
    · rename_i j hj
      simp only [Option.some.injEq] at hu; subst hu
      cases h with
      | any h _ => cases h
      | flat hf => simp [flat] at hf
      | slice hb he h1 h2 h3 h4 =>
        obtain ⟨k1, k2⟩ := rhoQ_of (ls := ls) (ρ := ρ) hq hj hb.1
        have e : ρ.addr ⟨b, off, none⟩ = (rhoQ g q k' ls (oldIds g q k' n m) ρ).addr ⟨j, off, none⟩ := by simp only [Rho.addr, k2]
        rw [e]
        exact .slice ⟨k1, by rw [k2]; exact hb.2⟩ (by rw [k2]; exact he) (by rw [k2]; exact h1) (by rw [k2]; exact h2) (by rw [k2]; exact h3) h4
      | slice0 hb he ho =>
        obtain ⟨k1, k2⟩ := rhoQ_of (ls := ls) (ρ := ρ) hq hj hb.1
        exact .slice0 ⟨k1, by rw [k2]; exact hb.2⟩ (by rw [k2]; exact he) (by rw [k2]; exact ho)
    · cases hu
  · simp only [Option.some.injEq] at hu; subst hu
    cases h with
    | any h _ => cases h
    | flat hf => simp [flat] at hf
    | noRoom => exact .noRoom
  · split at hu
    · rename_i hf
      simp only [Option.some.injEq] at hu; subst hu
      rw [h.eq_of_flat hf]
      exact .flat hf
    · cases hu
theorem viewQ_rel {g q k' n n' : Nat} {ls : List Loc} {m : List Nat} {ρ : Rho} {v u v' : Value} (hq : q ≤ k') (hn : n' = g + (k' + m.length)) (h : VRel n ρ v v') (hu : renV g (oldIds g q k' n m) v = some u ∨ (u = v ∧ plainV v = true)) :
    VRel n' (rhoQ g q k' ls (oldIds g q k' n m) ρ) u v' := by
  rcases hu with hu | ⟨rfl, hp⟩
  · exact renQ_rel hq hn h hu
  · exact plain_rel hp h
theorem pcell_rel {g n : Nat} {ls : List Loc} {ρ : Rho} {v c' : Value} (hn : g + ls.length ≤ n) (hpin : ∀ i l, ls[i]? = some l → ρ (g + i) = l) (h : PCell g ls v c') : VRel n ρ v c' := by
  rcases h with ⟨h1, rfl⟩ | ⟨h1, h2⟩ | ⟨k, len, cap, l, rfl, hk, rfl, h1, h2, h3, h4, h5, h6⟩ | ⟨k, l, x, rfl, hk, rfl, h1, h2, h3⟩
  · exact .flat h1
  · exact .any h1 h2
  · have hρ := hpin k l hk
    have hlt := (List.getElem?_eq_some_iff.1 hk).1
    have he : (⟨l.blk, l.shift, none⟩ : Addr) = ρ.addr ⟨g + k, 0, none⟩ := by unfold Rho.addr; simp only [hρ, Nat.add_zero]
    rw [he]
    exact .slice ⟨by omega, by rw [hρ]; exact h1⟩ (by rw [hρ]; exact h2) (by rw [hρ]; omega) (by rw [hρ]; omega) (by rw [hρ]; omega) h6
  · have hρ := hpin k l hk
    have hlt := (List.getElem?_eq_some_iff.1 hk).1
    exact .slice0 ⟨by omega, by rw [hρ]; exact h1⟩ (by rw [hρ]; exact h2) (by rw [hρ]; exact h3.symm)
theorem AtQ.view {W0 : World} {ps qs : List (AObj × Loc)} {H : Array AObj} {t : Tr} {a : Act} {w : World} {mb : List (Nat × Bool)} {ks : List Nat} {n q : Nat} {L : List AObj} {K : List (Nat × Value)} {cs : List Prop} (h : AtQ P W0 ps H t a w)
    (hv : viewQ P.globals.size ps.length q (qs.map (·.1)) mb ks n H t = some (L, K, cs)) (hh : ∀ p ∈ cs, p) (hp : PinsOk P.globals.size W0 qs) (hpre : ∀ i, i < q → (qs.map (·.2))[i]? = (ps.map (·.2))[i]?) :
    AtQ P W0 qs (hk P.globals.size (qs.map (·.1) ++ L)) (tk n K) a w := by
  obtain ⟨⟨ρ, hr, ht, hpin⟩, hbel, hdef⟩ := h
  unfold viewQ at hv
  split at hv
  case h_2 => cases hv
  rename_i L' cs' K' hc hL hK
  simp only [Option.some.injEq, Prod.mk.injEq] at hv
  obtain ⟨rfl, rfl, rfl⟩ := hv
  simp only [Bool.and_eq_true, Bool.not_eq_true', List.length_map] at hc hL hK
  obtain ⟨⟨⟨⟨⟨⟨hfresh, hlast, hno⟩, hn⟩, hpos⟩, hqk⟩, hqq⟩, hbelow⟩ := hc
  have hn := Nat.le_of_ble_eq_true hn
  have hpos : 0 < n := Nat.le_of_ble_eq_true hpos
  have hqk := Nat.le_of_ble_eq_true hqk
  have hqq := Nat.le_of_ble_eq_true hqq
  have hlm : (mb.map (·.1)).length = mb.length := by simp
  obtain ⟨hlen, hobj⟩ := keepP_spec hL hh
  have hlt : ∀ b ∈ mb.map (·.1), b < H.size := fun b hb => Nat.le_of_ble_eq_true (List.all_eq_true.1 hbelow b hb)
  generalize hm : mb.map (·.1) = m at *
  obtain ⟨hnd, hge⟩ := freshM_spec hfresh
  generalize hM : oldIds P.globals.size q qs.length H.size m = M at *
  generalize hls : qs.map (·.2) = ls at *
  have hlsl : ls.length = qs.length := by rw [← hls]; simp
  have hsz : (hk P.globals.size (qs.map (·.1) ++ L')).size = P.globals.size + (qs.length + m.length) := by simp [hk, hlen, hlm]
  -- the pins
  have pin' : ∀ i l, ls[i]? = some l → rhoQ P.globals.size q qs.length ls M ρ (P.globals.size + i) = l := by
    intro i l hi
    have hil := (List.getElem?_eq_some_iff.1 hi).1
    unfold rhoQ
    by_cases h1 : i < q
    · rw [if_neg (by omega)]
      unfold rhoK
      rw [if_neg (by omega), show P.globals.size + i - P.globals.size = i by omega]
      have : M[i]? = some (P.globals.size + i) := by
        rw [← hM]
        unfold oldIds
        rw [List.getElem?_append_left (by simpa using h1), List.getElem?_map, List.getElem?_range h1]; rfl
      rw [this]
      have hl2 := hpre i h1
      rw [hi] at hl2
      exact hpin i l hl2.symm
    · rw [if_pos (by omega), show P.globals.size + i - P.globals.size = i by omega, hi]; rfl
  have owns : ∀ {id b : Nat}, P.globals.size + qs.length ≤ id → m[id - P.globals.size - qs.length]? = some b → rhoQ P.globals.size q qs.length ls M ρ id = ρ b := by
    intro id b h1 h2
    unfold rhoQ
    rw [if_neg (by omega)]
    unfold rhoK
    have : M[id - P.globals.size]? = some b := by
      rw [← hM]
      unfold oldIds
      rw [List.getElem?_append_right (by simp; omega)]
      simp only [List.length_map, List.length_range]
      rw [List.getElem?_append_right (by simp; omega)]
      simp only [List.length_map, List.length_range]
      rw [show id - P.globals.size - q - (qs.length - q) = id - P.globals.size - qs.length by omega]
      exact h2
    rw [if_neg (by omega), this]
  -- an object is a pin, or one's own
  have each : ∀ {id : Nat} {o' : AObj}, (hk P.globals.size (qs.map (·.1) ++ L'))[id]? = some o' → o'.st < 3 →
      (∃ i l, id = P.globals.size + i ∧ ls[i]? = some l ∧ PRow P.globals.size W0 ls o' l) ∨
      (∃ b o, P.globals.size + qs.length ≤ id ∧ m[id - P.globals.size - qs.length]? = some b ∧ H[b]? = some o ∧ KeptO P.globals.size M o o') := by
    intro id o' h1 h2
    obtain ⟨q1, q2⟩ := hk_get h1 h2
    rw [List.getElem?_append] at q2
    split at q2
    · rename_i hlt2
      simp only [List.length_map] at hlt2
      left
      rw [List.getElem?_map] at q2
      cases hp2 : qs[id - P.globals.size]? with
      | none => rw [hp2] at q2; cases q2
      | some p =>
        rw [hp2] at q2
        simp only [Option.map_some, Option.some.injEq] at q2
        subst q2
        have hmem := hp p (List.mem_of_getElem? hp2)
        rw [hls] at hmem
        exact ⟨id - P.globals.size, p.2, by omega, by rw [← hls, List.getElem?_map, hp2]; rfl, hmem⟩
    · rename_i hlt2
      simp only [List.length_map] at hlt2 q2
      obtain ⟨b, o, q3, q4, q5⟩ := hobj _ _ q2
      exact .inr ⟨b, o, by omega, q3, q4, q5⟩
  have hasz : a.tmps.size = n := by
    have h1 := ht.has (n - 1)
    have h2 := ht.has n
    rw [hlast] at h1; rw [hno] at h2
    simp at h1 h2
    omega
  refine ⟨⟨rhoQ P.globals.size q qs.length ls M ρ, ⟨⟨by omega, fun g hg => ?_⟩, hr.base, fun id o' ho hs => ?_, fun id o' ho hs => ?_, fun id o' ho hs => ?_⟩, ⟨fun i => ?_, fun i => ?_⟩, fun i l hi => pin' i l (by rw [hls] at hi; exact hi)⟩, hbel, hdef⟩
  · unfold rhoQ
    rw [if_neg (by omega)]
    unfold rhoK; rw [if_pos hg]; exact hr.glob.2 g hg
  · rcases each ho hs with ⟨i, l, rfl, hi, hrow⟩ | ⟨b, o, q1, q2, q3, q4⟩
    · rw [pin' i l hi]
      refine ⟨hrow.size, hrow.esz, Nat.lt_of_lt_of_le hrow.blk hbel.size, fun j hj => ?_⟩
      obtain ⟨c', c1, c2, c3⟩ := hrow.cell j hj
      refine ⟨c', by rw [(below_cells hbel _ hrow.blk).1]; exact c1, c2, ?_⟩
      exact pcell_rel (by rw [hsz]; omega) pin' c3
    · obtain ⟨z1, z2, z3, z4, z5, z6⟩ := q4
      obtain ⟨g1, g2, g3, g4⟩ := hr.obj b o q3 z1
      rw [owns q1 q2]
      refine ⟨by rw [g1, z5], by rw [g2, z3], g3, fun j hj => ?_⟩
      obtain ⟨c', c1, c2, c3⟩ := g4 j (by omega)
      refine ⟨c', c1, viewS (z6 j (by omega) hj) c2, ?_⟩
      have := z6 j (by omega) hj
      rw [← hM] at this ⊢
      exact viewQ_rel hqq hsz c3 this
  · have hs3 : o'.st < 3 := by rcases hs with h | h <;> omega
    rcases each ho hs3 with ⟨i, l, rfl, hi, hrow⟩ | ⟨b, o, q1, q2, q3, q4⟩
    · have := hrow.st; omega
    · obtain ⟨z1, z2, _⟩ := q4
      rw [owns q1 q2]
      exact hr.own b o q3 (by rw [← z2]; exact hs)
  · rcases each ho (by omega) with ⟨i, l, rfl, hi, hrow⟩ | ⟨b, o, q1, q2, q3, q4⟩
    · have := hrow.st; omega
    · obtain ⟨z1, z2, z3, z4, z5, z6⟩ := q4
      obtain ⟨e1, e2, e3⟩ := hr.head b o q3 (by omega)
      have hown := hr.own b o q3 (by omega)
      rw [owns q1 q2]
      refine ⟨e1, by omega, fun id2 o2' h2 hs2 hne hblk => ?_⟩
      rcases each h2 hs2 with ⟨i2, l2, rfl, hi2, hrow2⟩ | ⟨b2, o2, p1, p2, p3, p4⟩
      · exfalso
        rw [pin' i2 l2 hi2] at hblk
        have := hrow2.blk
        omega
      · obtain ⟨y1, y2, y3, y4, y5, y6⟩ := p4
        rw [owns p1 p2] at hblk ⊢
        have hb2 : b2 ≠ b := by
          rintro rfl
          have k1 := idxN_of hnd q2
          have k2 := idxN_of hnd p2
          rw [k1] at k2
          simp only [Option.some.injEq] at k2
          omega
        obtain ⟨f1, f2, f3⟩ := e3 b2 o2 p3 y1 hb2 hblk
        refine ⟨?_, by omega, by omega⟩
        rw [z4]
        refine List.mem_filterMap.2 ⟨b2, f1, ?_⟩
        have hb2g := hge b2 (List.mem_of_getElem? p2)
        have hat : M[id2 - P.globals.size]? = some b2 := by
          rw [← hM]
          unfold oldIds
          rw [List.getElem?_append_right (by simp; omega)]
          simp only [List.length_map, List.length_range]
          rw [List.getElem?_append_right (by simp; omega)]
          simp only [List.length_map, List.length_range]
          rw [show id2 - P.globals.size - q - (qs.length - q) = id2 - P.globals.size - qs.length by omega]
          exact p2
        have hMnd : M.Nodup := by
          rw [← hM]
          unfold oldIds
          refine List.nodup_append.2 ⟨?_, List.nodup_append.2 ⟨?_, hnd, ?_⟩, ?_⟩
          · exact List.pairwise_map.2 (List.nodup_range.imp fun h => by omega)
          · exact List.pairwise_map.2 (List.nodup_range.imp fun h => by omega)
          · intro x hx y hy
            obtain ⟨i, _, rfl⟩ := List.mem_map.1 hx
            have := hlt y hy
            omega
          · intro x hx y hy
            obtain ⟨i, hi, rfl⟩ := List.mem_map.1 hx
            have hi := List.mem_range.1 hi
            have hHk : P.globals.size + ps.length ≤ H.size := by
              have := hge b2 (List.mem_of_getElem? p2)
              have := hlt b2 (List.mem_of_getElem? p2)
              omega
            rcases List.mem_append.1 hy with hy | hy
            · obtain ⟨j, _, rfl⟩ := List.mem_map.1 hy
              omega
            · have := hge y hy
              omega
        unfold newId
        have : Nat.blt b2 P.globals.size = false := by
          cases hq : Nat.blt b2 P.globals.size with
          | false => rfl
          | true => have : b2 < P.globals.size := Nat.le_of_ble_eq_true hq
                    omega
        rw [this, idxN_of hMnd hat]
        simp only [Option.some.injEq]
        omega
  · rw [hasz]
    by_cases hi : i < 8191
    · have := (Tr.mk_spec n (lookK K') 13 1 0 (by omega) i (by omega)).1
      unfold tk
      rw [this]; simp
    · have : ¬ i < n := by omega
      simp only [this, decide_false]
      exact mk_has_far n _ 13 1 0 (by omega) i (by omega)
  · by_cases hi : i < n
    · have hg := (Tr.mk_spec n (lookK K') 13 1 0 (by omega) i (by omega)).2 (by omega)
      simp only [Nat.one_mul, Nat.add_zero] at hg
      unfold tk
      rw [hg]
      rcases keepV_spec hK i with h1 | h1
      · left; rw [h1]; rfl
      · rcases ht.get i with h2 | ⟨v', h2, h3⟩
        · left
          exfalso
          cases hv : t.get i <;> rw [hv] at h1 h2 <;> simp [isGone] at h2
          rename_i fn fi ca
          cases fn <;> simp [renV, flat] at h1
        · rw [← hM] at h1 ⊢
          exact .inr ⟨v', h2, renQ_rel hqq hsz h3 h1⟩
    · left
      unfold tk
      rw [Tr.get_none]
      · rfl
      · by_cases hi2 : i < 8191
        · rw [(Tr.mk_spec n (lookK K') 13 1 0 (by omega) i (by omega)).1]; simp; omega
        · exact mk_has_far n _ 13 1 0 (by omega) i (by omega)
/-- One piece along a path, with pins ahead and pins behind. -/
noncomputable def pieceQ (P : Program) (E : Env) (f fuel g : Nat) (c : Code) (n : Nat) (os : List AObj) (q : Nat) (os' : List AObj) (m : List (Nat × Bool)) (ks : List Nat) (L : List AObj) (K : List (Nat × Value)) (π : List Ans) : Option (AExit × List AObj × List (Nat × Value) × List Prop × List Prop) :=
  match evCodeF P E (evCall P E fuel) f fuel c (tk n K) ⟨hk g (os ++ L), 0, some π, []⟩ with
  | some (e, t, s) => match viewQ g os.length q os' m ks n s.heap t with
    | some (L', K', cs) => some (e, L', K', s.cons, cs)
    | none => none
  | none => none
theorem pieceQ_goes {E : Env} (hE : E.Sound P) (hP : Good P) {W0 : World} {f fuel n q : Nat} {c : Code} {ps qs : List (AObj × Loc)} {m : List (Nat × Bool)} {ks : List Nat} {L L' : List AObj} {K K' : List (Nat × Value)} {π : List Ans} {e : AExit} {cs ds : List Prop} (hok : okCode c = true)
    (h : pieceQ P E f fuel P.globals.size c n (ps.map (·.1)) q (qs.map (·.1)) m ks L K π = some (e, L', K', cs, ds)) (hc : ∀ p ∈ cs, p) (hd : ∀ p ∈ ds, p) (hp : PinsOk P.globals.size W0 qs) (hpre : ∀ i, i < q → (qs.map (·.2))[i]? = (ps.map (·.2))[i]?) :
    GoesQ P W0 ps qs c (hk P.globals.size (ps.map (·.1) ++ L)) (tk n K) e (hk P.globals.size (qs.map (·.1) ++ L')) (tk n K') := by
  unfold pieceQ at h
  split at h
  case h_2 => cases h
  rename_i e1 t1 s1 hrun
  split at h
  case h_2 => cases h
  rename_i L1 K1 cs1 hv
  simp only [Option.some.injEq, Prod.mk.injEq] at h
  obtain ⟨rfl, rfl, rfl, rfl, rfl⟩ := h
  rw [evCodeF_eq] at hrun
  rw [List.length_map] at hv
  have := GoesQ.run (W0 := W0) (ps := ps) hE hP hok hrun hc (by simp [hk])
  exact fun a w Q hat hQ => this a w Q hat fun a' w' hat' => hQ a' w' (hat'.view hv hd hp hpre)
theorem hrel_pins {W : World} {ps : List (AObj × Loc)} (h : PinsOk P.globals.size W ps) :
    HRel P W.heap.size (rhoRows P.globals.size (ps.map (·.2))) (hk P.globals.size (ps.map (·.1))) W := by
  have pin : ∀ i l, (ps.map (·.2))[i]? = some l → rhoRows P.globals.size (ps.map (·.2)) (P.globals.size + i) = l := by
    intro i l hi
    unfold rhoRows
    rw [if_neg (by omega), show P.globals.size + i - P.globals.size = i by omega, hi]; rfl
  have look : ∀ (id : Nat) (o : AObj), (hk P.globals.size (ps.map (·.1)))[id]? = some o → o.st = 3 ∨ ∃ i l, id = P.globals.size + i ∧ (ps.map (·.2))[i]? = some l ∧ PRow P.globals.size W (ps.map (·.2)) o l := by
    intro id o ho
    simp only [hk, List.getElem?_toArray, List.getElem?_append, List.length_replicate, List.getElem?_replicate, List.getElem?_map] at ho
    split at ho
    · rename_i hlt
      simp only [Option.some.injEq] at ho; subst ho; exact Or.inl rfl
    · rename_i hlt
      right
      cases hp : ps[id - P.globals.size]? with
      | none => rw [hp] at ho; cases ho
      | some p =>
        rw [hp] at ho
        simp only [Option.map_some, Option.some.injEq] at ho
        subst ho
        exact ⟨id - P.globals.size, p.2, by omega, by rw [List.getElem?_map, hp]; rfl, h p (List.mem_of_getElem? hp)⟩
  refine ⟨⟨?_, fun g hg => ?_⟩, Nat.le_refl _, fun id o ho hs => ?_, fun id o ho hs => ?_, fun id o ho hs => ?_⟩
  · simp [hk]
  · unfold rhoRows; rw [if_pos hg]; exact ⟨rfl, rfl, rfl⟩
  · rcases look id o ho with h3 | ⟨i, l, rfl, hi, hrow⟩
    · omega
    · rw [pin i l hi]
      refine ⟨hrow.size, hrow.esz, hrow.blk, fun j hj => ?_⟩
      obtain ⟨c', c1, c2, c3⟩ := hrow.cell j hj
      exact ⟨c', c1, c2, pcell_rel (by simp [hk]) pin c3⟩
  · rcases look id o ho with h3 | ⟨i, l, rfl, hi, hrow⟩
    · omega
    · have := hrow.st; omega
  · rcases look id o ho with h3 | ⟨i, l, rfl, hi, hrow⟩
    · omega
    · have := hrow.st; omega
/-- Where a call that is handed these rows begins. -/
theorem atQ_begin {W : World} {n : Nat} (hn : n ≤ 8190) {ps : List (AObj × Loc)} (h : PinsOk P.globals.size W ps) {args args' : List Value} (hl : args.length ≤ n)
    (ha : LRel (hk P.globals.size (ps.map (·.1))).size (rhoRows P.globals.size (ps.map (·.2))) args args') :
    AtQ P W ps (hk P.globals.size (ps.map (·.1) ++ [])) (tk n (argsK 0 args)) { tmps := ⟨args'⟩ ++ Array.replicate (n - args'.length) undef, defers := [] } W := by
  rw [List.append_nil]
  have hlen : args'.length = args.length := by
    clear hl
    induction ha with
    | nil => rfl
    | cons _ _ ih => simp [ih]
  have hget : ∀ (i : Nat) (v : Value), args[i]? = some v → ∃ v', args'[i]? = some v' ∧ VRel (hk P.globals.size (ps.map (·.1))).size (rhoRows P.globals.size (ps.map (·.2))) v v' := by
    clear hl hlen
    induction ha with
    | nil => intro i v hi; simp at hi
    | cons hv _ ih =>
      intro i v hi
      cases i with
      | zero => simp only [List.getElem?_cons_zero, Option.some.injEq] at hi; subst hi; exact ⟨_, rfl, hv⟩
      | succ i => simpa using ih i v (by simpa using hi)
  have hs : ((⟨args'⟩ : Array Value) ++ Array.replicate (n - args'.length) undef).size = n := by simp; omega
  refine ⟨⟨_, hrel_pins h, ⟨fun i => ?_, fun i => ?_⟩, fun i l hi => ?_⟩, Below.refl _ _, rfl⟩
  · show (tk n (argsK 0 args)).has i = decide (i < ((⟨args'⟩ : Array Value) ++ Array.replicate (n - args'.length) undef).size)
    rw [hs]
    unfold tk
    by_cases hi : i < 8191
    · rw [(Tr.mk_spec n (lookK (argsK 0 args)) 13 1 0 (by omega) i (by omega)).1]; simp
    · have : ¬ i < n := by omega
      simp only [this, decide_false]
      exact mk_has_far n _ 13 1 0 (by omega) i (by omega)
  · by_cases hi : i < n
    · have hg := (Tr.mk_spec n (lookK (argsK 0 args)) 13 1 0 (by omega) i (by omega)).2 (by omega)
      simp only [Nat.one_mul, Nat.add_zero] at hg
      unfold tk
      rw [hg, lookK_args, if_pos (Nat.zero_le _), Nat.sub_zero]
      cases hv : args[i]? with
      | none => left; rfl
      | some v =>
        right
        obtain ⟨v', h1, h2⟩ := hget i v hv
        have hlt := (List.getElem?_eq_some_iff.1 h1).1
        refine ⟨v', ?_, by simpa using h2⟩
        rw [Array.getElem?_append_left (by simpa using hlt), List.getElem?_toArray]; exact h1
    · left
      unfold tk
      rw [Tr.get_none]
      · rfl
      · by_cases hi2 : i < 8191
        · rw [(Tr.mk_spec n (lookK (argsK 0 args)) 13 1 0 (by omega) i (by omega)).1]; simp; omega
        · exact mk_has_far n _ 13 1 0 (by omega) i (by omega)
  · unfold rhoRows
    rw [if_neg (by omega), show P.globals.size + i - P.globals.size = i by omega, hi]; rfl
/-- A call that is handed rows, and whose body goes so. -/
theorem GoesQ.calls {W : World} {f : Nat} {fn : Func} {c : Code} {ps qs : List (AObj × Loc)} {args args' : List Value} {H' : Array AObj} {K' : List (Nat × Value)} {e : AExit} {v : Value} {s' : St} (hf : P.funcs[f]? = some fn) (hb : fn.body = some c) (hn : fn.ntmps ≤ 8190)
    (h : PinsOk P.globals.size W ps) (hl : args.length ≤ fn.ntmps) (ha : LRel (hk P.globals.size (ps.map (·.1))).size (rhoRows P.globals.size (ps.map (·.2))) args args')
    (hg : GoesQ P W ps qs c (hk P.globals.size (ps.map (·.1) ++ [])) (tk fn.ntmps (argsK 0 args)) e H' (tk fn.ntmps K')) (he : e = .ret ∨ e = .normal) (hres : evResults P (tk fn.ntmps K') fn.results.toList ⟨H', 0, none, []⟩ = some ([v], s')) (hcons : s'.cons = []) (hv : Ev.flat v = true) :
    Calls P f ⟨args'⟩ W fun e W' => e = .returned v ∧ Below W.heap.size W W' := by
  refine calls_of_wp hf hb (hg _ W _ (atQ_begin hn h hl ha) fun a' w' hat => ?_)
  obtain ⟨⟨ρ, hr, ht, _⟩, hbel, hdef⟩ := hat
  obtain ⟨_, vs', e1, e2⟩ := evResults_spec _ _ _ _ hres (fun p hp => by rw [hcons] at hp; cases hp) hr ht
  have hvs : vs' = [v] := e2.eq_of_flat (by simp [flatL, hv])
  subst hvs
  have hrun := results_run e1
  have hfin : bodyPost P fn (fun e W' => e = .returned v ∧ Below W.heap.size W W') .ret a' w' := ⟨hdef, v, by simpa using hrun, rfl, hbel⟩
  rcases he with rfl | rfl
  · exact hfin
  · exact hfin
end Go.Ev
