/- ARGUMENTS THAT ARE ROWS: a slice of plain values that was handed in. -/
import Derived.Test.YtmnnnickodfibaaEvT
import Derived.ChangeSlices
namespace Go.Ev
open Go.RowKit
variable {P : Program}

def rowObj (cs : List Value) : AObj := { cells := ⟨cs⟩, esz := 1, st := 0, prev := [] }
def stRows (g : Nat) (rows : List (List Value)) (path : Option (List Ans)) : St := { heap := ⟨List.replicate g objDead ++ rows.map rowObj⟩, low := 0, path, cons := [] }
def rhoRows (g : Nat) (ls : List Loc) : Rho := fun i => if i < g then ⟨i, 0, 0, 0, 0, false⟩ else (ls[i - g]?).getD ⟨i, 0, 0, 0, 0, false⟩
structure RowFits (W : World) (cs : List Value) (l : Loc) : Prop where
  size : l.size = cs.length
  esz : l.esz = 1
  bad : l.bad = false
  blk : l.blk < W.heap.size
  cell : ∀ (j : Nat) (v : Value), cs[j]? = some v → W.cell? ⟨l.blk, l.shift + j, none⟩ = some v ∧ scalar v = true ∧ flat v = true

theorem hrel_rows {W : World} {path : Option (List Ans)} {ps : List (List Value × Loc)} (h : ∀ p ∈ ps, RowFits W p.1 p.2) :
    HRel P W.heap.size (rhoRows P.globals.size (ps.map (·.2))) (stRows P.globals.size (ps.map (·.1)) path).heap W := by
  have look : ∀ (id : Nat) (o : AObj), (stRows P.globals.size (ps.map (·.1)) path).heap[id]? = some o → o.st = 3 ∨ ∃ p ∈ ps, o = rowObj p.1 ∧ rhoRows P.globals.size (ps.map (·.2)) id = p.2 := by
    intro id o ho
    simp only [stRows, List.getElem?_toArray, List.getElem?_append, List.length_replicate, List.getElem?_replicate, List.getElem?_map] at ho
    split at ho
    · rename_i hlt
      simp only [Option.some.injEq] at ho; subst ho; exact Or.inl rfl
    · rename_i hlt
      right
      cases hp : ps[id - P.globals.size]? with
      | none => rw [hp] at ho; cases ho
      | some p =>
        rw [hp] at ho
        simp only [Option.map_some, Option.some.injEq] at ho
        refine ⟨p, List.mem_of_getElem? hp, ho.symm, ?_⟩
        unfold rhoRows
        rw [if_neg hlt, List.getElem?_map, hp]
        rfl
  refine ⟨⟨?_, fun g hg => ?_⟩, Nat.le_refl _, fun id o ho hs => ?_, fun id o ho hs => ?_, fun id o ho hs => ?_⟩
  · simp [stRows]
  · unfold rhoRows; rw [if_pos hg]; exact ⟨rfl, rfl, rfl⟩
  · rcases look id o ho with h3 | ⟨p, hp, rfl, hr⟩
    · omega
    · have hf := h p hp
      rw [hr]
      refine ⟨hf.size, hf.esz, hf.blk, fun j hj => ?_⟩
      have hj' : j < p.1.length := hj
      have hc := hf.cell j p.1[j] (List.getElem?_eq_getElem hj')
      exact ⟨_, hc.1, hc.2.1, .flat hc.2.2⟩
  · rcases look id o ho with h3 | ⟨p, _, rfl, _⟩
    · omega
    · rcases hs with hs | hs <;> cases hs
  · rcases look id o ho with h3 | ⟨p, _, rfl, _⟩
    · omega
    · cases hs

noncomputable def evRunR (P : Program) (E : Env) (n f : Nat) (args : List Value) (g : Nat) (rows : List (List Value)) (path : Option (List Ans)) : Option (Value × List Prop) :=
  match evCall P E n f ⟨args⟩ (stRows g rows path) with
  | some (v, s) => some (v, s.cons)
  | none => none

theorem calls_of_runR {E : Env} (hE : E.Sound P) (hP : Good P) {n f : Nat} {fn : Func} {c : Code} {args args' : List Value} {ps : List (List Value × Loc)} {path : Option (List Ans)} {v : Value} {cs : List Prop}
    (hf : P.funcs[f]? = some fn) (hb : fn.body = some c) (h : evRunR P E n f args P.globals.size (ps.map (·.1)) path = some (v, cs)) (hh : ∀ p ∈ cs, p) (hv : flat v = true) (W : World)
    (hps : ∀ p ∈ ps, RowFits W p.1 p.2) (ha : LRel (stRows P.globals.size (ps.map (·.1)) path).heap.size (rhoRows P.globals.size (ps.map (·.2))) args args') :
    Calls P f ⟨args'⟩ W fun e W' => e = .returned v ∧ Below W.heap.size W W' := by
  unfold evRunR at h
  split at h
  case h_2 => cases h
  rename_i v0 s0 hs
  simp only [Option.some.injEq, Prod.mk.injEq] at h
  obtain ⟨rfl, rfl⟩ := h
  have hmem : fn ∈ P.funcs.toList := by
    obtain ⟨hlt, rfl⟩ := Array.getElem?_eq_some_iff.1 hf
    simp
  have := evCall_sound hE hP n f _ _ _ s0 hs hh W.heap.size _ W ⟨args'⟩ (hrel_rows hps) ha
  rw [callFunc_enter hf (List.all_eq_true.1 hP.names fn hmem) hb] at this
  obtain ⟨_, hc⟩ := this
  refine hc.mono fun e W' he => ?_
  obtain ⟨v', ρ', rfl, h1, _, h3⟩ := he
  have := h1.eq_of_flat hv
  subst this
  exact ⟨rfl, h3.below⟩

/-- A slice that was handed in, as the run sees it. -/
theorem vrel_row {g i n len cap : Nat} {ls : List Loc} {l : Loc} {a : Addr} (hl : ls[i]? = some l) (hn : g + i < n) (hb : l.bad = false) (he : l.esz = 1) (hs : l.size = len) (hr : l.room = l.shift + cap) (hc : len ≤ cap)
    (ha : a = ⟨l.blk, l.shift, none⟩) : VRel n (rhoRows g ls) (.slice (some ⟨g + i, 0, none⟩) len 0) (.slice (some a) len cap) := by
  have hρ : rhoRows g ls (g + i) = l := by
    unfold rhoRows
    rw [if_neg (by omega), show g + i - g = i by omega, hl]; rfl
  have : a = (rhoRows g ls).addr ⟨g + i, 0, none⟩ := by
    rw [ha]; unfold Rho.addr; simp only [hρ, Nat.add_zero]
  rw [this]
  refine .slice ⟨hn, by rw [hρ]; exact hb⟩ ?_ ?_ ?_ ?_ hc
  · rw [hρ, he]; decide
  · rw [hρ, he, hs]; omega
  · rw [hρ, he, hs]; omega
  · rw [hρ, he, hr]; omega

theorem okWide_row {W : World} {r : Reach} {b0 : Nat} {t e : TypeId} {a : Addr} {len cap : Nat} (ht : P.underlying t = some (.slice e)) (hval : Value.okWide P W r b0 t (.slice (some a) len cap)) :
    len ≤ cap ∧ a = ⟨a.block, a.off, none⟩ ∧ a.block < W.heap.size := by
  simp only [Value.okWide, ht, Cell.okWide, Cell.ok, World.has] at hval
  obtain ⟨h1, _, _, h2, row, cells, h3, _⟩ := hval
  refine ⟨h1, ?_, ?_⟩
  · obtain ⟨x, y, z⟩ := a; simp only at h2; rw [h2]
  · refine Decidable.byContradiction fun hn => ?_
    have : W.heap[a.block]? = none := Array.getElem?_eq_none (by omega)
    simp [World.shape?, this] at h3

/-- A slice of numbers that was handed in: none, or a row. -/
def IntsArg (W : World) (k : IntKind) (v : Value) : Prop :=
  v = .slice none 0 0 ∨ ∃ (a : Addr) (len cap : Nat) (zs : List Int) (l : Loc), v = .slice (some a) len cap ∧ zs.length = len ∧ len ≤ cap ∧ (∀ n ∈ zs, (Lit.int k n).wf = true) ∧ RowFits W (zs.map (Value.int k)) l ∧
      a = ⟨l.blk, l.shift, none⟩ ∧ l.room = l.shift + cap ∧ l.size = len
section
open Go.ChangeShapes Go.WideShapes
/-- What a slice of numbers is that was handed in: none, or a row. -/
theorem row_of_ints {W : World} {b0 : Nat} {t e : TypeId} {k : IntKind} {v : Value} {H : Type} {enc : TypeId × Value → H} {d : DataW H} {p : List MemPlace} (ht : P.underlying t = some (.slice e)) (he : P.underlying e = some (.int k)) (hc : P.cellsOf e = 1)
    (hval : Value.okWide P W .any b0 t v) (hd : DataW.Trod enc P W 0 (fun _ => true) true t v d p) :
    IntsArg W k v ∧ ∀ (W' : World) (sp : Nat → Bool), (∀ q ∈ p, sp q.block = true) → Below W.heap.size W W' → DataW.Trod enc P W' 0 sp true t v d p := by
  obtain ⟨a0, len, cap, rfl⟩ := okWide_slice ht hval
  obtain ⟨fuel, hf⟩ := hd
  have hcs : (Value.slice a0 len cap).cells.toList = [.slice a0 len cap] := by simp [Value.cells]
  rw [hcs] at hf
  rcases open_ints ht he hc hf with ⟨h1, h2⟩ | ⟨a, len', cap', zs, h1, hb, hl, hm, hz, hx, hcell, hwf⟩
  · simp only [List.cons.injEq, and_true] at h1
    simp only [Prod.mk.injEq] at h2
    obtain ⟨rfl, rfl⟩ := h2
    refine ⟨Or.inl h1, fun W' sp _ _ => ?_⟩
    rw [h1]
    exact shut_slice_nil ht
  · simp only [List.cons.injEq, Value.slice.injEq, and_true] at h1
    obtain ⟨rfl, rfl, rfl⟩ := h1
    simp only [Prod.mk.injEq] at hx
    obtain ⟨rfl, rfl⟩ := hx
    obtain ⟨_, ha, hblk⟩ := okWide_row ht hval
    simp only [if_true] at hz
    have hcell' : ∀ i, i < zs.length → W.cell? ⟨a.block, a.off + i, none⟩ = some (.int k (zs.getD i 0)) := by
      intro i hi
      have := hcell i hi
      rw [ha, add_plain] at this
      exact this
    refine ⟨Or.inr ⟨a, len, cap, zs.take len, ⟨a.block, a.off, len, 1, a.off + cap, false⟩, rfl, by rw [List.length_take]; omega, hl, fun n hn => hwf n (List.mem_of_mem_take hn), ?_, ha, rfl, rfl⟩, ?_⟩
    · refine ⟨by rw [List.length_map, List.length_take]; show len = _; omega, rfl, rfl, hblk, fun j v hj => ?_⟩
      rw [List.getElem?_map, List.getElem?_take] at hj
      split at hj
      · have hlt : j < zs.length := by omega
        rw [List.getElem?_eq_getElem hlt] at hj
        simp only [Option.map_some, Option.some.injEq] at hj
        subst hj
        refine ⟨?_, rfl, rfl⟩
        have := hcell' j hlt
        rw [this]
        simp [List.getD, List.getElem?_eq_getElem hlt]
      · simp at hj
    · intro W' sp hsp hbel
      have hp0 : 0 < cap → sp a.block = true := by
        intro hpos
        have : MemPlace.cell a.block (a.off + 0) ∈ MemPlace.row a zs.length := by
          unfold MemPlace.row
          exact List.mem_map.2 ⟨0, List.mem_range.2 (by omega), rfl⟩
        exact hsp _ this
      refine ⟨0 + 2, ?_⟩
      rw [hcs]
      have := shut_ints' (enc := enc) (P := P) (w := W') (base := 0) (spare := sp) (held := true) (b := a.block) (off := a.off) (zs := zs) (k := k) 0 ht he hc (Nat.zero_le _) hl hm (by
        by_cases hpos : 0 < cap
        · rw [hp0 hpos, if_pos rfl]; exact hz
        · have : cap = 0 := by omega
          split <;> omega) (fun i hi => by
          rw [(below_cells hbel ⟨a.block, a.off + i, none⟩ hblk).1]; exact hcell' i hi) hwf
      rw [← ha] at this
      exact this
end

/-- The first so many of a list of numbers, by a function; and what comes behind. -/
def mkI (k : IntKind) (z : Nat → Int) (L : Nat) : List Value := (List.range L).map fun i => Value.int k (z i)
theorem mkI_of {k : IntKind} (zs : List Int) (L : Nat) (h : L ≤ zs.length) : zs.map (Value.int k) = mkI k (fun i => zs.getD i 0) L ++ (zs.drop L).map (Value.int k) := by
  have h1 : zs = zs.take L ++ zs.drop L := (List.take_append_drop L zs).symm
  have h2 : zs.take L = (List.range L).map fun i => zs.getD i 0 := by
    apply List.ext_getElem?
    intro i
    rw [List.getElem?_take, List.getElem?_map]
    by_cases hi : i < L
    · rw [if_pos hi, List.getElem?_range hi, List.getElem?_eq_getElem (by omega)]
      simp [List.getD, List.getElem?_eq_getElem (show i < zs.length by omega)]
    · rw [if_neg hi, List.getElem?_eq_none (by simp; omega)]; rfl
  conv => lhs; rw [h1]
  rw [List.map_append, h2]
  unfold mkI
  rw [List.map_map]; rfl
theorem mkI_all {k : IntKind} (zs : List Int) : zs.map (Value.int k) = mkI k (fun i => zs.getD i 0) zs.length := by
  have := mkI_of (k := k) zs zs.length (Nat.le_refl _)
  rw [List.drop_length, List.map_nil, List.append_nil] at this
  exact this
/-- One row handed in, with plain arguments ahead of it and behind it. -/
theorem calls_of_row1 {E : Env} (hE : E.Sound P) (hP : Good P) {n f : Nat} {fn : Func} {c : Code} {pre post : List Value} {zcells : List Value} {l : Loc} {len cap : Nat} {a : Addr} {path : Option (List Ans)} {v : Value} {cs : List Prop}
    (hf : P.funcs[f]? = some fn) (hb : fn.body = some c) (h : evRunR P E n f (pre ++ .slice (some ⟨P.globals.size, 0, none⟩) len 0 :: post) P.globals.size [zcells] path = some (v, cs)) (hh : ∀ p ∈ cs, p) (hv : flat v = true) (W : World)
    (hfit : RowFits W zcells l) (h1 : flatL pre = true) (h2 : flatL post = true) (hl : len ≤ cap) (ha : a = ⟨l.blk, l.shift, none⟩) (hr : l.room = l.shift + cap) (hs : l.size = len) :
    Calls P f ⟨pre ++ .slice (some a) len cap :: post⟩ W fun e W' => e = .returned v ∧ Below W.heap.size W W' := by
  refine calls_of_runR hE hP (ps := [(zcells, l)]) hf hb h hh hv W (fun p hp => ?_) ?_
  · simp only [List.mem_singleton] at hp; subst hp; exact hfit
  · have hcons := vrel_row (g := P.globals.size) (i := 0) (n := (stRows P.globals.size ([(zcells, l)].map (·.1)) path).heap.size) (len := len) (cap := cap) (ls := [l]) (l := l) (a := a) rfl (by simp [stRows]) hfit.bad hfit.esz hs hr hl ha
    have app : ∀ (p : List Value), flatL p = true → ∀ {x y : List Value}, LRel (stRows P.globals.size ([(zcells, l)].map (·.1)) path).heap.size (rhoRows P.globals.size ([(zcells, l)].map (·.2))) x y →
        LRel (stRows P.globals.size ([(zcells, l)].map (·.1)) path).heap.size (rhoRows P.globals.size ([(zcells, l)].map (·.2))) (p ++ x) (p ++ y) := by
      intro p hp x y hxy
      induction p with
      | nil => exact hxy
      | cons u p ih =>
        simp only [flatL, Bool.and_eq_true] at hp
        exact .cons (.flat hp.1) (ih hp.2)
    exact app pre h1 (.cons hcons (LRel.refl_flat h2))
end Go.Ev

namespace Go.Ev
section
open Go.ChangeShapes Go.WideShapes
variable {P : Program} {H : Type} {enc : TypeId × Value → H} {w : World} {base : Nat} {spare : Nat → Bool} {held : Bool}
theorem okWide_float {r : Reach} {b0 : Nat} {t : TypeId} {k : FloatKind} {v : Value} (ht : P.underlying t = some (.float k)) (h : Value.okWide P w r b0 t v) : ∃ b, v = .float k b := by
  simp only [Value.okWide, ht, Cell.okWide] at h
  cases v <;> simp_all [Cell.ok]
theorem trod_float {fuel : Nat} {t : TypeId} {k : FloatKind} {cs : List Value} {x : DataW H × List MemPlace} (ht : P.underlying t = some (.float k)) (h : DataW.trod enc P w base spare held fuel t cs = some x) :
    ∃ b, cs = [.float k b] ∧ x = (.lit (.float k b), []) ∧ (Lit.float k b).wf = true := by
  cases fuel with
  | zero => simp [DataW.trod] at h
  | succ n =>
    unfold DataW.trod at h
    simp only [ht] at h
    split at h <;> simp_all
/-- A float that was handed in. -/
theorem open_float {r : Reach} {b0 : Nat} {t : TypeId} {k : FloatKind} {v : Value} {d : DataW H} {ps : List MemPlace} (ht : P.underlying t = some (.float k)) (hval : Value.okWide P w r b0 t v) (hd : DataW.Trod enc P w base spare held t v d ps) :
    ∃ n, v = .float k n ∧ d = .lit (.float k n) ∧ ps = [] ∧ (Lit.float k n).wf = true := by
  obtain ⟨n, rfl⟩ := okWide_float ht hval
  obtain ⟨fuel, hf⟩ := hd
  obtain ⟨n', h, hx, hw⟩ := trod_float ht hf
  simp [Value.cells] at h
  subst h
  simp only [Prod.mk.injEq] at hx
  exact ⟨n, rfl, hx.1, hx.2, hw⟩
theorem shut_float {t : TypeId} {k : FloatKind} {n : Nat} (ht : P.underlying t = some (.float k)) (hw : (Lit.float k n).wf = true) : DataW.Trod enc P w base spare held t (.float k n) (.lit (.float k n)) [] :=
  ⟨1, by simp [DataW.trod, Value.cells, ht, hw]⟩
end
end Go.Ev
