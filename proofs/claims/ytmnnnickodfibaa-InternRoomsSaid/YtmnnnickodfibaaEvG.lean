/- THE EVALUATOR: values that are built, slices that are made, lengths, copies, nil, bytes and texts. -/
import Derived.Test.YtmnnnickodfibaaEvF
import Derived.ChangeKeysEq
namespace Go.Ev
open Go.RowKit
variable {P : Program} {B : Nat}

def PRel (n : Nat) (ρ : Rho) (a a' : Array Value) : Prop := a.size = a'.size ∧ ∀ (i : Nat) (h1 : i < a.size) (h2 : i < a'.size), VRel n ρ a[i] a'[i]

theorem PRel.set {n : Nat} {ρ : Rho} {a a' : Array Value} (h : PRel n ρ a a') (k : Nat) {v v' : Value} (hv : VRel n ρ v v') : PRel n ρ (a.setIfInBounds k v) (a'.setIfInBounds k v') := by
  refine ⟨by simp [h.1], fun i h1 h2 => ?_⟩
  simp only [Array.size_setIfInBounds] at h1 h2
  rw [Array.getElem_setIfInBounds h1, Array.getElem_setIfInBounds h2]
  split
  · exact hv
  · exact h.2 i h1 h2

theorem foldl_rel {n : Nat} {ρ : Rho} (off : Nat) : ∀ (l l' : List Value) (k : Nat) (a a' : Array Value), LRel n ρ l l' → PRel n ρ a a' →
    PRel n ρ ((l.zipIdx k).foldl (fun cs (x : Value × Nat) => cs.setIfInBounds (off + x.2) x.1) a) ((l'.zipIdx k).foldl (fun cs (x : Value × Nat) => cs.setIfInBounds (off + x.2) x.1) a')
  | _, _, _, _, _, .nil, h => h
  | _, _, k, _, _, .cons hv r, h => by
    simp only [List.zipIdx_cons, List.foldl_cons]
    exact foldl_rel off _ _ (k + 1) _ _ r (h.set _ hv)

theorem LRel.of_get {n : Nat} {ρ : Rho} : ∀ {l l' : List Value}, l.length = l'.length → (∀ (i : Nat) (h1 : i < l.length) (h2 : i < l'.length), VRel n ρ l[i] l'[i]) → LRel n ρ l l'
  | [], [], _, _ => .nil
  | v :: l, v' :: l', h, hv => .cons (hv 0 (by simp) (by simp)) (LRel.of_get (by simpa using h) fun i h1 h2 => by
      have := hv (i + 1) (by simp; omega) (by simp; omega)
      simpa using this)
  | [], _ :: _, h, _ => by simp at h
  | _ :: _, [], h, _ => by simp at h

inductive QRel (n : Nat) (ρ : Rho) : List (Nat × Value) → List (Nat × Value) → Prop
  | nil : QRel n ρ [] []
  | cons {i : Nat} {v v' : Value} {l l' : List (Nat × Value)} (h : VRel n ρ v v') (r : QRel n ρ l l') : QRel n ρ ((i, v) :: l) ((i, v') :: l')

theorem partsL_rel {ρ : Rho} {n : Nat} {t : Tr} {a : Act} (ht : TRel n ρ t a.tmps) (hg : P.globals.size ≤ n ∧ ∀ g, g < P.globals.size → (ρ g).blk = g ∧ (ρ g).shift = 0 ∧ (ρ g).bad = false) :
    ∀ (xs : List (Nat × Operand)) (vs : List (Nat × Value)), partsL P t xs = some vs → QRel n ρ vs (xs.map fun x => (x.1, a.eval x.2))
  | [], vs, h => by simp only [partsL, Option.some.injEq] at h; subst h; exact .nil
  | (i, x) :: r, vs, h => by
    simp only [partsL] at h
    split at h
    · rename_i v vs' h1 h2
      simp only [Option.some.injEq] at h; subst h
      exact .cons (opnd_rel h1 ht hg) (partsL_rel ht hg r vs' h2)
    · cases h

theorem fill_rel {n : Nat} {ρ : Rho} (place : Nat → Option (Nat × Nat)) : ∀ (ps ps' : List (Nat × Value)) (cs cs' out : Array Value), QRel n ρ ps ps' → PRel n ρ cs cs' →
    Instr.fill place cs ps = some out → ∃ out', Instr.fill place cs' ps' = some out' ∧ PRel n ρ out out'
  | _, _, cs, cs', out, .nil, h, hf => by
    simp only [Instr.fill, Option.some.injEq] at hf
    subst hf
    exact ⟨cs', rfl, h⟩
  | _, _, cs, cs', out, .cons (i := i) (v := v) (v' := v') hv r, h, hf => by
    simp only [Instr.fill] at hf ⊢
    cases hp : place i with
    | none => rw [hp] at hf; cases hf
    | some os =>
      obtain ⟨off, size⟩ := os
      rw [hp] at hf
      simp only at hf ⊢
      obtain ⟨c1, c2⟩ := hv.cells
      split at hf
      · cases hf
      · rename_i hc
        have hc' : ¬ ((decide (v'.cells.size ≠ size) || decide (off + v'.cells.size > cs'.size)) = true) := by
          rw [← c1, ← h.1]; exact hc
        rw [if_neg hc']
        refine fill_rel place _ _ _ _ _ r ?_ hf
        rw [← Array.foldl_toList, ← Array.foldl_toList]
        simp only [Array.toList_zipIdx]
        exact foldl_rel off _ _ 0 _ _ (LRel.of_get (by simpa using c1) fun i h1 h2 => by
          have := c2 i (by simpa using h1) (by simpa using h2)
          simpa using this) h

theorem PRel.refl_flat {n : Nat} {ρ : Rho} {a : Array Value} (h : flatA a = true) : PRel n ρ a a :=
  ⟨rfl, fun i h1 _ => .flat (flatA_all.1 h _ (by simp))⟩

theorem flat_cells {v : Value} (h : flat v = true) : flatA v.cells = true := by
  have one : flat v = true → v.cells = #[v] → flatA v.cells = true := by
    intro h e; rw [e]; simp [flatA, flatL, h]
  cases v with
  | agg cs => simpa [flat, Value.cells] using h
  | _ => exact one h rfl

theorem evBuild_spec {ρ : Rho} {s s' : St} {w : World} {ty : TypeId} {ps : List (Nat × Value)} {ps' : Array (Nat × Value)} {v : Value} (h : evBuild P ty ps s = some (v, s'))
    (hr : HRel P B ρ s.heap w) (hp : QRel s.heap.size ρ ps ps'.toList) : Gives P B ρ s w v s' ((Instr.build ty ps').run P w) := by
  unfold evBuild at h
  split at h
  · rename_i i fields hi hu
    split at h
    case h_2 => cases h
    rename_i z places hz hpl
    split at h
    case isFalse => cases h
    rename_i hzf
    split at h
    case h_2 => cases h
    rename_i cs hfill
    simp only [Option.some.injEq, Prod.mk.injEq] at h
    obtain ⟨rfl, rfl⟩ := h
    obtain ⟨out', ho, hrel⟩ := fill_rel _ _ _ _ _ _ hp (PRel.refl_flat (flat_cells hzf)) hfill
    have hm : ∀ (fs : List Field) (out : List (Nat × Nat)) (W : World), fs.mapM (fun f => (P.info? f.type).map fun j => (f.offset, j.size)) = some out →
        (fs.mapM (m := Sem) fun f => do pure (f.offset, ← sizeOf f.type)).run P W = .ok out W := by
      intro fs
      induction fs with
      | nil => intro out W hh; simp at hh; subst hh; rfl
      | cons f r ih =>
        intro out W hh
        rw [List.mapM_cons] at hh
        cases hj : P.info? f.type with
        | none => simp [hj] at hh
        | some j =>
          simp only [hj, Option.map_some, Option.bind_eq_bind, Option.bind_some] at hh
          cases hr' : r.mapM (fun f => (P.info? f.type).map fun j => (f.offset, j.size)) with
          | none => simp [hr'] at hh
          | some out' =>
            simp [hr'] at hh
            subst hh
            have := ih out' W hr'
            rw [List.mapM_cons]
            simp [Sem.run_bind, sizeOf, typeInfo, hj] at this ⊢
            simp [this]
    have hm2 := hm fields.toList places w hpl
    have hrun : (Instr.build ty ps').run P w = .ok (.agg out') w := by
      have e : (fields.mapM (m := Sem) fun f => do pure (f.offset, ← sizeOf f.type)).run P w = .ok places.toArray w := by
        rw [Array.mapM_eq_mapM_toList]
        simp only [Sem.run_map]
        rw [hm2]
        rfl
      simp only [Instr.build, Sem.run_bind, zeroValue, run_typeInfo w hi, Result.andThen_ok, hz, Sem.run_pure, run_underlying hu, e]
      simp [ho]
    rw [hrun]
    exact gives_same hr (.refl _) (.agg hrel.1 hrel.2)
  · rename_i i len elem hi hu
    split at h
    case h_2 => cases h
    rename_i z e hz he
    split at h
    case isFalse => cases h
    rename_i hzf
    split at h
    case h_2 => cases h
    rename_i cs hfill
    simp only [Option.some.injEq, Prod.mk.injEq] at h
    obtain ⟨rfl, rfl⟩ := h
    obtain ⟨out', ho, hrel⟩ := fill_rel _ _ _ _ _ _ hp (PRel.refl_flat (flat_cells hzf)) hfill
    have hrun : (Instr.build ty ps').run P w = .ok (.agg out') w := by
      simp [Instr.build, Sem.run_bind, zeroValue, typeInfo, hi, hz, run_underlying hu, sizeOf, he, ho]
    rw [hrun]
    exact gives_same hr (.refl _) (.agg hrel.1 hrel.2)
  · cases h

theorem range_map_scalar {z : Array Value} {m : Nat} (h : ∀ v ∈ z.toList, scalar v = true) (hz : 0 < z.size) : ∀ v ∈ ((Array.range m).map (z[· % z.size]!)).toList, scalar v = true := by
  intro v hv
  simp at hv
  obtain ⟨a, ha, rfl⟩ := hv
  have := Nat.mod_lt a hz
  rw [getElem!_pos z _ this]
  exact h _ (by simp)
theorem range_map_flat {z : Array Value} {m : Nat} (h : flatA z = true) (hz : 0 < z.size) : flatA ((Array.range m).map (z[· % z.size]!)) = true := by
  rw [flatA_all] at h ⊢
  intro v hv
  simp at hv
  obtain ⟨a, ha, rfl⟩ := hv
  have := Nat.mod_lt a hz
  rw [getElem!_pos z _ this]
  exact h _ (by simp)

theorem foldl_size (off : Nat) : ∀ (l : List (Value × Nat)) (c : Array Value), (l.foldl (fun cs (x : Value × Nat) => cs.setIfInBounds (off + x.2) x.1) c).size = c.size
  | [], _ => rfl
  | x :: l, c => by rw [List.foldl_cons, foldl_size off l]; simp

theorem evBuildSlice_spec {ρ : Rho} {s s' : St} {w : World} {ty : TypeId} {len : Nat} {ps : List (Nat × Value)} {ps' : Array (Nat × Value)} {v : Value} (h : evBuildSlice P ty len ps s = some (v, s'))
    (hr : HRel P B ρ s.heap w) (hp : QRel s.heap.size ρ ps ps'.toList) : Gives P B ρ s w v s' ((Instr.buildSlice ty len ps').run P w) := by
  unfold evBuildSlice at h
  try simp only [lenQ_eq, pushQ_eq, setQ_eq] at h
  split at h
  case h_2 => cases h
  rename_i elem hu
  split at h
  case h_2 => cases h
  rename_i e he
  split at h
  case h_2 => cases h
  rename_i z hz
  split at h
  case isFalse => cases h
  rename_i hg
  obtain ⟨g1, g2, g3, g4⟩ := hg
  split at h
  case h_2 => cases h
  rename_i cs hfill
  split at h
  case isFalse => cases h
  rename_i hsc
  simp only [Option.some.injEq, Prod.mk.injEq] at h
  obtain ⟨rfl, rfl⟩ := h
  obtain ⟨out', ho, hrel⟩ := fill_rel _ _ _ _ _ _ hp (PRel.refl_flat (range_map_flat (m := len * e.size) (flat_cells g4) (by omega))) hfill
  have hfs : ∀ (place : Nat → Option (Nat × Nat)) (q : List (Nat × Value)) (c o : Array Value), Instr.fill place c q = some o → o.size = c.size := by
    intro place q
    induction q with
    | nil => intro c o hh; simp [Instr.fill] at hh; subst hh; rfl
    | cons x r ih =>
      intro c o hh
      obtain ⟨i, u⟩ := x
      simp only [Instr.fill] at hh
      split at hh
      · cases hh
      · split at hh
        · cases hh
        · rw [ih _ _ hh]
          rw [← Array.foldl_toList]
          exact foldl_size _ _ _
  have hsize : cs.size = len * e.size := by rw [hfs _ _ _ _ hfill]; simp
  have hrun : (Instr.buildSlice ty len ps').run P w = .ok (.slice (some ⟨w.heap.size, 0, none⟩) len len) (w.alloc (.cells (out' ++ #[]) elem)) := by
    have hng : ¬ (16777216 < len * e.size) := by omega
    by_cases h0 : len * e.size = 0
    · have hl0 : len = 0 := by
        rcases Nat.eq_zero_or_pos len with h | h
        · exact h
        · have := Nat.mul_pos h g2; omega
      subst hl0
      have e0 : ∀ z : Array Value, (Array.range (0 * e.size)).map (z[· % z.size]!) = #[] := fun z => by simp
      rw [e0] at ho
      have er : ∀ f : Nat → Value, Array.map f (Array.range 0) = #[] := fun f => by simp
      simp [Instr.buildSlice, Sem.run_bind, run_underlying hu, sizeOf, typeInfo, he, newRow, ho, er]
    · simp [Instr.buildSlice, Sem.run_bind, run_underlying hu, sizeOf, typeInfo, he, hng, h0, newRow, zeroValue, hz, ho]
  rw [hrun]
  exact gives_slice hr (.refl _) (.inl rfl) cs e.size len len g2 false out' #[] elem hsize hrel.1 (Nat.le_refl _) (by rw [← hrel.1, hsize]; simp) (fun i h1 h2 => ⟨by
    have := Array.all_eq_true.1 hsc i h1; exact this, hrel.2 i h1 h2⟩)

theorem evMakeSlice_spec {ρ : Rho} {s s' : St} {w : World} {ty : TypeId} {l c l' c' v : Value} (h : evMakeSlice P ty l c s = some (v, s')) (hh : s'.Holds)
    (hr : HRel P B ρ s.heap w) (hl : VRel s.heap.size ρ l l') (hc : VRel s.heap.size ρ c c') : Gives P B ρ s w v s' ((Instr.makeSlice ty l' c').run P w) := by
  unfold evMakeSlice at h
  try simp only [lenQ_eq, pushQ_eq, setQ_eq] at h
  simp only [fillQ_eq] at h
  split at h
  case h_2 => cases h
  rename_i k1 l0 k2 c0 elem hu
  split at h
  case h_2 => cases h
  rename_i e he
  split at h
  case h_2 => cases h
  rename_i z hz
  split at h
  case isFalse => cases h
  rename_i hg
  obtain ⟨g1, g2, g3, g4, g5⟩ := hg
  split at h
  case h_2 => cases h
  rename_i s1 hn
  simp only [Option.some.injEq, Prod.mk.injEq] at h
  obtain ⟨rfl, rfl⟩ := h
  obtain ⟨hs, hcond⟩ := need_spec hn
  have hcond := hcond hh
  simp only [decide_eq_true_eq] at hcond
  obtain ⟨b1, b2, b3⟩ := hcond
  have := int_inv hl
  subst this
  have := int_inv hc
  subst this
  have wl : IntKind.i64.wrap l0 = l0 := IntWalk.i64_in _ (by omega)
  have wc : IntKind.i64.wrap c0 = c0 := IntWalk.i64_in _ (by omega)
  have hb : (e.bytes : Int) * c0 ≤ 281474976710656 := by
    have h1 : e.bytes * c0.toNat ≤ 65536 * 1073741824 := Nat.mul_le_mul g3 (by omega)
    have h2 : ((e.bytes * c0.toNat : Nat) : Int) ≤ ((65536 * 1073741824 : Nat) : Int) := by exact_mod_cast h1
    rw [Int.natCast_mul, Int.toNat_of_nonneg (by omega)] at h2
    omega
  have q1 : ¬ (c0 < 0) := by omega
  have q2 : ¬ (281474976710656 < (e.bytes : Int) * c0) := by omega
  have q3 : ¬ (l0 < 0) := by omega
  have q4 : ¬ (c0 < l0) := by omega
  have hsize : ((Array.range (c0.toNat * e.size)).map (z.cells[· % z.cells.size]!)).size = c0.toNat * e.size := by simp
  have hll : l0.toNat * e.size ≤ c0.toNat * e.size := Nat.mul_le_mul_right _ (by omega)
  have hsplit : (Array.range (c0.toNat * e.size)).map (z.cells[· % z.cells.size]!) =
      (Array.range (l0.toNat * e.size)).map (z.cells[· % z.cells.size]!) ++ ((Array.range (c0.toNat * e.size)).map (z.cells[· % z.cells.size]!)).extract (l0.toNat * e.size) (c0.toNat * e.size) := by
    apply Array.ext
    · simp; omega
    · intro i h1 h2
      by_cases hi : i < l0.toNat * e.size
      · rw [Array.getElem_append_left (by simpa using hi)]
        simp
      · rw [Array.getElem_append_right (by simp; omega)]
        simp only [Array.getElem_extract, Array.getElem_map, Array.getElem_range, Array.size_map, Array.size_range]
        congr 2
        omega
  have hrun : (Instr.makeSlice ty (.int k1 l0) (.int k2 c0)).run P w = .ok (.slice (some ⟨w.heap.size, 0, none⟩) l0.toNat c0.toNat) (w.alloc (.cells ((Array.range (c0.toNat * e.size)).map (z.cells[· % z.cells.size]!)) elem)) := by
    by_cases h0 : c0.toNat * e.size = 0
    · have e0 : (Array.range (c0.toNat * e.size)).map (z.cells[· % z.cells.size]!) = #[] := by rw [h0]; simp
      rw [e0]
      have er : ∀ f : Nat → Value, Array.map f (Array.range 0) = #[] := fun f => by simp
      have h0' : c0.toNat = 0 ∨ e.size = 0 := Nat.mul_eq_zero.1 h0
      simp [Instr.makeSlice, Sem.run_bind, run_underlying hu, asInt, asIntOf, sizeOf, typeInfo, he, wl, wc, q1, q2, q3, q4, h0, newRow, er]
    · simp [Instr.makeSlice, Sem.run_bind, run_underlying hu, asInt, asIntOf, sizeOf, typeInfo, he, wl, wc, q1, q2, q3, q4, h0, newRow, zeroValue, hz]
  rw [hrun, hsplit]
  have hfl := range_map_flat (m := l0.toNat * e.size) (flat_cells g4) (by omega)
  have hss := range_map_scalar (m := l0.toNat * e.size) (z := z.cells) (fun v hv => by
    have := Array.all_eq_true_iff_forall_mem.1 g5 v (by simpa using hv); exact this) (by omega)
  exact gives_slice hr hs (.inl rfl) ((Array.range (l0.toNat * e.size)).map (z.cells[· % z.cells.size]!)) e.size l0.toNat c0.toNat g1 s1.path.isSome ((Array.range (l0.toNat * e.size)).map (z.cells[· % z.cells.size]!)) _ elem (by simp) rfl (by omega) (by
    rw [Array.size_map, Array.size_range, Array.size_extract, hsize]; omega) (fun i h1 h2 => ⟨hss _ (Array.mem_toList_iff.2 (Array.getElem_mem h1)), .flat (flatA_all.1 hfl _ (Array.mem_toList_iff.2 (Array.getElem_mem h1)))⟩)

theorem evLen_spec {ρ : Rho} {s s' : St} {w : World} {argTypes : Array TypeId} {ty : TypeId} {x x' v : Value} (h : evLen P argTypes x s = some (v, s'))
    (hr : HRel P B ρ s.heap w) (hx : VRel s.heap.size ρ x x') : Gives P B ρ s w v s' ((Builtin.len_ argTypes ty #[x']).run P w) := by
  unfold evLen at h
  split at h
  case h_2 => cases h
  rename_i t ht
  split at h
  · rename_i str hu
    rw [force_eq] at h
    simp only [Option.some.injEq, Prod.mk.injEq] at h
    obtain ⟨rfl, rfl⟩ := h
    have := hx.eq_of_flat rfl
    subst this
    have : (Builtin.len_ argTypes ty #[.string str]).run P w = .ok (.int .i64 str.size) w := by simp [Builtin.len_, ht, run_underlying hu, goInt]
    rw [this]
    exact gives_same hr (.refl _) (.flat rfl)
  · rename_i elem a n c hu
    rw [force_eq] at h
    simp only [Option.some.injEq, Prod.mk.injEq] at h
    obtain ⟨rfl, rfl⟩ := h
    have : ∃ a' c', x' = .slice a' n c' := by
      cases hx with
      | any h _ => cases h
      | flat hf => exact ⟨_, _, rfl⟩
      | slice => exact ⟨_, _, rfl⟩
      | slice0 => exact ⟨_, _, rfl⟩
      | noRoom => exact ⟨_, _, rfl⟩
    obtain ⟨a', c', rfl⟩ := this
    have : (Builtin.len_ argTypes ty #[.slice a' n c']).run P w = .ok (.int .i64 n) w := by simp [Builtin.len_, ht, run_underlying hu, goInt]
    rw [this]
    exact gives_same hr (.refl _) (.flat rfl)
  · rename_i n elem hu
    simp only [Option.some.injEq, Prod.mk.injEq] at h
    obtain ⟨rfl, rfl⟩ := h
    have : (Builtin.len_ argTypes ty #[x']).run P w = .ok (.int .i64 n) w := by simp [Builtin.len_, ht, run_underlying hu, goInt]
    rw [this]
    exact gives_same hr (.refl _) (.flat rfl)
  · cases h
theorem evCopy_spec {ρ : Rho} {s s' : St} {w : World} {argTypes : Array TypeId} {ty : TypeId} {x y x' y' v : Value} (h : evCopy P argTypes x y s = some (v, s')) (hh : s'.Holds)
    (hr : HRel P B ρ s.heap w) (hx : VRel s.heap.size ρ x x') (hy : VRel s.heap.size ρ y y') :
    Gives P B ρ s w v s' ((Builtin.copy_ argTypes ty #[x', y']).run P w) := by
  unfold evCopy at h
  simp only [exQ_eq, Nat.zero_add] at h
  split at h
  case h_2 => cases h
  rename_i sT h0
  split at h
  case h_2 => cases h
  rename_i elem hs
  split at h
  case h_2 => cases h
  rename_i e he
  split at h
  case h_2 => cases h
  rename_i n new sy s1 htail
  split at h
  · simp only [Option.some.injEq, Prod.mk.injEq] at h
    obtain ⟨rfl, rfl⟩ := h
    obtain ⟨hs1, news, a1, a2, a3, a4, a5, a6⟩ := evTail_spec htail hh hr hy
    have := hx.eq_of_flat rfl
    subst this
    have hf := a6 0 (by omega) w (fun _ _ => rfl)
    have hrun : (Builtin.copy_ argTypes ty #[.slice none 0 0, y']).run P w = .ok (.int .i64 0) w := by
      simp [Builtin.copy_, h0, run_underlying hs, Sem.run_bind, a4 w, sizeOf, typeInfo, he, hf, goInt]
    rw [hrun]
    exact gives_same hr hs1 (.flat rfl)
  · simp only [Option.some.injEq, Prod.mk.injEq] at h
    obtain ⟨rfl, rfl⟩ := h
    obtain ⟨hs1, news, a1, a2, a3, a4, a5, a6⟩ := evTail_spec htail hh hr hy
    cases hx with
    | flat hf => simp [flat] at hf
    | any h _ => cases h
    | noRoom =>
    rename_i x0
    have hf := a6 0 (by omega) w (fun _ _ => rfl)
    have hrun : (Builtin.copy_ argTypes ty #[.slice (some x0) 0 0, y']).run P w = .ok (.int .i64 0) w := by
      simp [Builtin.copy_, h0, run_underlying hs, Sem.run_bind, a4 w, sizeOf, typeInfo, he, hf, goInt, storeCells]
    rw [hrun]
    exact gives_same hr hs1 (.flat rfl)
  · rename_i b off len c
    split at h
    case h_2 => cases h
    rename_i o ho
    split at h
    case isFalse => cases h
    rename_i hg
    split at h
    case h_2 => cases h
    rename_i s2 hst
    simp only [Option.some.injEq, Prod.mk.injEq] at h
    obtain ⟨rfl, rfl⟩ := h
    have hh1 : s1.Holds := by
      obtain ⟨l, e⟩ := storeCellsAt_cons hst
      exact fun p hp => hh p (by rw [e]; exact List.mem_append_right _ hp)
    obtain ⟨hs1, news, a1, a2, a3, a4, a5, a6⟩ := evTail_spec htail hh1 hr hy
    have hr1 : HRel P B ρ s1.heap w := by rw [hs1.heap]; exact hr
    have hmul : min n len * e.size ≤ n * e.size := Nat.mul_le_mul_right _ (by omega)
    obtain ⟨t1, t2, t3, t4, t5⟩ := storeCellsAt_spec (cs' := news.take (min n len * e.size)) hst hh hr1 (by simp; omega) (fun i i1 i2 => by
      rw [hs1.heap]
      simp at i1 i2
      have := (a3 i (by omega) (by omega)).2
      simpa using this)
    have hf := a6 (min n len) (by omega) w (fun _ _ => rfl)
    obtain ⟨hb, hesz, g1, hx2⟩ := slice_inv hx
    rcases hx2 with ⟨c', rfl, _⟩ | ⟨rfl, hoff, x0, rfl⟩
    · have hst' := run_storeCells_cells (P := P) (ρ b).blk ((ρ b).shift + off) (news.take (min n len * e.size)) 0 w (fun j hj => by have := t1 j hj; simpa using this.1) (fun j hj => by have := t1 j hj; simpa using this.2) t2
      have hrun : (Builtin.copy_ argTypes ty #[.slice (some (ρ.addr ⟨b, off, none⟩)) len c', y']).run P w = .ok (.int .i64 ((min n len : Nat) : Int)) (w.setCells (ρ b).blk ((ρ b).shift + off) (news.take (min n len * e.size))) := by
        have hadd : ρ.addr ⟨b, off, none⟩ = ⟨(ρ b).blk, (ρ b).shift + off, none⟩ := rfl
        simp only [Nat.add_zero] at hst'
        have hmin : Nat.min n len = min n len := rfl
        simp only [Builtin.copy_]
        simp [h0, run_underlying hs, Sem.run_bind, a4 w, sizeOf, typeInfo, he, hmin, hf, goInt, hadd, hst']
      rw [hrun]
      exact ⟨_, _, ρ, rfl, .flat rfl, t3, (hs1.step ρ w).trans t4⟩
    · have hmin : min n 0 = 0 := by omega
      simp only [hmin, Nat.zero_mul, List.take_zero, World.setCells] at hf t3 t4
      have hrun : (Builtin.copy_ argTypes ty #[.slice (some x0) 0 0, y']).run P w = .ok (.int .i64 ((min n 0 : Nat) : Int)) w := by
        have hmin2 : Nat.min n 0 = 0 := hmin
        simp [Builtin.copy_, h0, run_underlying hs, Sem.run_bind, a4 w, sizeOf, typeInfo, he, hmin2, hf, goInt, storeCells]
      rw [hrun]
      exact ⟨_, _, ρ, rfl, .flat rfl, t3, (hs1.step ρ w).trans t4⟩
  · cases h

theorem slice_shape {n : Nat} {ρ : Rho} {b : Addr} {l c : Nat} {u : Value} (h : VRel n ρ (.slice (some b) l c) u) : ∃ b' c', u = .slice (some b') l c' := by
  cases h with
  | any h _ => cases h
  | flat hf => simp [flat] at hf
  | slice hb he h1 h2 h3 h4 => exact ⟨_, _, rfl⟩
  | slice0 hb he ho => exact ⟨_, _, rfl⟩
theorem run_clear_row {argTypes : Array TypeId} {ty sT elem : TypeId} {e : TypeInfo} {z : Value} {a : Addr} {n c : Nat} {w w' : World} (h0 : argTypes[0]? = some sT) (hs : P.underlying sT = some (.slice elem)) (he : P.info? elem = some e) (hz : e.zero = some z)
    (hn : n ≠ 0) (hst : (storeCells a (Builtin.zeroCells z.cells n).toList).run P w = .ok () w') :
    (Builtin.clear_ argTypes ty #[.slice (some a) n c]).run P w = .ok (.tuple #[]) w' := by
  obtain ⟨m, rfl⟩ : ∃ m, n = m + 1 := ⟨n - 1, by omega⟩
  simp [Builtin.clear_, h0, run_underlying hs, Sem.run_bind, zeroValue, typeInfo, he, hz, hst]
theorem evClear_spec {ρ : Rho} {s s' : St} {w : World} {argTypes : Array TypeId} {ty : TypeId} {x x' v : Value} (h : evClear P argTypes x s = some (v, s')) (hh : s'.Holds)
    (hr : HRel P B ρ s.heap w) (hx : VRel s.heap.size ρ x x') :
    Gives P B ρ s w v s' ((Builtin.clear_ argTypes ty #[x']).run P w) := by
  unfold evClear at h
  split at h
  case h_2 => cases h
  rename_i sT h0
  split at h
  case h_2 => cases h
  rename_i elem hs
  have hnil : ∀ (y : Option Addr) (c : Nat), (Builtin.clear_ argTypes ty #[.slice y 0 c]).run P w = .ok (.tuple #[]) w := by
    intro y c
    cases y <;> simp [Builtin.clear_, h0, run_underlying hs, Sem.run_bind]
  have hflat : VRel s.heap.size ρ (.tuple #[]) (.tuple #[]) := .flat rfl
  split at h
  · simp only [Option.some.injEq, Prod.mk.injEq] at h
    obtain ⟨rfl, rfl⟩ := h
    have := hx.eq_of_flat rfl
    subst this
    rw [hnil]
    exact gives_same hr (.refl _) (.flat rfl)
  · simp only [Option.some.injEq, Prod.mk.injEq] at h
    obtain ⟨rfl, rfl⟩ := h
    cases hx with
    | flat hf => simp [flat] at hf
    | any h _ => cases h
    | noRoom =>
      rw [hnil]
      exact gives_same hr (.refl _) (.flat rfl)
  · rename_i b off len c
    split at h
    case h_2 => cases h
    rename_i e he
    split at h
    case h_2 => cases h
    rename_i z hz
    split at h
    case h_2 => cases h
    rename_i o ho
    split at h
    case isFalse => cases h
    rename_i hg
    split at h
    case h_2 => cases h
    rename_i s2 hst
    simp only [Option.some.injEq, Prod.mk.injEq] at h
    obtain ⟨rfl, rfl⟩ := h
    obtain ⟨q1, q2, q3, q4⟩ := hg
    have hfl : ∀ v ∈ (fillQ z.cells (len * e.size)).toList, flat v = true := by
      intro v hv
      rw [fillQ_eq, Array.toList_map, List.mem_map] at hv
      obtain ⟨i, _, rfl⟩ := hv
      have hlt : i % z.cells.size < z.cells.size := Nat.mod_lt _ (by omega)
      rw [getElem!_pos z.cells _ hlt]
      exact flatL_all.1 q4 _ (by simp)
    obtain ⟨t1, t2, t3, t4, t5⟩ := storeCellsAt_spec (cs' := (fillQ z.cells (len * e.size)).toList) hst hh hr rfl (fun i i1 i2 => .flat (hfl _ (List.getElem_mem i1)))
    have hzc : (Builtin.zeroCells z.cells len).toList = (fillQ z.cells (len * e.size)).toList := by
      rw [fillQ_eq]
      unfold Builtin.zeroCells
      rw [q3]
    by_cases hl : len = 0
    · subst hl
      obtain ⟨a', c', rfl⟩ := slice_shape hx
      have hemp : (fillQ z.cells (0 * e.size)).toList = [] := by rw [fillQ_eq]; simp
      rw [hemp] at t3 t4
      simp only [World.setCells] at t3 t4
      rw [hnil]
      exact ⟨_, _, ρ, rfl, .flat rfl, t3, t4⟩
    · obtain ⟨hb, hesz, g1, hx2⟩ := slice_inv hx
      rcases hx2 with ⟨c', rfl, _⟩ | ⟨rfl, _⟩
      case inr => omega
      have hst' := run_storeCells_cells (P := P) (ρ b).blk ((ρ b).shift + off) (fillQ z.cells (len * e.size)).toList 0 w (fun j hj => by have := t1 j hj; simpa using this.1) (fun j hj => by have := t1 j hj; simpa using this.2) t2
      have hadd : ρ.addr ⟨b, off, none⟩ = ⟨(ρ b).blk, (ρ b).shift + off, none⟩ := rfl
      simp only [Nat.add_zero] at hst'
      rw [run_clear_row h0 hs he hz hl (by rw [hzc, hadd]; exact hst')]
      exact ⟨_, _, ρ, rfl, .flat rfl, t3, t4⟩
  · cases h

theorem maxDepth_succ : Op.maxDepth = 9999 + 1 := rfl
section
variable {ty : TypeId} (w : World)
theorem eq_ptr_nil_l {e : TypeId} (hu : P.underlying ty = some (.pointer e)) (b : Option Addr) : (Op.equal ty (.pointer none) (.pointer b)).run P w = .ok b.isNone w := by
  rw [Op.equal, maxDepth_succ, Op.equalIn, Sem.run_bind, run_underlying hu, Result.andThen_ok]; rfl
theorem eq_ptr_nil_r {e : TypeId} (hu : P.underlying ty = some (.pointer e)) (b : Option Addr) : (Op.equal ty (.pointer b) (.pointer none)).run P w = .ok b.isNone w := by
  rw [Op.equal, maxDepth_succ, Op.equalIn, Sem.run_bind, run_underlying hu, Result.andThen_ok]; cases b <;> rfl
theorem eq_slice_nil_l {e : TypeId} (hu : P.underlying ty = some (.slice e)) (b : Option Addr) (l c : Nat) : (Op.equal ty (.slice none 0 0) (.slice b l c)).run P w = .ok b.isNone w := by
  rw [Op.equal, maxDepth_succ, Op.equalIn, Sem.run_bind, run_underlying hu, Result.andThen_ok]; rfl
theorem eq_slice_nil_r {e : TypeId} (hu : P.underlying ty = some (.slice e)) (b : Option Addr) (l c : Nat) : (Op.equal ty (.slice b l c) (.slice none 0 0)).run P w = .ok b.isNone w := by
  rw [Op.equal, maxDepth_succ, Op.equalIn, Sem.run_bind, run_underlying hu, Result.andThen_ok]; cases b <;> rfl
theorem eq_func_nil_l {a b : Array TypeId} {c : Bool} (hu : P.underlying ty = some (.func a b c)) {v : Value} {r : Bool} (hv : (v = .nilFunc ∧ r = true) ∨ (∃ f x y, v = .func f x y ∧ r = false)) : (Op.equal ty .nilFunc v).run P w = .ok r w := by
  rw [Op.equal, maxDepth_succ, Op.equalIn, Sem.run_bind, run_underlying hu, Result.andThen_ok]
  rcases hv with ⟨rfl, rfl⟩ | ⟨f, x, y, rfl, rfl⟩ <;> rfl
theorem eq_func_nil_r {a b : Array TypeId} {c : Bool} (hu : P.underlying ty = some (.func a b c)) {v : Value} {r : Bool} (hv : (v = .nilFunc ∧ r = true) ∨ (∃ f x y, v = .func f x y ∧ r = false)) : (Op.equal ty v .nilFunc).run P w = .ok r w := by
  rw [Op.equal, maxDepth_succ, Op.equalIn, Sem.run_bind, run_underlying hu, Result.andThen_ok]
  rcases hv with ⟨rfl, rfl⟩ | ⟨f, x, y, rfl, rfl⟩ <;> rfl
end

def nilish : Value → Bool
  | .pointer _ => true
  | .slice _ _ _ => true
  | .nilFunc => true
  | .func _ _ _ => true
  | _ => false

theorem binOp_eq {op : BinOp} {ty : TypeId} {x y : Value} {r : Bool} {w : World} (xo yo : Operand) (hx : nilish x = true) (hy : nilish y = true) (hop : op = .eql ∨ op = .neq)
    (h : (Op.equal ty x y).run P w = .ok r w) : ((do eqGuard op ty xo yo x y; Go.binOp op ty x y) : Sem Value).run P w = .ok (.bool (if op = .eql then r else !r)) w := by
  have hg : ∀ op', op' = .eql ∨ op' = .neq → (eqGuard op' ty xo yo x y).run P w = .ok () w := by
    intro op' h'
    rcases h' with rfl | rfl <;> cases x <;> simp [nilish] at hx <;> cases y <;> simp [nilish] at hy <;> rfl
  rw [Sem.run_bind, hg op hop, Result.andThen_ok]
  rcases hop with rfl | rfl
  · have : Go.binOp .eql ty x y = (do pure (.bool (← Op.equal ty x y))) := by
      cases x <;> simp [nilish] at hx <;> cases y <;> simp [nilish] at hy <;> rfl
    rw [this, Sem.run_bind, h]; rfl
  · have : Go.binOp .neq ty x y = (do pure (.bool (!(← Op.equal ty x y)))) := by
      cases x <;> simp [nilish] at hx <;> cases y <;> simp [nilish] at hy <;> rfl
    rw [this, Sem.run_bind, h]; rfl

theorem ptr_shape {n : Nat} {ρ : Rho} {b : Option Addr} {u : Value} (h : VRel n ρ (.pointer b) u) : ∃ b', u = .pointer b' ∧ b'.isNone = b.isNone := by
  cases h with
  | any h _ => cases h
  | flat hf => exact ⟨b, rfl, rfl⟩
  | ptr hb => exact ⟨_, rfl, rfl⟩
theorem noRoom_shape {n : Nat} {ρ : Rho} {u : Value} (h : VRel n ρ (.slice none 0 1) u) : ∃ x, u = .slice (some x) 0 0 := by
  cases h with
  | any h _ => cases h
  | flat hf => simp [flat] at hf
  | noRoom => exact ⟨_, rfl⟩
theorem func_shape {n : Nat} {ρ : Rho} {f : Nat} {x y : Array Value} {u : Value} (h : VRel n ρ (.func (.func f) x y) u) : ∃ x' y', u = .func (.func f) x' y' := by
  cases h with
  | any h _ => cases h
  | flat hf => simp [flat] at hf
  | func => exact ⟨_, _, rfl⟩

theorem evNil_spec {ρ : Rho} {n : Nat} {w : World} {op : BinOp} {ty : TypeId} {x y x' y' : Value} {b : Bool} (h : evNil P ty x y = some b) (xo yo : Operand)
    (hx : VRel n ρ x x') (hy : VRel n ρ y y') (hop : op = .eql ∨ op = .neq) :
    ((do eqGuard op ty xo yo x' y'; Go.binOp op ty x' y') : Sem Value).run P w = .ok (.bool (if op = .eql then b else !b)) w := by
  unfold evNil at h
  split at h
  · rename_i hu
    obtain rfl := hx.eq_of_flat rfl
    obtain ⟨b', rfl, hb'⟩ := ptr_shape hy
    simp only [Option.some.injEq] at h
    subst h
    exact binOp_eq xo yo rfl rfl hop (by rw [eq_ptr_nil_l w hu, hb'])
  · rename_i hu
    obtain rfl := hy.eq_of_flat rfl
    obtain ⟨b', rfl, hb'⟩ := ptr_shape hx
    simp only [Option.some.injEq] at h
    subst h
    exact binOp_eq xo yo rfl rfl hop (by rw [eq_ptr_nil_r w hu, hb']; rfl)
  · rename_i hu
    obtain rfl := hx.eq_of_flat rfl
    obtain rfl := hy.eq_of_flat rfl
    simp only [Option.some.injEq] at h
    subst h
    exact binOp_eq xo yo rfl rfl hop (by rw [eq_slice_nil_l w hu]; rfl)
  · rename_i hu
    obtain rfl := hx.eq_of_flat rfl
    obtain ⟨b', rfl⟩ := noRoom_shape hy
    simp only [Option.some.injEq] at h
    subst h
    exact binOp_eq xo yo rfl rfl hop (by rw [eq_slice_nil_l w hu]; rfl)
  · rename_i hu
    obtain rfl := hy.eq_of_flat rfl
    obtain ⟨b', rfl⟩ := noRoom_shape hx
    simp only [Option.some.injEq] at h
    subst h
    exact binOp_eq xo yo rfl rfl hop (by rw [eq_slice_nil_r w hu]; rfl)
  · rename_i hu
    obtain rfl := hx.eq_of_flat rfl
    obtain ⟨b', c', rfl⟩ := slice_shape hy
    simp only [Option.some.injEq] at h
    subst h
    exact binOp_eq xo yo rfl rfl hop (by rw [eq_slice_nil_l w hu]; rfl)
  · rename_i hu
    obtain rfl := hy.eq_of_flat rfl
    obtain ⟨b', c', rfl⟩ := slice_shape hx
    simp only [Option.some.injEq] at h
    subst h
    exact binOp_eq xo yo rfl rfl hop (by rw [eq_slice_nil_r w hu]; rfl)
  · rename_i hu
    obtain rfl := hx.eq_of_flat rfl
    obtain rfl := hy.eq_of_flat rfl
    simp only [Option.some.injEq] at h
    subst h
    exact binOp_eq xo yo rfl rfl hop (eq_func_nil_l w hu (.inl ⟨rfl, rfl⟩))
  · rename_i hu
    obtain rfl := hx.eq_of_flat rfl
    obtain ⟨x', y'', rfl⟩ := func_shape hy
    simp only [Option.some.injEq] at h
    subst h
    exact binOp_eq xo yo rfl rfl hop (eq_func_nil_l w hu (.inr ⟨_, _, _, rfl, rfl⟩))
  · rename_i hu
    obtain rfl := hy.eq_of_flat rfl
    obtain ⟨x', y'', rfl⟩ := func_shape hx
    simp only [Option.some.injEq] at h
    subst h
    exact binOp_eq xo yo rfl rfl hop (eq_func_nil_r w hu (.inr ⟨_, _, _, rfl, rfl⟩))
  · cases h

theorem evStrToBytes_spec {ρ : Rho} {s s' : St} {w : World} {src dst : TypeId} {x x' v : Value} (h : evStrToBytes P src dst x s = some (v, s'))
    (hr : HRel P B ρ s.heap w) (hx : VRel s.heap.size ρ x x') : Gives P B ρ s w v s' ((convert src dst x').run P w) := by
  unfold evStrToBytes at h
  simp only [strCells_eq] at h
  split at h
  case h_2 => cases h
  rename_i e str hs hd
  obtain rfl := hx.eq_of_flat rfl
  split at h
  case h_2 => cases h
  rename_i he
  simp only [Option.some.injEq, Prod.mk.injEq] at h
  obtain ⟨rfl, rfl⟩ := h
  rw [run_bytes_of_string w src dst e str hs hd he]
  have hcap := grownCap_ge w str.size 0 e
  generalize hC : bytesRow str (grownCap w str.size 0 e) = C
  have hCs : C.size = grownCap w str.size 0 e := by
    subst hC
    simp [bytesRow]
    have : str.data.size = str.size := rfl
    omega
  have hCg : ∀ (j : Nat) (hj : j < str.size), C[j]? = some (.int .u8 ((str.data[j]'hj).toNat : Int)) := by
    intro j hj
    subst hC
    have : j < str.data.size := hj
    simp [bytesRow, Array.getElem?_append, hj]
  generalize grownCap w str.size 0 e = cap at *
  have hh : (w.drew.alloc (.cells C e (C.size, C.size + 1))).heap[w.heap.size]? = some (.cells C e (C.size, C.size + 1)) := by
    show (w.heap.push _)[w.heap.size]? = _
    simp
  have hpush := hr.push (w' := w.drew.alloc (.cells C e (C.size, C.size + 1))) { cells := str.data.map fun b => .int .u8 b.toNat, esz := 1, st := 1, prev := [], sym := s.path.isSome } rfl C.size (by
      have : str.data.size = str.size := rfl
      simp; omega) (by simp) (fun a ha => by
        have h : (w.drew.alloc (.cells C e (C.size, C.size + 1))).heap[a.block]? = w.heap[a.block]? := Below.heap_alloc _ _ _ ha
        simp only [World.cell?, World.frozen?, h, and_self]) (fun j hj => by
        simp only [World.cell?, World.frozen?, hh, Nat.zero_add]
        refine ⟨by simp; omega, by simp; omega⟩) (fun j hj => by
        have hj' : j < str.size := by simpa using hj
        refine ⟨.int .u8 ((str.data[j]'hj').toNat : Int), ?_, by simp [scalar], by simp; exact .flat rfl⟩
        simp only [World.cell?, hh]
        simp [hCg j hj'])
  generalize hL : (⟨w.heap.size, 0, _, 1, C.size, false⟩ : Loc) = L at hpush
  have hr1 := upd_same ρ s.heap.size L
  have hsz : (str.data.map fun b => Value.int .u8 b.toNat).size = str.size := by simp
  rw [new_eq]
  refine ⟨_, _, upd ρ s.heap.size L, rfl, ?_, hpush, step_push (.refl s) L _ hr ⟨((Below.refl B w).drew).alloc (by exact hr.base) _, fun a ha => by
    have h5 : (w.drew.alloc (Obj.cells C e (C.size, C.size + 1))).heap[a.block]? = w.heap[a.block]? := Below.heap_alloc _ _ _ ha
    simp only [World.cell?, h5]⟩⟩
  have := @VRel.slice (s.heap.size + 1) (upd ρ s.heap.size L) s.heap.size 0 str.size 0 cap ⟨by omega, by rw [hr1, ← hL]⟩ (by rw [hr1, ← hL]; exact Nat.one_pos) (by rw [hr1, ← hL]; simp only [hsz]; omega) (by rw [hr1, ← hL]; simp only [hsz]; omega) (by rw [hr1, ← hL]; simp only [hCs]; omega) (by omega)
  have hL0 : (upd ρ s.heap.size L).addr ⟨s.heap.size, 0, none⟩ = ⟨w.heap.size, 0, none⟩ := by rw [Rho.addr]; simp only [hr1]; rw [← hL]
  rw [hL0] at this
  simpa [lenQ_eq] using this

theorem bytesOf_ints : ∀ {l : List Value} {bs : List UInt8}, bytesOf l = some bs → ∃ ns : List Int, l = ns.map (Value.int .u8) ∧ bs = ns.map fun n => UInt8.ofNat n.toNat
  | [], bs, h => by simp only [bytesOf, Option.some.injEq] at h; subst h; exact ⟨[], rfl, rfl⟩
  | v :: r, bs, h => by
    unfold bytesOf at h
    split at h
    · cases ‹_ :: _ = []›
    · rename_i k r' e
      simp only [List.cons.injEq] at e
      obtain ⟨rfl, rfl⟩ := e
      split at h
      case h_2 => cases h
      rename_i l hl
      simp only [Option.some.injEq] at h
      subst h
      obtain ⟨ns, rfl, rfl⟩ := bytesOf_ints hl
      exact ⟨k :: ns, rfl, rfl⟩
    · cases h
theorem fold_push : ∀ (ns : List Int) (r : ByteArray), ns.foldl (fun r n => r.push (UInt8.ofNat n.toNat)) r = ⟨r.data ++ (ns.map fun n => UInt8.ofNat n.toNat).toArray⟩
  | [], r => by simp
  | n :: l, r => by
    simp only [List.map_cons, List.foldl_cons]
    rw [fold_push l]
    simp [ByteArray.push]

theorem strOf_spec {cs : Array Value} {s s' : St} {v : Value} (h : strOf cs s = some (v, s')) (hh : s'.Holds) : Same s s' ∧ ∃ l, bytesOf cs.toList = some l ∧ v = .string ⟨l.toArray⟩ := by
  unfold strOf at h
  split at h
  · simp only [Option.some.injEq, Prod.mk.injEq] at h
    obtain ⟨rfl, rfl⟩ := h
    exact ⟨⟨rfl, rfl, [_], rfl⟩, _, hh _ List.mem_cons_self, rfl⟩
  · split at h
    · rename_i hl
      simp only [Option.some.injEq, Prod.mk.injEq] at h
      obtain ⟨rfl, rfl⟩ := h
      exact ⟨.refl _, _, by rw [← bytesQ_eq]; exact hl, rfl⟩
    · cases h
/-- Bytes as a string, in any world in which they stand as they do. -/
theorem evBytesToStr_pin {ρ : Rho} {s s' : St} {w : World} {src dst : TypeId} {x x' v : Value} (h : evBytesToStr P src dst x s = some (v, s')) (hh : s'.Holds)
    (hr : HRel P B ρ s.heap w) (hx : VRel s.heap.size ρ x x') : Same s s' ∧ flat v = true ∧ ∀ w2, (∀ b off n c, x = .slice (some ⟨b, off, none⟩) n c → ∀ j, j < (ρ b).size → w2.cell? ⟨(ρ b).blk, (ρ b).shift + j, none⟩ = w.cell? ⟨(ρ b).blk, (ρ b).shift + j, none⟩) →
      (convert src dst x').run P w2 = .ok v w2 := by
  unfold evBytesToStr at h
  split at h
  · rename_i e hs hd
    obtain rfl := hx.eq_of_flat rfl
    split at h
    case h_2 => cases h
    rename_i he
    simp only [Option.some.injEq, Prod.mk.injEq] at h
    obtain ⟨rfl, rfl⟩ := h
    exact ⟨.refl _, rfl, fun w2 _ => run_convert_bytes_string w2 src dst e none 0 0 hs he hd⟩
  · rename_i e b off n c hs hd
    split at h
    case h_2 => cases h
    rename_i o he hl
    split at h
    case isFalse => cases h
    rename_i hesz
    split at h
    case h_2 => cases h
    rename_i cs s1 hrd
    obtain ⟨hsame1, bs, hbs, rfl⟩ := strOf_spec h hh
    obtain ⟨ho, hst⟩ := live_spec hl
    obtain ⟨hsame, cs', e1, e2, e3, e4⟩ := readCells_spec hrd (hsame1.holds hh) ho hst hr
    obtain ⟨ns, hns, rfl⟩ := bytesOf_ints hbs
    have hfl : flatL cs.toList = true := by
      rw [flatL_all, hns]; intro v hv; simp at hv; obtain ⟨k, _, rfl⟩ := hv; rfl
    have hlr : LRel s.heap.size ρ cs.toList cs' := LRel.of_get (by simp; omega) fun i h1 h2 => by
      have := (e4 i (by simpa using h1) h2).2
      simpa using this
    have hcs' := hlr.eq_of_flat hfl
    rw [hns] at hcs'
    subst hcs'
    obtain ⟨hb, hesz', g1, hx2⟩ := slice_inv hx
    have hbnd : off + n ≤ (ρ b).size := by
      obtain ⟨q1, q2, _⟩ := hr.obj b o ho hst
      rw [q2, hesz, Nat.mul_one] at g1
      exact g1
    refine ⟨hsame.trans hsame1, rfl, fun w2 hw2 => ?_⟩
    have e3' : ∀ j v, (ns.map (Value.int .u8))[j]? = some v → w2.cell? ⟨(ρ b).blk, (ρ b).shift + off + j, none⟩ = some v := by
      intro j v hj
      have hjn : j < n := by rw [← e1]; exact (List.getElem?_eq_some_iff.1 hj).1
      rw [Nat.add_assoc, hw2 b off n c rfl (off + j) (by omega), ← Nat.add_assoc]
      exact e3 j v hj
    have hout : ∀ a c', (loadCells a n).run P w2 = .ok (ns.map (Value.int .u8)).toArray w2 → (convert src dst (.slice (some a) n c')).run P w2 = .ok (.string ⟨(ns.map fun n => UInt8.ofNat n.toNat).toArray⟩) w2 := by
      intro a c' hload
      rw [run_convert_bytes_string w2 src dst e _ _ _ hs he hd, run_bytesToString w2 _ _ _ _ hload, fold_push]
      have he0 : ByteArray.empty.data = #[] := rfl
      rw [he0]
      simp
    rcases hx2 with ⟨c', rfl, _⟩ | ⟨rfl, hoff, x0, rfl⟩
    · rw [hout]
      have := run_loadCells_list (P := P) w2 (ρ.addr ⟨b, off, none⟩) (ns.map (Value.int .u8)) (fun j v hv => by rw [addr_add]; exact e3' j v hv)
      rw [e1] at this
      exact this
    · rw [hout]
      have : ns = [] := List.length_eq_zero_iff.1 (by simpa using e1)
      subst this
      simp [loadCells, loadCellsFrom]
  · cases h
theorem evBytesToStr_spec {ρ : Rho} {s s' : St} {w : World} {src dst : TypeId} {x x' v : Value} (h : evBytesToStr P src dst x s = some (v, s')) (hh : s'.Holds)
    (hr : HRel P B ρ s.heap w) (hx : VRel s.heap.size ρ x x') : Gives P B ρ s w v s' ((convert src dst x').run P w) := by
  obtain ⟨h1, h2, h3⟩ := evBytesToStr_pin h hh hr hx
  rw [h3 w fun _ _ _ _ _ _ _ => rfl]
  exact gives_same hr h1 (.flat h2)
end Go.Ev
