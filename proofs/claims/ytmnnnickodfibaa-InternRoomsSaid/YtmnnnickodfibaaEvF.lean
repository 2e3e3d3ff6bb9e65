/- THE EVALUATOR: the other operations. -/
import Derived.Test.YtmnnnickodfibaaEvE
namespace Go.Ev
open Go.RowKit
variable {P : Program} {B : Nat}

theorem evFieldAddr_spec {ρ : Rho} {s s' : St} {w : World} {ty : TypeId} {f : Nat} {a a' v : Value} (h : evFieldAddr P ty a f s = some (v, s'))
    (hr : HRel P B ρ s.heap w) (ha : VRel s.heap.size ρ a a') : Gives P B ρ s w v s' ((Instr.fieldAt ty a' f).run P w) := by
  unfold evFieldAddr at h
  split at h
  case h_2 => cases h
  rename_i b off fields hu
  obtain ⟨rfl, hb⟩ := ptr_inv ha
  split at h
  case h_2 => cases h
  rename_i fd hf
  split at h
  case h_2 => cases h
  rename_i i hi
  split at h
  case isTrue => cases h
  rename_i hz
  simp only [Option.some.injEq, Prod.mk.injEq] at h
  obtain ⟨rfl, rfl⟩ := h
  have hadd : ρ.addr ⟨b, off, none⟩ = ⟨(ρ b).blk, (ρ b).shift + off, none⟩ := rfl
  have : (Instr.fieldAt ty (.pointer (some (ρ.addr ⟨b, off, none⟩))) f).run P w = .ok (.pointer (some (ρ.addr ⟨b, off + fd.offset, none⟩))) w := by
    rw [hadd]
    simp [Instr.fieldAt, Instr.sureAddr, Sem.run_bind, run_underlying hu, hf, fieldPlace, sizeOf, typeInfo, hi, hz, Addr.add_mid, Rho.addr, Nat.add_assoc]
  rw [this]
  exact gives_same hr (.refl _) (.ptr hb)

theorem int_inv {n : Nat} {ρ : Rho} {k : IntKind} {i : Int} {u : Value} (h : VRel n ρ (.int k i) u) : u = .int k i := h.eq_of_flat rfl

theorem slice_inv {n : Nat} {ρ : Rho} {b off l c : Nat} {u : Value} (h : VRel n ρ (.slice (some ⟨b, off, none⟩) l c) u) :
    Ok n ρ b ∧ 0 < (ρ b).esz ∧ off + l * (ρ b).esz ≤ (ρ b).size ∧ ((∃ c', u = .slice (some (ρ.addr ⟨b, off, none⟩)) l c' ∧ (ρ b).size ≤ off + c' * (ρ b).esz ∧ (ρ b).shift + off + c' * (ρ b).esz ≤ (ρ b).room ∧ l ≤ c') ∨
      (l = 0 ∧ off = (ρ b).size ∧ ∃ x, u = .slice (some x) 0 0)) := by
  cases h with
  | any h _ => cases h
  | flat hf => simp [flat] at hf
  | slice hb he h1 h2 h3 h4 => exact ⟨hb, he, h1, .inl ⟨_, rfl, h2, h3, h4⟩⟩
  | slice0 hb he ho => exact ⟨hb, he, by omega, .inr ⟨rfl, ho, _, rfl⟩⟩

theorem evIndexAddr_spec {ρ : Rho} {s s' : St} {w : World} {ty : TypeId} {x x' ix ix' v : Value} (h : evIndexAddr P ty x ix s = some (v, s')) (hh : s'.Holds)
    (hr : HRel P B ρ s.heap w) (hx : VRel s.heap.size ρ x x') (hi : VRel s.heap.size ρ ix ix') : Gives P B ρ s w v s' ((Instr.indexAt ty x' ix').run P w) := by
  unfold evIndexAddr at h
  split at h
  · rename_i k i b off len c elem hu
    split at h
    case h_2 => cases h
    rename_i e s1 he hn
    simp only [Option.some.injEq, Prod.mk.injEq] at h
    obtain ⟨rfl, rfl⟩ := h
    obtain ⟨hs, hc⟩ := need_spec hn
    have hc := hc hh
    simp only [decide_eq_true_eq] at hc
    obtain ⟨hb, _, _, ⟨c', rfl, _⟩ | ⟨rfl, _⟩⟩ := slice_inv hx
    case inr => omega
    have := int_inv hi
    subst this
    have hrun : (Instr.indexAt ty (.slice (some (ρ.addr ⟨b, off, none⟩)) len c') (.int k i)).run P w = .ok (.pointer (some (ρ.addr ⟨b, off + i.toNat * e.size, none⟩))) w := by
      simp [Instr.indexAt, asIntOf, Sem.run_bind, run_underlying hu, hc.1, hc.2, sizeOf, typeInfo, he, Addr.add_mid, Rho.addr, Nat.add_assoc]
    rw [hrun]
    exact gives_same hr hs (.ptr hb)
  · rename_i k i b off len elem hu
    split at h
    case h_2 => cases h
    rename_i e s1 he hn
    simp only [Option.some.injEq, Prod.mk.injEq] at h
    obtain ⟨rfl, rfl⟩ := h
    obtain ⟨hs, hc⟩ := need_spec hn
    have hc := hc hh
    simp only [decide_eq_true_eq] at hc
    obtain ⟨rfl, hb⟩ := ptr_inv hx
    have := int_inv hi
    subst this
    have hrun : (Instr.indexAt ty (.pointer (some (ρ.addr ⟨b, off, none⟩))) (.int k i)).run P w = .ok (.pointer (some (ρ.addr ⟨b, off + i.toNat * e.size, none⟩))) w := by
      simp [Instr.indexAt, Instr.sureAddr, asIntOf, Sem.run_bind, run_underlying hu, hc.1, hc.2, sizeOf, typeInfo, he, Addr.add_mid, Rho.addr, Nat.add_assoc]
    rw [hrun]
    exact gives_same hr hs (.ptr hb)
  · cases h

theorem agg_inv {n : Nat} {ρ : Rho} {cs : Array Value} {u : Value} (h : VRel n ρ (.agg cs) u) : ∃ cs', u = .agg cs' ∧ cs.size = cs'.size ∧ ∀ (i : Nat) (h1 : i < cs.size) (h2 : i < cs'.size), VRel n ρ cs[i] cs'[i] := by
  cases h with
  | any h _ => cases h
  | flat hf => exact ⟨cs, rfl, rfl, fun i h1 _ => .flat (by simp only [flat, flatA_all] at hf; exact hf _ (by simp))⟩
  | agg hs h => exact ⟨_, rfl, hs, h⟩

theorem extract_rel {n : Nat} {ρ : Rho} {cs cs' : Array Value} (hs : cs.size = cs'.size) (h : ∀ (i : Nat) (h1 : i < cs.size) (h2 : i < cs'.size), VRel n ρ cs[i] cs'[i]) (a b : Nat) :
    VRel n ρ (.agg (cs.extract a b)) (.agg (cs'.extract a b)) := by
  refine .agg (by simp [hs]) fun i h1 h2 => ?_
  simp only [Array.getElem_extract]
  exact h _ _ _

theorem get_rel {n : Nat} {ρ : Rho} {cs cs' : Array Value} {i : Nat} {v : Value} (hs : cs.size = cs'.size) (h : ∀ (i : Nat) (h1 : i < cs.size) (h2 : i < cs'.size), VRel n ρ cs[i] cs'[i]) (hv : cs[i]? = some v) :
    ∃ v', cs'[i]? = some v' ∧ VRel n ρ v v' := by
  obtain ⟨hlt, rfl⟩ := Array.getElem?_eq_some_iff.1 hv
  exact ⟨cs'[i], Array.getElem?_eq_getElem _, h i hlt (by omega)⟩

theorem evField_spec {ρ : Rho} {s s' : St} {w : World} {ty : TypeId} {f : Nat} {x x' v : Value} (h : evField P ty x f s = some (v, s'))
    (hr : HRel P B ρ s.heap w) (hx : VRel s.heap.size ρ x x') : Gives P B ρ s w v s' ((Instr.field ty x' f).run P w) := by
  unfold evField at h
  split at h
  case h_2 => cases h
  rename_i cs fields hu
  obtain ⟨cs', rfl, hs, hc⟩ := agg_inv hx
  split at h
  case h_2 => cases h
  rename_i fd hf
  split at h
  · rename_i i hi hagg
    simp only [Option.some.injEq, Prod.mk.injEq] at h
    obtain ⟨rfl, rfl⟩ := h
    have hrun : (Instr.field ty (.agg cs') f).run P w = .ok (.agg (cs'.extract fd.offset (fd.offset + i.size))) w := by
      simp [Instr.field, Sem.run_bind, run_underlying hu, hf, asAgg, part, isAggT_run hagg, sizeOf, typeInfo, hi]
    rw [hrun]
    exact gives_same hr (.refl _) (extract_rel hs hc _ _)
  · rename_i i hi hagg
    split at h
    · rename_i u hget
      simp only [Option.some.injEq, Prod.mk.injEq] at h
      obtain ⟨rfl, rfl⟩ := h
      obtain ⟨u', hu', hv⟩ := get_rel hs hc hget
      have hrun : (Instr.field ty (.agg cs') f).run P w = .ok u' w := by
        simp [Instr.field, Sem.run_bind, run_underlying hu, hf, asAgg, part, isAggT_run hagg, hu']
      rw [hrun]
      exact gives_same hr (.refl _) hv
    · cases h
  · cases h

theorem evIndex_spec {ρ : Rho} {s s' : St} {w : World} {ty : TypeId} {x x' ix ix' v : Value} (h : evIndex P ty x ix s = some (v, s')) (hh : s'.Holds)
    (hr : HRel P B ρ s.heap w) (hx : VRel s.heap.size ρ x x') (hi : VRel s.heap.size ρ ix ix') : Gives P B ρ s w v s' ((Instr.index ty x' ix').run P w) := by
  unfold evIndex at h
  split at h
  · rename_i k i str hu
    split at h
    case h_2 => cases h
    rename_i s1 hn
    simp only [Option.some.injEq, Prod.mk.injEq] at h
    obtain ⟨rfl, rfl⟩ := h
    obtain ⟨hs, hc⟩ := need_spec hn
    have hc := hc hh
    simp only [decide_eq_true_eq] at hc
    have := hx.eq_of_flat rfl
    subst this
    have := int_inv hi
    subst this
    have hlt : i.toNat < str.size := by omega
    have hrun : (Instr.index ty (.string str) (.int k i)).run P w = .ok (.int .u8 ((str.data.getD i.toNat 0).toNat : Int)) w := by
      have hg : str[i.toNat]? = some (str.data.getD i.toNat 0) := by
        rw [getElem?_pos str i.toNat hlt]
        have h2 : i.toNat < str.data.size := hlt
        simp only [Array.getD, h2, dif_pos]
        rfl
      simp [Instr.index, asIntOf, Sem.run_bind, run_underlying hu, hc.1, hg]
    rw [hrun]
    exact gives_same hr hs (.flat rfl)
  · rename_i k i cs len elem hu
    obtain ⟨cs', rfl, hsz, hcs⟩ := agg_inv hx
    have := int_inv hi
    subst this
    split at h
    · rename_i e s1 he hagg hn
      simp only [Option.some.injEq, Prod.mk.injEq] at h
      obtain ⟨rfl, rfl⟩ := h
      obtain ⟨hs, hc⟩ := need_spec hn
      have hc := hc hh
      simp only [decide_eq_true_eq] at hc
      have hrun : (Instr.index ty (.agg cs') (.int k i)).run P w = .ok (.agg (cs'.extract (i.toNat * e.size) (i.toNat * e.size + e.size))) w := by
        simp [Instr.index, asIntOf, Sem.run_bind, run_underlying hu, hc.1, hc.2, part, isAggT_run hagg, sizeOf, typeInfo, he]
      rw [hrun]
      exact gives_same hr hs (extract_rel hsz hcs _ _)
    · rename_i e s1 he hagg hn
      split at h
      · rename_i u hget
        simp only [Option.some.injEq, Prod.mk.injEq] at h
        obtain ⟨rfl, rfl⟩ := h
        obtain ⟨hs, hc⟩ := need_spec hn
        have hc := hc hh
        simp only [decide_eq_true_eq] at hc
        obtain ⟨u', hu', hv⟩ := get_rel hsz hcs hget
        have hrun : (Instr.index ty (.agg cs') (.int k i)).run P w = .ok u' w := by
          simp [Instr.index, asIntOf, Sem.run_bind, run_underlying hu, hc.1, hc.2, part, isAggT_run hagg, sizeOf, typeInfo, he, hu']
        rw [hrun]
        exact gives_same hr hs hv
      · cases h
    · cases h
  · cases h

theorem evBounds_spec {s s' : St} {len cap cap' l h0 : Nat} {lo hi : Option Value} (hb : evBounds len cap lo hi s = some (l, h0, s')) (hh : s'.Holds) (hcap : cap ≤ cap') (hlen : len ≤ cap) (isS : Bool) :
    Same s s' ∧ l ≤ h0 ∧ h0 ≤ cap ∧ ∀ w, (Instr.sliceBounds isS len cap' lo hi none).run P w = .ok (l, h0, cap') w := by
  unfold evBounds at hb
  split at hb
  case h_2 => cases hb
  rename_i h1 s1 hm
  have key : s1.Holds → Same s s1 ∧ h1 ≤ cap ∧ ∀ w, ((match hi, (none : Option Value) with
    | some v, some _ => Instr.sliceBound v cap' .slice3B
    | some v, none => Instr.sliceBound v cap' (if isS then .sliceAcap else .sliceAlen)
    | none, none => pure len
    | none, some _ => stuck "Slice: max without high") : Sem Nat).run P w = .ok h1 w := by
    intro hs1
    split at hm
    · simp only [Option.some.injEq, Prod.mk.injEq] at hm
      obtain ⟨rfl, rfl⟩ := hm
      exact ⟨.refl _, hlen, fun w => rfl⟩
    · rename_i k x
      split at hm
      case h_2 => cases hm
      rename_i s2 hn
      simp only [Option.some.injEq, Prod.mk.injEq] at hm
      obtain ⟨rfl, rfl⟩ := hm
      obtain ⟨hs, hc⟩ := need_spec hn
      have hc := hc hs1
      simp only [decide_eq_true_eq] at hc
      refine ⟨hs, by omega, fun w => ?_⟩
      have : 0 ≤ x ∧ x ≤ (cap' : Int) := by omega
      simp [Instr.sliceBound, asIntOf, this.1, this.2]
    · cases hm
  split at hb
  · simp only [Option.some.injEq, Prod.mk.injEq] at hb
    obtain ⟨rfl, rfl, rfl⟩ := hb
    obtain ⟨k1, k2, k3⟩ := key hh
    refine ⟨k1, Nat.zero_le _, k2, fun w => ?_⟩
    have := k3 w
    cases hi with
    | none => simp [Instr.sliceBounds] at this ⊢; exact this
    | some u => simp only [Instr.sliceBounds, Sem.run_bind] at this ⊢; simp [this]
  · rename_i k x
    split at hb
    case h_2 => cases hb
    rename_i s2 hn
    simp only [Option.some.injEq, Prod.mk.injEq] at hb
    obtain ⟨rfl, rfl, rfl⟩ := hb
    obtain ⟨hs, hc⟩ := need_spec hn
    have hc := hc hh
    simp only [decide_eq_true_eq] at hc
    obtain ⟨k1, k2, k3⟩ := key (hs.holds hh)
    refine ⟨k1.trans hs, by omega, k2, fun w => ?_⟩
    have := k3 w
    have hl : (Instr.sliceBound (.int k x) h1 .sliceB).run P w = .ok x.toNat w := by simp [Instr.sliceBound, asIntOf, hc.1, hc.2]
    cases hi with
    | none =>
      simp at this
      subst this
      simp [Instr.sliceBounds, hl]
    | some u => simp only [Instr.sliceBounds, Sem.run_bind] at this ⊢; simp [this, hl]
  · cases hb

theorem evSlice_spec {ρ : Rho} {s s' : St} {w : World} {ty : TypeId} {x x' v : Value} {lo hi lo' hi' : Option Value} (h : evSlice P ty x lo hi none s = some (v, s')) (hh : s'.Holds)
    (hr : HRel P B ρ s.heap w) (hx : VRel s.heap.size ρ x x') (hlo : lo' = lo) (hhi : hi' = hi) : Gives P B ρ s w v s' ((Instr.sliceAt ty x' lo' hi' none).run P w) := by
  subst hlo hhi
  unfold evSlice at h
  split at h
  · rename_i str _ hu
    have := hx.eq_of_flat rfl
    subst this
    split at h
    case h_2 => cases h
    rename_i l h1 s1 hb
    simp only [Option.some.injEq, Prod.mk.injEq] at h
    obtain ⟨rfl, rfl⟩ := h
    obtain ⟨hs, hl, hc, hrun⟩ := evBounds_spec (P := P) hb hh (Nat.le_refl _) (Nat.le_refl _) false
    have : (Instr.sliceAt ty (.string str) lo' hi' none).run P w = .ok (.string (str.extract l h1)) w := by
      simp [Instr.sliceAt, Instr.slice, Sem.run_bind, run_underlying hu, hrun]
    rw [this]
    exact gives_same hr hs (.flat rfl)
  · rename_i b off len c elem _ hu
    split at h
    case h_2 => cases h
    rename_i e o he ho
    split at h
    case isFalse => cases h
    rename_i hg
    split at h
    case h_2 => cases h
    rename_i l h1 s1 hb
    simp only [Option.some.injEq, Prod.mk.injEq] at h
    obtain ⟨rfl, rfl⟩ := h
    obtain ⟨hbn, hesz, g1, hx2⟩ := slice_inv hx
    obtain ⟨ho1, ho2⟩ := live_spec ho
    obtain ⟨z1, z2, _, _⟩ := hr.obj b o ho1 ho2
    obtain ⟨hge, hepos⟩ := hg
    have hes : (ρ b).esz = e.size := by rw [z2, hge]
    rw [hes, z1] at g1
    have hlen : len ≤ (o.cells.size - off) / e.size := by
      rw [Nat.le_div_iff_mul_le hepos]; omega
    have hdiv : (o.cells.size - off) / e.size * e.size ≤ o.cells.size - off := Nat.div_mul_le_self _ _
    rcases hx2 with ⟨c', rfl, g2, g3, g4⟩ | ⟨rfl, hoff, x0, rfl⟩
    · rw [hes, z1] at g2
      rw [hes] at g3
      have hcap : (o.cells.size - off) / e.size ≤ c' := by
        have : (o.cells.size - off) / e.size ≤ (c' * e.size) / e.size := Nat.div_le_div_right (by omega)
        rwa [Nat.mul_div_cancel _ hepos] at this
      obtain ⟨hs, hl, hc, hrun⟩ := evBounds_spec (P := P) hb hh hcap hlen true
      have hle : h1 * e.size ≤ o.cells.size - off := Nat.le_trans (Nat.mul_le_mul_right _ hc) hdiv
      have hle2 : l * e.size ≤ h1 * e.size := Nat.mul_le_mul_right _ hl
      have hsub : (h1 - l) * e.size = h1 * e.size - l * e.size := Nat.sub_mul _ _ _
      have hsub2 : (c' - l) * e.size = c' * e.size - l * e.size := Nat.sub_mul _ _ _
      have hlc : l * e.size ≤ c' * e.size := Nat.mul_le_mul_right _ (by omega)
      have hrun2 : (Instr.sliceAt ty (.slice (some (ρ.addr ⟨b, off, none⟩)) len c') lo' hi' none).run P w = .ok (.slice (some (if c' = l then ρ.addr ⟨b, off, none⟩ else (ρ.addr ⟨b, off, none⟩).add (l * e.size))) (h1 - l) (c' - l)) w := by
        simp [Instr.sliceAt, Instr.slice, Sem.run_bind, run_underlying hu, hrun, sizeOf, typeInfo, he]
        split <;> rfl
      rw [hrun2]
      refine gives_same hr hs ?_
      by_cases hcl : c' = l
      · subst hcl
        rw [if_pos rfl, Nat.sub_self]
        have hz : h1 - c' = 0 := by omega
        rw [hz]
        exact .slice0 hbn hesz (by rw [z1]; omega)
      · rw [if_neg hcl]
        have := @VRel.slice s.heap.size ρ b (off + l * e.size) (h1 - l) 0 (c' - l) hbn hesz (by rw [hes, z1]; omega) (by rw [hes, z1]; omega) (by rw [hes]; omega) (by omega)
        rw [addr_add]
        simpa [Rho.addr, Nat.add_assoc] using this
    · rw [z1] at hoff
      have hq : (o.cells.size - off) / e.size = 0 := by rw [hoff, Nat.sub_self]; simp
      rw [hq] at hb
      obtain ⟨hs, hl, hc, hrun⟩ := evBounds_spec (P := P) hb hh (Nat.le_refl 0) (Nat.le_refl 0) true
      have h10 : h1 = 0 := by omega
      have hl0 : l = 0 := by omega
      subst h10 hl0
      have hrun2 : (Instr.sliceAt ty (.slice (some x0) 0 0) lo' hi' none).run P w = .ok (.slice (some x0) 0 0) w := by
        simp [Instr.sliceAt, Instr.slice, Sem.run_bind, run_underlying hu, hrun, sizeOf, typeInfo, he]
      rw [hrun2]
      exact gives_same hr hs (.slice0 hbn hesz (by rw [z1]; omega))
  · rename_i elem _ hu
    have := hx.eq_of_flat rfl
    subst this
    split at h
    case h_2 => cases h
    rename_i e he
    split at h
    case h_2 => cases h
    rename_i l h1 s1 hb
    simp only [Option.some.injEq, Prod.mk.injEq] at h
    obtain ⟨rfl, rfl⟩ := h
    obtain ⟨hs, hl, hc, hrun⟩ := evBounds_spec (P := P) hb hh (Nat.le_refl _) (Nat.le_refl _) true
    have h10 : h1 = 0 := by omega
    have hl0 : l = 0 := by omega
    subst h10 hl0
    have : (Instr.sliceAt ty (.slice none 0 0) lo' hi' none).run P w = .ok (.slice none 0 0) w := by
      simp [Instr.sliceAt, Instr.slice, Sem.run_bind, run_underlying hu, hrun, sizeOf, typeInfo, he]
    rw [this]
    exact gives_same hr hs (.flat rfl)
  · rename_i elem _ hu
    cases hx with
    | flat hf => simp [flat] at hf
    | any h _ => cases h
    | noRoom =>
    rename_i x0
    split at h
    case h_2 => cases h
    rename_i e he
    split at h
    case h_2 => cases h
    rename_i l h1 s1 hb
    simp only [Option.some.injEq, Prod.mk.injEq] at h
    obtain ⟨rfl, rfl⟩ := h
    obtain ⟨hs, hl, hc, hrun⟩ := evBounds_spec (P := P) hb hh (Nat.le_refl 0) (Nat.le_refl 0) true
    have h10 : h1 = 0 := by omega
    have hl0 : l = 0 := by omega
    subst h10 hl0
    have : (Instr.sliceAt ty (.slice (some x0) 0 0) lo' hi' none).run P w = .ok (.slice (some x0) 0 0) w := by
      simp [Instr.sliceAt, Instr.slice, Sem.run_bind, run_underlying hu, hrun, sizeOf, typeInfo, he]
    rw [this]
    exact gives_same hr hs .noRoom
  · cases h
theorem zeroInt_eq {v : Value} (h : zeroInt v = true) : ∃ k, v = .int k 0 := by
  unfold zeroInt at h
  split at h
  · exact ⟨_, rfl⟩
  · cases h
theorem HRel.part {ρ : Rho} {H : Array AObj} {w : World} (h : HRel P B ρ H w) (b : Nat) (o : AObj) (ho : H[b]? = some o) (hst : o.st = 1) (off m esz : Nat) (hfit : off + m ≤ o.cells.size) (sym : Bool) :
    HRel P B (upd ρ H.size ⟨(ρ b).blk, (ρ b).shift + off, m, esz, (ρ b).shift + off + m, false⟩)
      ((H.setIfInBounds b { o with st := 3 }).push { cells := o.cells.extract off (off + m), esz := esz, st := 0, prev := [], sym := sym }) w := by
  obtain ⟨hsz, hesz, hblk, hcells⟩ := h.obj b o ho (by omega)
  obtain ⟨hthere, hroom, hapart⟩ := h.head b o ho hst
  have hblt : b < H.size := (Array.getElem?_eq_some_iff.1 ho).1
  generalize hL : (⟨(ρ b).blk, (ρ b).shift + off, m, esz, (ρ b).shift + off + m, false⟩ : Loc) = L
  generalize hO : ({ cells := o.cells.extract off (off + m), esz := esz, st := 0, prev := [], sym := sym } : AObj) = O
  have hOsize : O.cells.size = m := by subst hO; simp; omega
  have hold : ∀ i, i < H.size → upd ρ H.size L i = ρ i := fun i hi => upd_other _ _ (by omega)
  have hget : ∀ id x, ((H.setIfInBounds b { o with st := 3 }).push O)[id]? = some x → x.st < 3 → (id ≠ b ∧ id < H.size ∧ H[id]? = some x) ∨ (id = H.size ∧ x = O) := by
    intro id x hx hx3
    rw [Array.getElem?_push] at hx
    split at hx
    · rename_i e; simp at hx e; exact .inr ⟨e, hx.symm⟩
    · rw [Array.getElem?_setIfInBounds] at hx
      by_cases hid : b = id
      · subst hid
        rw [if_pos rfl, if_pos hblt] at hx
        simp only [Option.some.injEq] at hx
        subst hx
        simp at hx3
      · rw [if_neg hid] at hx
        exact .inl ⟨Ne.symm hid, (Array.getElem?_eq_some_iff.1 hx).1, hx⟩
  have hsz2 : ((H.setIfInBounds b { o with st := 3 }).push O).size = H.size + 1 := by simp
  refine ⟨⟨by rw [hsz2]; have := h.glob.1; omega, fun g hg => ?_⟩, h.base, fun id x hx hx3 => ?_, fun id x hx hx3 => ?_, fun id x hx hx3 => ?_⟩
  · rw [hold g (by have := h.glob.1; omega)]; exact h.glob.2 g hg
  · rcases hget id x hx hx3 with ⟨_, hlt, hxx⟩ | ⟨rfl, rfl⟩
    · rw [hold id hlt]
      obtain ⟨h1, h2, h3, h4⟩ := h.obj id x hxx hx3
      refine ⟨h1, h2, h3, fun j hj => ?_⟩
      obtain ⟨c', e1, e2, e3⟩ := h4 j hj
      exact ⟨c', e1, e2, e3.mono (by rw [hsz2]; omega) hold⟩
    · rw [upd_same]
      refine ⟨by rw [hOsize, ← hL], by rw [← hO, ← hL], by rw [← hL]; exact hblk, fun j hj => ?_⟩
      rw [hOsize] at hj
      obtain ⟨c', e1, e2, e3⟩ := hcells (off + j) (by omega)
      have hc : x.cells[j] = o.cells[off + j] := by subst hO; simp
      refine ⟨c', ?_, by rw [hc]; exact e2, by rw [hc]; exact e3.mono (by rw [hsz2]; omega) hold⟩
      rw [← hL]
      simpa [Nat.add_assoc] using e1
  · rcases hget id x hx (by rcases hx3 with h | h <;> omega) with ⟨_, hlt, hxx⟩ | ⟨rfl, rfl⟩
    · rw [hold id hlt]; exact h.own id x hxx hx3
    · subst hO; simp at hx3
  · rcases hget id x hx (by omega) with ⟨hne, hlt, hxx⟩ | ⟨rfl, rfl⟩
    · rw [hold id hlt]
      obtain ⟨e1, e2, e3⟩ := h.head id x hxx hx3
      refine ⟨e1, e2, fun id2 o2 hx2 hs2 hne2 hblk2 => ?_⟩
      rcases hget id2 o2 hx2 hs2 with ⟨_, hlt2, hxx2⟩ | ⟨rfl, rfl⟩
      · rw [hold id2 hlt2] at hblk2 ⊢
        exact e3 id2 o2 hxx2 hs2 hne2 hblk2
      · exfalso
        rw [upd_same, ← hL] at hblk2
        have := e3 b o ho (by omega) (Ne.symm hne) hblk2
        exact this.2.1 hst
    · subst hO; simp at hx3
theorem own_specA {s : St} {b : Nat} {o : AObj} (h : own s b = some o) : s.heap[b]? = some o ∧ o.st = 1 := by
  unfold own at h
  rw [getQ_eq] at h
  split at h
  · split at h
    · rename_i o2 ho hs
      simp only [Option.some.injEq] at h; subst h
      exact ⟨ho, hs⟩
    · cases h
  · cases h
theorem evSliceArr_spec {ρ : Rho} {s s' : St} {w : World} {ty : TypeId} {n : Nat} {elem : TypeId} {x x' v : Value} {hi hi' : Option Value} (hu : P.underlying ty = some (.array n elem)) (h : evSliceArr P n elem x hi s = some (v, s')) (hh : s'.Holds)
    (hr : HRel P B ρ s.heap w) (hx : VRel s.heap.size ρ x x') (hhi : hi' = hi) : Gives P B ρ s w v s' ((Instr.sliceAt ty x' none hi' none).run P w) := by
  subst hhi
  unfold evSliceArr at h
  split at h
  case h_2 => cases h
  rename_i b off k hz e he
  split at h
  case h_2 => cases h
  rename_i o ho
  split at h
  case h_2 => cases h
  rename_i s1 hn
  simp only [lenQ_eq, pushQ_eq, setQ_eq, exQ_eq, Option.some.injEq, Prod.mk.injEq] at h
  obtain ⟨rfl, rfl⟩ := h
  obtain ⟨hsame, hc⟩ := need_spec hn
  have hc := hc hh
  simp only [decide_eq_true_eq] at hc
  obtain ⟨c1, c2, c3, c4⟩ := hc
  obtain ⟨ho1, ho2⟩ := own_specA ho
  obtain ⟨rfl, hbok⟩ := ptr_inv hx
  have hob : s.heap[b]? = some o := ho1
  have hbid : b < s.heap.size := (Array.getElem?_eq_some_iff.1 hob).1
  have hR := hr.part b o hob ho2 off (n * e.size) e.size c4 o.sym
  generalize hL : (⟨(ρ b).blk, (ρ b).shift + off, n * e.size, e.size, (ρ b).shift + off + n * e.size, false⟩ : Loc) = L at hR
  have hr1 := upd_same ρ s.heap.size L
  have hle : hz.toNat ≤ n := by omega
  have hle2 : hz.toNat * e.size ≤ n * e.size := Nat.mul_le_mul_right _ hle
  have hbd : (Instr.sliceBound (.int k hz) n .sliceAlen).run P w = .ok hz.toNat w := by simp [Instr.sliceBound, asIntOf, c1, c2]
  have hrun : (Instr.sliceAt ty (.pointer (some (ρ.addr ⟨b, off, none⟩))) none (some (.int k hz)) none).run P w = .ok (.slice (some (ρ.addr ⟨b, off, none⟩)) hz.toNat n) w := by
    simp [Instr.sliceAt, Sem.run_bind, run_underlying hu, Instr.sliceBounds, hbd, Instr.sureAddr, sizeOf, typeInfo, he, Addr.add]
  rw [hrun]
  refine ⟨_, w, upd ρ s.heap.size L, rfl, ?_, by rw [hsame.heap]; exact hR, ?_⟩
  · have := @VRel.slice (s.heap.size + 1) (upd ρ s.heap.size L) s.heap.size 0 hz.toNat 0 n ⟨by omega, by rw [hr1, ← hL]⟩ (by rw [hr1, ← hL]; exact c3) (by rw [hr1, ← hL]; simp only; omega) (by rw [hr1, ← hL]; simp only; omega) (by rw [hr1, ← hL]; simp only; omega) hle
    have hL0 : (upd ρ s.heap.size L).addr ⟨s.heap.size, 0, none⟩ = ρ.addr ⟨b, off, none⟩ := by
      rw [Rho.addr, Rho.addr]; simp only [hr1]; rw [← hL]; simp
    rw [hL0] at this
    simp only [Array.size_push, Array.size_setIfInBounds, hsame.heap]
    exact this
  · rw [hsame.heap]
    refine ⟨fun id hid => upd_other _ _ ?_, by simp, by show s1.low ≤ _; rw [hsame.low]; exact Nat.le_refl _, fun id h1 _ o' ho' => ?_, Below.refl _ _, hsame.cons, fun id x x' hx hx' => ?_⟩
    · simp only [Array.size_push, Array.size_setIfInBounds] at hid; omega
    · simp only at ho'
      rw [Array.getElem?_push, if_neg (by simp; omega), Array.getElem?_setIfInBounds] at ho'
      split at ho'
      · rename_i e1
        subst e1

        simp only [Option.some.injEq] at ho'
        subst ho'
        exact ⟨o, hob, fun _ => by omega, .inl rfl⟩
      · exact ⟨o', ho', fun h => h, .inl rfl⟩
    · have hlt := (Array.getElem?_eq_some_iff.1 hx).1
      simp only at hx'
      rw [Array.getElem?_push, if_neg (by simp; omega), Array.getElem?_setIfInBounds] at hx'
      split at hx'
      · rename_i e1
        subst e1
        rw [hob] at hx; cases hx

        simp only [Option.some.injEq] at hx'
        subst hx'
        exact ⟨Nat.le_refl _, fun hlt3 => by simp at hlt3⟩
      · rw [hx] at hx'; cases hx'
        exact ⟨Nat.le_refl _, fun hst => ⟨hst, fun _ j _ => rfl⟩⟩
theorem evSliceAny_spec {ρ : Rho} {s s' : St} {w : World} {ty : TypeId} {x x' v : Value} {lo hi lo' hi' : Option Value} (h : evSliceAny P ty x lo hi s = some (v, s')) (hh : s'.Holds)
    (hr : HRel P B ρ s.heap w) (hx : VRel s.heap.size ρ x x') (hlo : lo' = lo) (hhi : hi' = hi) : Gives P B ρ s w v s' ((Instr.sliceAt ty x' lo' hi' none).run P w) := by
  unfold evSliceAny at h
  split at h
  · rename_i hu
    subst hlo
    exact evSliceArr_spec hu h hh hr hx hhi
  · exact evSlice_spec h hh hr hx hlo hhi

theorem evSlice0_spec {ρ : Rho} {s s' : St} {w : World} {ty : TypeId} {x x' v hi mx : Value} (h : evSlice0 P ty x hi mx s = some (v, s'))
    (hr : HRel P B ρ s.heap w) (hx : VRel s.heap.size ρ x x') : Gives P B ρ s w v s' ((Instr.sliceAt ty x' none (some hi) (some mx)).run P w) := by
  unfold evSlice0 at h
  split at h
  case h_2 => cases h
  rename_i elem hu hz
  simp only [Bool.and_eq_true] at hz
  obtain ⟨k1, rfl⟩ := zeroInt_eq hz.1
  obtain ⟨k2, rfl⟩ := zeroInt_eq hz.2
  split at h
  case h_2 => cases h
  rename_i e he
  have key : ∀ (a : Option Addr) (len cap : Nat), (Instr.sliceAt ty (.slice a len cap) none (some (.int k1 0)) (some (.int k2 0))).run P w = .ok (.slice a 0 0) w := by
    intro a len cap
    simp [Instr.sliceAt, Instr.slice, Instr.sliceBounds, Instr.sliceBound, asIntOf, Sem.run_bind, run_underlying hu, sizeOf, typeInfo, he]
  split at h
  · simp only [Option.some.injEq, Prod.mk.injEq] at h
    obtain ⟨rfl, rfl⟩ := h
    have := hx.eq_of_flat rfl
    subst this
    rw [key]
    exact gives_same hr (.refl _) (.flat rfl)
  · simp only [Option.some.injEq, Prod.mk.injEq] at h
    obtain ⟨rfl, rfl⟩ := h
    cases hx with
    | flat hf => simp [flat] at hf
    | any h _ => cases h
    | noRoom =>
      rw [key]
      exact gives_same hr (.refl _) .noRoom
  · simp only [Option.some.injEq, Prod.mk.injEq] at h
    obtain ⟨rfl, rfl⟩ := h
    cases hx with
    | flat hf => simp [flat] at hf
    | any h _ => cases h
    | slice =>
      rw [key]
      exact gives_same hr (.refl _) .noRoom
    | slice0 =>
      rw [key]
      exact gives_same hr (.refl _) .noRoom
  · cases h
theorem evSliceM_spec {ρ : Rho} {s s' : St} {w : World} {ty : TypeId} {x x' v hi mx : Value} {lo : Option Value} (h : evSliceM P ty x lo hi mx s = some (v, s')) (hh : s'.Holds)
    (hr : HRel P B ρ s.heap w) (hx : VRel s.heap.size ρ x x') : Gives P B ρ s w v s' ((Instr.sliceAt ty x' lo (some hi) (some mx)).run P w) := by
  unfold evSliceM at h
  split at h
  case h_2 => cases h
  rename_i elem b off len c l k1 h1 k2 m1 hu hlo
  split at h
  case h_2 => cases h
  rename_i e o he ho
  split at h
  case isFalse => cases h
  rename_i hg
  split at h
  case h_2 => cases h
  rename_i s1 hn
  simp only [Option.some.injEq, Prod.mk.injEq] at h
  obtain ⟨rfl, rfl⟩ := h
  obtain ⟨hs, hc⟩ := need_spec hn
  have hc := hc hh
  simp only [decide_eq_true_eq] at hc
  obtain ⟨c1, c2, c3⟩ := hc
  obtain ⟨hbn, hesz, g1, hx2⟩ := slice_inv hx
  obtain ⟨ho1, ho2⟩ := live_spec ho
  obtain ⟨z1, z2, _, _⟩ := hr.obj b o ho1 ho2
  obtain ⟨hge, hepos⟩ := hg
  have hes : (ρ b).esz = e.size := by rw [z2, hge]
  rw [hes, z1] at g1
  have hlm : (h1 - l) * e.size ≤ (m1 - l) * e.size := Nat.mul_le_mul_right _ (by omega)
  have hsub2 : (m1 - l) * e.size = m1 * e.size - l * e.size := Nat.sub_mul _ _ _
  have hlm2 : l * e.size ≤ m1 * e.size := Nat.mul_le_mul_right _ (by omega)
  obtain ⟨Hi, hHi⟩ : ∃ H : Int, H = Int.ofNat h1 := ⟨_, rfl⟩
  obtain ⟨Mx, hMx⟩ : ∃ H : Int, H = Int.ofNat m1 := ⟨_, rfl⟩
  rw [← hHi, ← hMx]
  have hHi' : Hi = (h1 : Int) := hHi
  have hMx' : Mx = (m1 : Int) := hMx
  have bnd : ∀ (k : IntKind) (x : Int) (n y : Nat) (code : BoundsCode), x = (n : Int) → n ≤ y → (Instr.sliceBound (.int k x) y code).run P w = .ok n w := by
    intro k x n y code h1 h2
    have q1 : 0 ≤ x := by omega
    have q2 : x ≤ (y : Int) := by omega
    have q3 : x.toNat = n := by omega
    simp [Instr.sliceBound, asIntOf, q1, q2, q3]
  have low : ∀ (cap : Nat), m1 ≤ cap → (Instr.sliceBounds true len cap lo (some (.int k1 Hi)) (some (.int k2 Mx))).run P w = .ok (l, h1, m1) w := by
    intro cap hcap
    have e1 := bnd k2 Mx m1 cap .slice3Acap hMx' hcap
    have e2 := bnd k1 Hi h1 m1 .slice3B hHi' c2
    split at hlo
    · simp only [Option.some.injEq] at hlo
      subst hlo
      simp [Instr.sliceBounds, Sem.run_bind, e1, e2]
    · rename_i k0 l0
      simp only [Option.some.injEq] at hlo
      subst hlo
      have e3 := bnd k0 (Int.ofNat l0) l0 h1 .slice3C rfl c1
      obtain ⟨Lo, hLo⟩ : ∃ H : Int, H = Int.ofNat l0 := ⟨_, rfl⟩
      rw [← hLo] at e3 ⊢
      simp [Instr.sliceBounds, Sem.run_bind, e1, e2, e3]
    · cases hlo
  rcases hx2 with ⟨c', rfl, g2, g3, g4⟩ | ⟨rfl, hoff, x0, rfl⟩
  · rw [hes, z1] at g2
    rw [hes] at g3
    have hcap : m1 ≤ c' := by
      have : m1 * e.size ≤ c' * e.size := by omega
      exact Nat.le_of_mul_le_mul_right this hepos
    have hmc : m1 * e.size ≤ c' * e.size := Nat.mul_le_mul_right _ hcap
    have hrun2 : (Instr.sliceAt ty (.slice (some (ρ.addr ⟨b, off, none⟩)) len c') lo (some (.int k1 Hi)) (some (.int k2 Mx))).run P w = .ok (.slice (some (if m1 = l then ρ.addr ⟨b, off, none⟩ else (ρ.addr ⟨b, off, none⟩).add (l * e.size))) (h1 - l) (m1 - l)) w := by
      simp only [Instr.sliceAt, Instr.slice]
      simp [Sem.run_bind, run_underlying hu, low c' hcap, sizeOf, typeInfo, he]
      split <;> rfl
    rw [hrun2]
    refine gives_same hr hs ?_
    by_cases hcl : m1 = l
    · subst hcl
      rw [if_pos rfl, Nat.sub_self]
      have hz : h1 - m1 = 0 := by omega
      rw [hz]
      exact .slice0 hbn hesz (by rw [z1]; omega)
    · rw [if_neg hcl]
      have := @VRel.slice s.heap.size ρ b (off + l * e.size) (h1 - l) 0 (m1 - l) hbn hesz (by rw [hes, z1]; omega) (by rw [hes, z1]; omega) (by rw [hes]; omega) (by omega)
      rw [addr_add]
      simpa [Rho.addr, Nat.add_assoc] using this
  · rw [z1] at hoff
    have hm0 : m1 = 0 := by
      have : m1 * e.size = 0 := by omega
      rcases Nat.mul_eq_zero.1 this with h | h
      · exact h
      · omega
    subst hm0
    have h10 : h1 = 0 := by omega
    have hl0 : l = 0 := by omega
    subst h10 hl0
    have hrun2 : (Instr.sliceAt ty (.slice (some x0) 0 0) lo (some (.int k1 Hi)) (some (.int k2 Mx))).run P w = .ok (.slice (some x0) 0 0) w := by
      simp only [Instr.sliceAt, Instr.slice]
      simp [Sem.run_bind, run_underlying hu, low 0 (Nat.le_refl 0), sizeOf, typeInfo, he]
    rw [hrun2]
    exact gives_same hr hs (.slice0 hbn hesz (by rw [z1]; omega))
theorem evSlice3_spec {ρ : Rho} {s s' : St} {w : World} {ty : TypeId} {x x' v hi mx : Value} {lo : Option Value} (h : evSlice3 P ty x lo hi mx s = some (v, s')) (hh : s'.Holds)
    (hr : HRel P B ρ s.heap w) (hx : VRel s.heap.size ρ x x') : Gives P B ρ s w v s' ((Instr.sliceAt ty x' lo (some hi) (some mx)).run P w) := by
  unfold evSlice3 at h
  split at h
  · exact evSlice0_spec h hr hx
  · exact evSliceM_spec h hh hr hx
end Go.Ev
