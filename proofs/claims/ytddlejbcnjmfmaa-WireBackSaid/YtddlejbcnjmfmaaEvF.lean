/- THE EVALUATOR: the other operations. -/
import Derived.Test.YtddlejbcnjmfmaaEvE
namespace Go.Ev
open Go.RowKit
variable {P : Program} {B : Nat}

theorem evFieldAddr_spec {ρ : Rho} {s s' : St} {w : World} {ty : TypeId} {f : Nat} {a a' v : Value} (h : evFieldAddr P ty a f s = some (v, s'))
    (hr : HRel P B ρ s.heap w) (ha : VRel s.heap.size ρ a a') : Gives P B ρ s w v s' ((Instr.fieldAt ty a' f).run P w) := by
  unfold evFieldAddr at h
  split at h
  case h_2 => cases h
  rename_i b off fields hu
  obtain ⟨rfl, hb⟩ := ptr_inv ha
  split at h
  case h_2 => cases h
  rename_i fd hf
  split at h
  case h_2 => cases h
  rename_i i hi
  split at h
  case isTrue => cases h
  rename_i hz
  simp only [Option.some.injEq, Prod.mk.injEq] at h
  obtain ⟨rfl, rfl⟩ := h
  have hadd : ρ.addr ⟨b, off, none⟩ = ⟨(ρ b).blk, (ρ b).shift + off, none⟩ := rfl
  have : (Instr.fieldAt ty (.pointer (some (ρ.addr ⟨b, off, none⟩))) f).run P w = .ok (.pointer (some (ρ.addr ⟨b, off + fd.offset, none⟩))) w := by
    rw [hadd]
    simp [Instr.fieldAt, Instr.sureAddr, Sem.run_bind, run_underlying hu, hf, fieldPlace, sizeOf, typeInfo, hi, hz, Addr.add_mid, Rho.addr, Nat.add_assoc]
  rw [this]
  exact gives_same hr (.refl _) (.ptr hb)

theorem int_inv {n : Nat} {ρ : Rho} {k : IntKind} {i : Int} {u : Value} (h : VRel n ρ (.int k i) u) : u = .int k i := h.eq_of_flat rfl

theorem slice_inv {n : Nat} {ρ : Rho} {b off l c : Nat} {u : Value} (h : VRel n ρ (.slice (some ⟨b, off, none⟩) l c) u) :
    Ok n ρ b ∧ 0 < (ρ b).esz ∧ off + l * (ρ b).esz ≤ (ρ b).size ∧ ((∃ c', u = .slice (some (ρ.addr ⟨b, off, none⟩)) l c' ∧ (ρ b).size ≤ off + c' * (ρ b).esz ∧ (ρ b).shift + off + c' * (ρ b).esz ≤ (ρ b).room ∧ l ≤ c') ∨
      (l = 0 ∧ off = (ρ b).size ∧ ∃ x, u = .slice (some x) 0 0)) := by
  cases h with
  | any h _ => cases h
  | flat hf => simp [flat] at hf
  | slice hb he h1 h2 h3 h4 => exact ⟨hb, he, h1, .inl ⟨_, rfl, h2, h3, h4⟩⟩
  | slice0 hb he ho => exact ⟨hb, he, by omega, .inr ⟨rfl, ho, _, rfl⟩⟩

theorem evIndexAddr_spec {ρ : Rho} {s s' : St} {w : World} {ty : TypeId} {x x' ix ix' v : Value} (h : evIndexAddr P ty x ix s = some (v, s')) (hh : s'.Holds)
    (hr : HRel P B ρ s.heap w) (hx : VRel s.heap.size ρ x x') (hi : VRel s.heap.size ρ ix ix') : Gives P B ρ s w v s' ((Instr.indexAt ty x' ix').run P w) := by
  unfold evIndexAddr at h
  split at h
  · rename_i k i b off len c elem hu
    split at h
    case h_2 => cases h
    rename_i e s1 he hn
    simp only [Option.some.injEq, Prod.mk.injEq] at h
    obtain ⟨rfl, rfl⟩ := h
    obtain ⟨hs, hc⟩ := need_spec hn
    have hc := hc hh
    simp only [decide_eq_true_eq] at hc
    obtain ⟨hb, _, _, ⟨c', rfl, _⟩ | ⟨rfl, _⟩⟩ := slice_inv hx
    case inr => omega
    have := int_inv hi
    subst this
    have hrun : (Instr.indexAt ty (.slice (some (ρ.addr ⟨b, off, none⟩)) len c') (.int k i)).run P w = .ok (.pointer (some (ρ.addr ⟨b, off + i.toNat * e.size, none⟩))) w := by
      simp [Instr.indexAt, asIntOf, Sem.run_bind, run_underlying hu, hc.1, hc.2, sizeOf, typeInfo, he, Addr.add_mid, Rho.addr, Nat.add_assoc]
    rw [hrun]
    exact gives_same hr hs (.ptr hb)
  · rename_i k i b off len elem hu
    split at h
    case h_2 => cases h
    rename_i e s1 he hn
    simp only [Option.some.injEq, Prod.mk.injEq] at h
    obtain ⟨rfl, rfl⟩ := h
    obtain ⟨hs, hc⟩ := need_spec hn
    have hc := hc hh
    simp only [decide_eq_true_eq] at hc
    obtain ⟨rfl, hb⟩ := ptr_inv hx
    have := int_inv hi
    subst this
    have hrun : (Instr.indexAt ty (.pointer (some (ρ.addr ⟨b, off, none⟩))) (.int k i)).run P w = .ok (.pointer (some (ρ.addr ⟨b, off + i.toNat * e.size, none⟩))) w := by
      simp [Instr.indexAt, Instr.sureAddr, asIntOf, Sem.run_bind, run_underlying hu, hc.1, hc.2, sizeOf, typeInfo, he, Addr.add_mid, Rho.addr, Nat.add_assoc]
    rw [hrun]
    exact gives_same hr hs (.ptr hb)
  · cases h

theorem agg_inv {n : Nat} {ρ : Rho} {cs : Array Value} {u : Value} (h : VRel n ρ (.agg cs) u) : ∃ cs', u = .agg cs' ∧ cs.size = cs'.size ∧ ∀ (i : Nat) (h1 : i < cs.size) (h2 : i < cs'.size), VRel n ρ cs[i] cs'[i] := by
  cases h with
  | any h _ => cases h
  | flat hf => exact ⟨cs, rfl, rfl, fun i h1 _ => .flat (by simp only [flat, flatA_all] at hf; exact hf _ (by simp))⟩
  | agg hs h => exact ⟨_, rfl, hs, h⟩

theorem extract_rel {n : Nat} {ρ : Rho} {cs cs' : Array Value} (hs : cs.size = cs'.size) (h : ∀ (i : Nat) (h1 : i < cs.size) (h2 : i < cs'.size), VRel n ρ cs[i] cs'[i]) (a b : Nat) :
    VRel n ρ (.agg (cs.extract a b)) (.agg (cs'.extract a b)) := by
  refine .agg (by simp [hs]) fun i h1 h2 => ?_
  simp only [Array.getElem_extract]
  exact h _ _ _

theorem get_rel {n : Nat} {ρ : Rho} {cs cs' : Array Value} {i : Nat} {v : Value} (hs : cs.size = cs'.size) (h : ∀ (i : Nat) (h1 : i < cs.size) (h2 : i < cs'.size), VRel n ρ cs[i] cs'[i]) (hv : cs[i]? = some v) :
    ∃ v', cs'[i]? = some v' ∧ VRel n ρ v v' := by
  obtain ⟨hlt, rfl⟩ := Array.getElem?_eq_some_iff.1 hv
  exact ⟨cs'[i], Array.getElem?_eq_getElem _, h i hlt (by omega)⟩

theorem evField_spec {ρ : Rho} {s s' : St} {w : World} {ty : TypeId} {f : Nat} {x x' v : Value} (h : evField P ty x f s = some (v, s'))
    (hr : HRel P B ρ s.heap w) (hx : VRel s.heap.size ρ x x') : Gives P B ρ s w v s' ((Instr.field ty x' f).run P w) := by
  unfold evField at h
  split at h
  case h_2 => cases h
  rename_i cs fields hu
  obtain ⟨cs', rfl, hs, hc⟩ := agg_inv hx
  split at h
  case h_2 => cases h
  rename_i fd hf
  split at h
  · rename_i i hi hagg
    simp only [Option.some.injEq, Prod.mk.injEq] at h
    obtain ⟨rfl, rfl⟩ := h
    have hrun : (Instr.field ty (.agg cs') f).run P w = .ok (.agg (cs'.extract fd.offset (fd.offset + i.size))) w := by
      simp [Instr.field, Sem.run_bind, run_underlying hu, hf, asAgg, part, isAggT_run hagg, sizeOf, typeInfo, hi]
    rw [hrun]
    exact gives_same hr (.refl _) (extract_rel hs hc _ _)
  · rename_i i hi hagg
    split at h
    · rename_i u hget
      simp only [Option.some.injEq, Prod.mk.injEq] at h
      obtain ⟨rfl, rfl⟩ := h
      obtain ⟨u', hu', hv⟩ := get_rel hs hc hget
      have hrun : (Instr.field ty (.agg cs') f).run P w = .ok u' w := by
        simp [Instr.field, Sem.run_bind, run_underlying hu, hf, asAgg, part, isAggT_run hagg, hu']
      rw [hrun]
      exact gives_same hr (.refl _) hv
    · cases h
  · cases h

theorem evIndex_spec {ρ : Rho} {s s' : St} {w : World} {ty : TypeId} {x x' ix ix' v : Value} (h : evIndex P ty x ix s = some (v, s')) (hh : s'.Holds)
    (hr : HRel P B ρ s.heap w) (hx : VRel s.heap.size ρ x x') (hi : VRel s.heap.size ρ ix ix') : Gives P B ρ s w v s' ((Instr.index ty x' ix').run P w) := by
  unfold evIndex at h
  split at h
  · rename_i k i str hu
    split at h
    case h_2 => cases h
    rename_i s1 hn
    simp only [Option.some.injEq, Prod.mk.injEq] at h
    obtain ⟨rfl, rfl⟩ := h
    obtain ⟨hs, hc⟩ := need_spec hn
    have hc := hc hh
    simp only [decide_eq_true_eq] at hc
    have := hx.eq_of_flat rfl
    subst this
    have := int_inv hi
    subst this
    have hlt : i.toNat < str.size := by omega
    have hrun : (Instr.index ty (.string str) (.int k i)).run P w = .ok (.int .u8 ((str.data.getD i.toNat 0).toNat : Int)) w := by
      have hg : str[i.toNat]? = some (str.data.getD i.toNat 0) := by
        rw [getElem?_pos str i.toNat hlt]
        have h2 : i.toNat < str.data.size := hlt
        simp only [Array.getD, h2, dif_pos]
        rfl
      simp [Instr.index, asIntOf, Sem.run_bind, run_underlying hu, hc.1, hg]
    rw [hrun]
    exact gives_same hr hs (.flat rfl)
  · rename_i k i cs len elem hu
    obtain ⟨cs', rfl, hsz, hcs⟩ := agg_inv hx
    have := int_inv hi
    subst this
    split at h
    · rename_i e s1 he hagg hn
      simp only [Option.some.injEq, Prod.mk.injEq] at h
      obtain ⟨rfl, rfl⟩ := h
      obtain ⟨hs, hc⟩ := need_spec hn
      have hc := hc hh
      simp only [decide_eq_true_eq] at hc
      have hrun : (Instr.index ty (.agg cs') (.int k i)).run P w = .ok (.agg (cs'.extract (i.toNat * e.size) (i.toNat * e.size + e.size))) w := by
        simp [Instr.index, asIntOf, Sem.run_bind, run_underlying hu, hc.1, hc.2, part, isAggT_run hagg, sizeOf, typeInfo, he]
      rw [hrun]
      exact gives_same hr hs (extract_rel hsz hcs _ _)
    · rename_i e s1 he hagg hn
      split at h
      · rename_i u hget
        simp only [Option.some.injEq, Prod.mk.injEq] at h
        obtain ⟨rfl, rfl⟩ := h
        obtain ⟨hs, hc⟩ := need_spec hn
        have hc := hc hh
        simp only [decide_eq_true_eq] at hc
        obtain ⟨u', hu', hv⟩ := get_rel hsz hcs hget
        have hrun : (Instr.index ty (.agg cs') (.int k i)).run P w = .ok u' w := by
          simp [Instr.index, asIntOf, Sem.run_bind, run_underlying hu, hc.1, hc.2, part, isAggT_run hagg, sizeOf, typeInfo, he, hu']
        rw [hrun]
        exact gives_same hr hs hv
      · cases h
    · cases h
  · cases h

theorem evBounds_spec {s s' : St} {len cap cap' l h0 : Nat} {lo hi : Option Value} (hb : evBounds len cap lo hi s = some (l, h0, s')) (hh : s'.Holds) (hcap : cap ≤ cap') (hlen : len ≤ cap) (isS : Bool) :
    Same s s' ∧ l ≤ h0 ∧ h0 ≤ cap ∧ ∀ w, (Instr.sliceBounds isS len cap' lo hi none).run P w = .ok (l, h0, cap') w := by
  unfold evBounds at hb
  split at hb
  case h_2 => cases hb
  rename_i h1 s1 hm
  have key : s1.Holds → Same s s1 ∧ h1 ≤ cap ∧ ∀ w, ((match hi, (none : Option Value) with
    | some v, some _ => Instr.sliceBound v cap' .slice3B
    | some v, none => Instr.sliceBound v cap' (if isS then .sliceAcap else .sliceAlen)
    | none, none => pure len
    | none, some _ => stuck "Slice: max without high") : Sem Nat).run P w = .ok h1 w := by
    intro hs1
    split at hm
    · simp only [Option.some.injEq, Prod.mk.injEq] at hm
      obtain ⟨rfl, rfl⟩ := hm
      exact ⟨.refl _, hlen, fun w => rfl⟩
    · rename_i k x
      split at hm
      case h_2 => cases hm
      rename_i s2 hn
      simp only [Option.some.injEq, Prod.mk.injEq] at hm
      obtain ⟨rfl, rfl⟩ := hm
      obtain ⟨hs, hc⟩ := need_spec hn
      have hc := hc hs1
      simp only [decide_eq_true_eq] at hc
      refine ⟨hs, by omega, fun w => ?_⟩
      have : 0 ≤ x ∧ x ≤ (cap' : Int) := by omega
      simp [Instr.sliceBound, asIntOf, this.1, this.2]
    · cases hm
  split at hb
  · simp only [Option.some.injEq, Prod.mk.injEq] at hb
    obtain ⟨rfl, rfl, rfl⟩ := hb
    obtain ⟨k1, k2, k3⟩ := key hh
    refine ⟨k1, Nat.zero_le _, k2, fun w => ?_⟩
    have := k3 w
    cases hi with
    | none => simp [Instr.sliceBounds] at this ⊢; exact this
    | some u => simp only [Instr.sliceBounds, Sem.run_bind] at this ⊢; simp [this]
  · rename_i k x
    split at hb
    case h_2 => cases hb
    rename_i s2 hn
    simp only [Option.some.injEq, Prod.mk.injEq] at hb
    obtain ⟨rfl, rfl, rfl⟩ := hb
    obtain ⟨hs, hc⟩ := need_spec hn
    have hc := hc hh
    simp only [decide_eq_true_eq] at hc
    obtain ⟨k1, k2, k3⟩ := key (hs.holds hh)
    refine ⟨k1.trans hs, by omega, k2, fun w => ?_⟩
    have := k3 w
    have hl : (Instr.sliceBound (.int k x) h1 .sliceB).run P w = .ok x.toNat w := by simp [Instr.sliceBound, asIntOf, hc.1, hc.2]
    cases hi with
    | none =>
      simp at this
      subst this
      simp [Instr.sliceBounds, hl]
    | some u => simp only [Instr.sliceBounds, Sem.run_bind] at this ⊢; simp [this, hl]
  · cases hb

theorem evSlice_spec {ρ : Rho} {s s' : St} {w : World} {ty : TypeId} {x x' v : Value} {lo hi lo' hi' : Option Value} (h : evSlice P ty x lo hi none s = some (v, s')) (hh : s'.Holds)
    (hr : HRel P B ρ s.heap w) (hx : VRel s.heap.size ρ x x') (hlo : lo' = lo) (hhi : hi' = hi) : Gives P B ρ s w v s' ((Instr.sliceAt ty x' lo' hi' none).run P w) := by
  subst hlo hhi
  unfold evSlice at h
  split at h
  · rename_i str _ hu
    have := hx.eq_of_flat rfl
    subst this
    split at h
    case h_2 => cases h
    rename_i l h1 s1 hb
    simp only [Option.some.injEq, Prod.mk.injEq] at h
    obtain ⟨rfl, rfl⟩ := h
    obtain ⟨hs, hl, hc, hrun⟩ := evBounds_spec (P := P) hb hh (Nat.le_refl _) (Nat.le_refl _) false
    have : (Instr.sliceAt ty (.string str) lo' hi' none).run P w = .ok (.string (str.extract l h1)) w := by
      simp [Instr.sliceAt, Instr.slice, Sem.run_bind, run_underlying hu, hrun]
    rw [this]
    exact gives_same hr hs (.flat rfl)
  · rename_i b off len c elem _ hu
    split at h
    case h_2 => cases h
    rename_i e o he ho
    split at h
    case isFalse => cases h
    rename_i hg
    split at h
    case h_2 => cases h
    rename_i l h1 s1 hb
    simp only [Option.some.injEq, Prod.mk.injEq] at h
    obtain ⟨rfl, rfl⟩ := h
    obtain ⟨hbn, hesz, g1, hx2⟩ := slice_inv hx
    obtain ⟨ho1, ho2⟩ := live_spec ho
    obtain ⟨z1, z2, _, _⟩ := hr.obj b o ho1 ho2
    obtain ⟨hge, hepos⟩ := hg
    have hes : (ρ b).esz = e.size := by rw [z2, hge]
    rw [hes, z1] at g1
    have hlen : len ≤ (o.cells.size - off) / e.size := by
      rw [Nat.le_div_iff_mul_le hepos]; omega
    have hdiv : (o.cells.size - off) / e.size * e.size ≤ o.cells.size - off := Nat.div_mul_le_self _ _
    rcases hx2 with ⟨c', rfl, g2, g3, g4⟩ | ⟨rfl, hoff, x0, rfl⟩
    · rw [hes, z1] at g2
      rw [hes] at g3
      have hcap : (o.cells.size - off) / e.size ≤ c' := by
        have : (o.cells.size - off) / e.size ≤ (c' * e.size) / e.size := Nat.div_le_div_right (by omega)
        rwa [Nat.mul_div_cancel _ hepos] at this
      obtain ⟨hs, hl, hc, hrun⟩ := evBounds_spec (P := P) hb hh hcap hlen true
      have hle : h1 * e.size ≤ o.cells.size - off := Nat.le_trans (Nat.mul_le_mul_right _ hc) hdiv
      have hle2 : l * e.size ≤ h1 * e.size := Nat.mul_le_mul_right _ hl
      have hsub : (h1 - l) * e.size = h1 * e.size - l * e.size := Nat.sub_mul _ _ _
      have hsub2 : (c' - l) * e.size = c' * e.size - l * e.size := Nat.sub_mul _ _ _
      have hlc : l * e.size ≤ c' * e.size := Nat.mul_le_mul_right _ (by omega)
      have hrun2 : (Instr.sliceAt ty (.slice (some (ρ.addr ⟨b, off, none⟩)) len c') lo' hi' none).run P w = .ok (.slice (some (if c' = l then ρ.addr ⟨b, off, none⟩ else (ρ.addr ⟨b, off, none⟩).add (l * e.size))) (h1 - l) (c' - l)) w := by
        simp [Instr.sliceAt, Instr.slice, Sem.run_bind, run_underlying hu, hrun, sizeOf, typeInfo, he]
        split <;> rfl
      rw [hrun2]
      refine gives_same hr hs ?_
      by_cases hcl : c' = l
      · subst hcl
        rw [if_pos rfl, Nat.sub_self]
        have hz : h1 - c' = 0 := by omega
        rw [hz]
        exact .slice0 hbn hesz (by rw [z1]; omega)
      · rw [if_neg hcl]
        have := @VRel.slice s.heap.size ρ b (off + l * e.size) (h1 - l) 0 (c' - l) hbn hesz (by rw [hes, z1]; omega) (by rw [hes, z1]; omega) (by rw [hes]; omega) (by omega)
        rw [addr_add]
        simpa [Rho.addr, Nat.add_assoc] using this
    · rw [z1] at hoff
      have hq : (o.cells.size - off) / e.size = 0 := by rw [hoff, Nat.sub_self]; simp
      rw [hq] at hb
      obtain ⟨hs, hl, hc, hrun⟩ := evBounds_spec (P := P) hb hh (Nat.le_refl 0) (Nat.le_refl 0) true
      have h10 : h1 = 0 := by omega
      have hl0 : l = 0 := by omega
      subst h10 hl0
      have hrun2 : (Instr.sliceAt ty (.slice (some x0) 0 0) lo' hi' none).run P w = .ok (.slice (some x0) 0 0) w := by
        simp [Instr.sliceAt, Instr.slice, Sem.run_bind, run_underlying hu, hrun, sizeOf, typeInfo, he]
      rw [hrun2]
      exact gives_same hr hs (.slice0 hbn hesz (by rw [z1]; omega))
  · rename_i elem _ hu
    have := hx.eq_of_flat rfl
    subst this
    split at h
    case h_2 => cases h
    rename_i e he
    split at h
    case h_2 => cases h
    rename_i l h1 s1 hb
    simp only [Option.some.injEq, Prod.mk.injEq] at h
    obtain ⟨rfl, rfl⟩ := h
    obtain ⟨hs, hl, hc, hrun⟩ := evBounds_spec (P := P) hb hh (Nat.le_refl _) (Nat.le_refl _) true
    have h10 : h1 = 0 := by omega
    have hl0 : l = 0 := by omega
    subst h10 hl0
    have : (Instr.sliceAt ty (.slice none 0 0) lo' hi' none).run P w = .ok (.slice none 0 0) w := by
      simp [Instr.sliceAt, Instr.slice, Sem.run_bind, run_underlying hu, hrun, sizeOf, typeInfo, he]
    rw [this]
    exact gives_same hr hs (.flat rfl)
  · rename_i elem _ hu
    cases hx with
    | flat hf => simp [flat] at hf
    | any h _ => cases h
    | noRoom =>
    rename_i x0
    split at h
    case h_2 => cases h
    rename_i e he
    split at h
    case h_2 => cases h
    rename_i l h1 s1 hb
    simp only [Option.some.injEq, Prod.mk.injEq] at h
    obtain ⟨rfl, rfl⟩ := h
    obtain ⟨hs, hl, hc, hrun⟩ := evBounds_spec (P := P) hb hh (Nat.le_refl 0) (Nat.le_refl 0) true
    have h10 : h1 = 0 := by omega
    have hl0 : l = 0 := by omega
    subst h10 hl0
    have : (Instr.sliceAt ty (.slice (some x0) 0 0) lo' hi' none).run P w = .ok (.slice (some x0) 0 0) w := by
      simp [Instr.sliceAt, Instr.slice, Sem.run_bind, run_underlying hu, hrun, sizeOf, typeInfo, he]
    rw [this]
    exact gives_same hr hs .noRoom
  · cases h
theorem zeroInt_eq {v : Value} (h : zeroInt v = true) : ∃ k, v = .int k 0 := by
  unfold zeroInt at h
  split at h
  · exact ⟨_, rfl⟩
  · cases h
theorem evSlice0_spec {ρ : Rho} {s s' : St} {w : World} {ty : TypeId} {x x' v hi mx : Value} (h : evSlice0 P ty x hi mx s = some (v, s'))
    (hr : HRel P B ρ s.heap w) (hx : VRel s.heap.size ρ x x') : Gives P B ρ s w v s' ((Instr.sliceAt ty x' none (some hi) (some mx)).run P w) := by
  unfold evSlice0 at h
  split at h
  case h_2 => cases h
  rename_i elem hu hz
  simp only [Bool.and_eq_true] at hz
  obtain ⟨k1, rfl⟩ := zeroInt_eq hz.1
  obtain ⟨k2, rfl⟩ := zeroInt_eq hz.2
  split at h
  case h_2 => cases h
  rename_i e he
  have key : ∀ (a : Option Addr) (len cap : Nat), (Instr.sliceAt ty (.slice a len cap) none (some (.int k1 0)) (some (.int k2 0))).run P w = .ok (.slice a 0 0) w := by
    intro a len cap
    simp [Instr.sliceAt, Instr.slice, Instr.sliceBounds, Instr.sliceBound, asIntOf, Sem.run_bind, run_underlying hu, sizeOf, typeInfo, he]
  split at h
  · simp only [Option.some.injEq, Prod.mk.injEq] at h
    obtain ⟨rfl, rfl⟩ := h
    have := hx.eq_of_flat rfl
    subst this
    rw [key]
    exact gives_same hr (.refl _) (.flat rfl)
  · simp only [Option.some.injEq, Prod.mk.injEq] at h
    obtain ⟨rfl, rfl⟩ := h
    cases hx with
    | flat hf => simp [flat] at hf
    | any h _ => cases h
    | noRoom =>
      rw [key]
      exact gives_same hr (.refl _) .noRoom
  · simp only [Option.some.injEq, Prod.mk.injEq] at h
    obtain ⟨rfl, rfl⟩ := h
    cases hx with
    | flat hf => simp [flat] at hf
    | any h _ => cases h
    | slice =>
      rw [key]
      exact gives_same hr (.refl _) .noRoom
    | slice0 =>
      rw [key]
      exact gives_same hr (.refl _) .noRoom
  · cases h
theorem evSliceM_spec {ρ : Rho} {s s' : St} {w : World} {ty : TypeId} {x x' v hi mx : Value} {lo : Option Value} (h : evSliceM P ty x lo hi mx s = some (v, s')) (hh : s'.Holds)
    (hr : HRel P B ρ s.heap w) (hx : VRel s.heap.size ρ x x') : Gives P B ρ s w v s' ((Instr.sliceAt ty x' lo (some hi) (some mx)).run P w) := by
  unfold evSliceM at h
  split at h
  case h_2 => cases h
  rename_i elem b off len c l k1 h1 k2 m1 hu hlo
  split at h
  case h_2 => cases h
  rename_i e o he ho
  split at h
  case isFalse => cases h
  rename_i hg
  split at h
  case h_2 => cases h
  rename_i s1 hn
  simp only [Option.some.injEq, Prod.mk.injEq] at h
  obtain ⟨rfl, rfl⟩ := h
  obtain ⟨hs, hc⟩ := need_spec hn
  have hc := hc hh
  simp only [decide_eq_true_eq] at hc
  obtain ⟨c1, c2, c3⟩ := hc
  obtain ⟨hbn, hesz, g1, hx2⟩ := slice_inv hx
  obtain ⟨ho1, ho2⟩ := live_spec ho
  obtain ⟨z1, z2, _, _⟩ := hr.obj b o ho1 ho2
  obtain ⟨hge, hepos⟩ := hg
  have hes : (ρ b).esz = e.size := by rw [z2, hge]
  rw [hes, z1] at g1
  have hlm : (h1 - l) * e.size ≤ (m1 - l) * e.size := Nat.mul_le_mul_right _ (by omega)
  have hsub2 : (m1 - l) * e.size = m1 * e.size - l * e.size := Nat.sub_mul _ _ _
  have hlm2 : l * e.size ≤ m1 * e.size := Nat.mul_le_mul_right _ (by omega)
  obtain ⟨Hi, hHi⟩ : ∃ H : Int, H = Int.ofNat h1 := ⟨_, rfl⟩
  obtain ⟨Mx, hMx⟩ : ∃ H : Int, H = Int.ofNat m1 := ⟨_, rfl⟩
  rw [← hHi, ← hMx]
  have hHi' : Hi = (h1 : Int) := hHi
  have hMx' : Mx = (m1 : Int) := hMx
  have bnd : ∀ (k : IntKind) (x : Int) (n y : Nat) (code : BoundsCode), x = (n : Int) → n ≤ y → (Instr.sliceBound (.int k x) y code).run P w = .ok n w := by
    intro k x n y code h1 h2
    have q1 : 0 ≤ x := by omega
    have q2 : x ≤ (y : Int) := by omega
    have q3 : x.toNat = n := by omega
    simp [Instr.sliceBound, asIntOf, q1, q2, q3]
  have low : ∀ (cap : Nat), m1 ≤ cap → (Instr.sliceBounds true len cap lo (some (.int k1 Hi)) (some (.int k2 Mx))).run P w = .ok (l, h1, m1) w := by
    intro cap hcap
    have e1 := bnd k2 Mx m1 cap .slice3Acap hMx' hcap
    have e2 := bnd k1 Hi h1 m1 .slice3B hHi' c2
    split at hlo
    · simp only [Option.some.injEq] at hlo
      subst hlo
      simp [Instr.sliceBounds, Sem.run_bind, e1, e2]
    · rename_i k0 l0
      simp only [Option.some.injEq] at hlo
      subst hlo
      have e3 := bnd k0 (Int.ofNat l0) l0 h1 .slice3C rfl c1
      obtain ⟨Lo, hLo⟩ : ∃ H : Int, H = Int.ofNat l0 := ⟨_, rfl⟩
      rw [← hLo] at e3 ⊢
      simp [Instr.sliceBounds, Sem.run_bind, e1, e2, e3]
    · cases hlo
  rcases hx2 with ⟨c', rfl, g2, g3, g4⟩ | ⟨rfl, hoff, x0, rfl⟩
  · rw [hes, z1] at g2
    rw [hes] at g3
    have hcap : m1 ≤ c' := by
      have : m1 * e.size ≤ c' * e.size := by omega
      exact Nat.le_of_mul_le_mul_right this hepos
    have hmc : m1 * e.size ≤ c' * e.size := Nat.mul_le_mul_right _ hcap
    have hrun2 : (Instr.sliceAt ty (.slice (some (ρ.addr ⟨b, off, none⟩)) len c') lo (some (.int k1 Hi)) (some (.int k2 Mx))).run P w = .ok (.slice (some (if m1 = l then ρ.addr ⟨b, off, none⟩ else (ρ.addr ⟨b, off, none⟩).add (l * e.size))) (h1 - l) (m1 - l)) w := by
      simp only [Instr.sliceAt, Instr.slice]
      simp [Sem.run_bind, run_underlying hu, low c' hcap, sizeOf, typeInfo, he]
      split <;> rfl
    rw [hrun2]
    refine gives_same hr hs ?_
    by_cases hcl : m1 = l
    · subst hcl
      rw [if_pos rfl, Nat.sub_self]
      have hz : h1 - m1 = 0 := by omega
      rw [hz]
      exact .slice0 hbn hesz (by rw [z1]; omega)
    · rw [if_neg hcl]
      have := @VRel.slice s.heap.size ρ b (off + l * e.size) (h1 - l) 0 (m1 - l) hbn hesz (by rw [hes, z1]; omega) (by rw [hes, z1]; omega) (by rw [hes]; omega) (by omega)
      rw [addr_add]
      simpa [Rho.addr, Nat.add_assoc] using this
  · rw [z1] at hoff
    have hm0 : m1 = 0 := by
      have : m1 * e.size = 0 := by omega
      rcases Nat.mul_eq_zero.1 this with h | h
      · exact h
      · omega
    subst hm0
    have h10 : h1 = 0 := by omega
    have hl0 : l = 0 := by omega
    subst h10 hl0
    have hrun2 : (Instr.sliceAt ty (.slice (some x0) 0 0) lo (some (.int k1 Hi)) (some (.int k2 Mx))).run P w = .ok (.slice (some x0) 0 0) w := by
      simp only [Instr.sliceAt, Instr.slice]
      simp [Sem.run_bind, run_underlying hu, low 0 (Nat.le_refl 0), sizeOf, typeInfo, he]
    rw [hrun2]
    exact gives_same hr hs (.slice0 hbn hesz (by rw [z1]; omega))
theorem evSlice3_spec {ρ : Rho} {s s' : St} {w : World} {ty : TypeId} {x x' v hi mx : Value} {lo : Option Value} (h : evSlice3 P ty x lo hi mx s = some (v, s')) (hh : s'.Holds)
    (hr : HRel P B ρ s.heap w) (hx : VRel s.heap.size ρ x x') : Gives P B ρ s w v s' ((Instr.sliceAt ty x' lo (some hi) (some mx)).run P w) := by
  unfold evSlice3 at h
  split at h
  · exact evSlice0_spec h hr hx
  · exact evSliceM_spec h hh hr hx
end Go.Ev
