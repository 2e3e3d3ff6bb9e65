/- THE EVALUATOR: a region that draws its order: operations that stand between all others part it. -/
import Derived.Test.YtmnnnickodfibaaEvJ2
namespace Go.Ev
open Go.RowKit
variable {P : Program} {B : Nat}

/-- All of a part is done. -/
theorem Inv.done {call : CallFn} {ops : Array Oper} {z m : Nat} {T : Nat → Tr} {S : Nat → St} {R : Nat → Ranges} {o : Nat → Oper} {v : Nat → Value} {K : Nat → St}
    (tr : Trace P call ops z m T S R o v K) (gto : Grows (S 0) (S m)) {ρ0 ρ1 : Rho} {w0 w1 : World} {d0 : List Deferred} {a1 : Act} (hr : HRel P B ρ0 (S 0).heap w0)
    (J : Inv P B ops z m T S o v K ρ0 w0 d0 (fun _ => True) ρ1 a1 w1) :
    a1.defers = d0 ∧ TRel (S m).heap.size ρ1 (T m) a1.tmps ∧ HRel P B ρ1 (S m).heap w1 ∧ Step B ρ0 (S 0) w0 ρ1 (S m) w1 := by
  have nb : ∀ j, ∀ q, (res S m ρ1 (CC ops z j) q).bad = false → ρ1 q = res S m ρ1 (CC ops z j) q := fun j q h => (res_same h).symm
  have own : ∀ j q, j < m → (S j).heap.size ≤ q → q < (S (j + 1)).heap.size → res S m ρ1 (CC ops z j) q = ρ1 q := fun j q hj h1 h2 => res_pos (.inr (.inr ⟨j, hj, .inr rfl, h1, h2⟩))
  have fix : ∀ {z : AObj}, (fixO z).st < 3 → fixO z = z ∧ (z.st = 1 ∨ z.st = 2) := by
    intro z hz
    unfold fixO at hz ⊢
    by_cases h0 : z.st = 0
    · simp [h0, deadO] at hz
    · simp only [h0, if_false] at hz ⊢; exact ⟨trivial, by omega⟩
  have parts : ∀ q x, (S m).heap[q]? = some x → x.st < 3 → (q < (S 0).heap.size ∧ (S 0).heap[q]? = some x) ∨
      (∃ j, j < m ∧ (S j).heap.size ≤ q ∧ q < (S (j + 1)).heap.size ∧ (K j).heap[q]? = some x ∧ (x.st = 1 ∨ x.st = 2)) := by
    intro q x hx hst
    have hlt := (Array.getElem?_eq_some_iff.1 hx).1
    rcases Nat.lt_or_ge q (S 0).heap.size with h0 | h0
    · have := tr.old (i := 0) h0 m (by omega)
      rw [Nat.zero_add] at this
      exact .inl ⟨h0, by rw [← this]; exact hx⟩
    · obtain ⟨j, j1, j2, j3⟩ := Trace.whose m h0 hlt
      rw [tr.new j1 j2 j3 j1 (Nat.le_refl _)] at hx
      cases hz : (K j).heap[q]? with
      | none => rw [hz] at hx; simp at hx
      | some z' =>
        rw [hz] at hx
        simp only [Option.map_some, Option.some.injEq] at hx
        subst hx
        obtain ⟨e1, e2⟩ := fix hst
        exact .inr ⟨j, j1, j2, j3, by rw [e1]; exact hz, by rw [e1]; exact e2⟩
  have mono' : ∀ {x y : Nat}, x ≤ y → y ≤ m → (S x).heap.size ≤ (S y).heap.size := fun h1 h2 => tr.mono' h1 h2
  have h0m := mono' (Nat.zero_le m) (Nat.le_refl _)
  have hR : HRel P B ρ1 (S m).heap w1 := by
    refine ⟨⟨by have := J.j1.glob.1; omega, J.j1.glob.2⟩, J.j1.base, fun q x hx hst => ?_, fun q x hx hst => ?_, fun q x hx hst => ?_⟩
    · rcases parts q x hx hst with ⟨_, hx0⟩ | ⟨j, j1, j2, j3, hxj, _⟩
      · obtain ⟨a1, a2, a3, a4⟩ := J.j1.obj q x hx0 hst
        refine ⟨a1, a2, a3, fun p hp => ?_⟩
        obtain ⟨c', e1, e2, e3⟩ := a4 p hp
        exact ⟨c', e1, e2, e3.mono h0m fun _ _ => rfl⟩
      · obtain ⟨a1, a2, a3, a4⟩ := (J.j2 j j1 trivial).obj q x hxj hst
        rw [own j q j1 j2 j3] at a1 a2 a3 a4
        refine ⟨a1, a2, a3, fun p hp => ?_⟩
        obtain ⟨c', e1, e2, e3⟩ := a4 p hp
        have := tr.ksize j1
        have := mono' (x := j + 1) (y := m) (by omega) (Nat.le_refl _)
        exact ⟨c', e1, e2, e3.mono' (by omega) fun p _ hb => nb j p hb⟩
    · rcases parts q x hx (by omega) with ⟨_, hx0⟩ | ⟨j, j1, j2, j3, hxj, _⟩
      · exact J.j1.own q x hx0 hst
      · have := (J.j2 j j1 trivial).own q x hxj hst
        rw [own j q j1 j2 j3] at this; exact this
    · have old : ∀ q y, (S 0).heap[q]? = some y → y.st < 3 → (ρ1 q).blk < w0.heap.size := by
        intro q y hy hst
        rw [J.j7 q (.inl (Array.getElem?_eq_some_iff.1 hy).1)]
        exact (hr.obj q y hy hst).2.2.1
      rcases parts q x hx (by omega) with ⟨_, hx0⟩ | ⟨j, j1, j2, j3, hxj, hst'⟩
      · obtain ⟨a1, a2, a3⟩ := J.j1.head q x hx0 hst
        refine ⟨a1, a2, fun q2 y hy hst2 hne hblk => ?_⟩
        rcases parts q2 y hy hst2 with ⟨_, hy0⟩ | ⟨k, k1, k2, k3, hyk, hst3⟩
        · exact a3 q2 y hy0 hst2 hne hblk
        · have e1 := J.j3 k k1 trivial q2 k2 k3 y hyk hst3
          have e2 := old q x hx0 (by omega)
          omega
      · obtain ⟨a1, a2, a3⟩ := (J.j2 j j1 trivial).head q x hxj hst
        rw [own j q j1 j2 j3] at a1 a2 a3
        refine ⟨a1, a2, fun q2 y hy hst2 hne hblk => ?_⟩
        rcases parts q2 y hy hst2 with ⟨_, hy0⟩ | ⟨k, k1, k2, k3, hyk, hst3⟩
        · have e1 := J.j3 j j1 trivial q j2 j3 x hxj hst'
          have e2 := old q2 y hy0 hst2
          omega
        · by_cases hjk : j = k
          · subst hjk
            have := a3 q2 y hyk hst2 hne
            rw [own j q2 j1 k2 k3] at this
            exact this hblk
          · exact absurd hblk.symm (J.j4 j k j1 k1 trivial trivial hjk q q2 j2 j3 k2 k3 x y hxj hst' hyk hst3)
  have hT : TRel (S m).heap.size ρ1 (T m) a1.tmps := by
    refine ⟨fun τ => by rw [tr.has τ (Nat.le_refl _)]; exact J.j6.1 τ, fun τ => ?_⟩
    rcases lastW o τ m with hno | ⟨j, hj, hd, hmax⟩
    · rw [tr.none (Nat.le_refl _) hno]
      rcases J.j5a τ fun j hj _ => hno j hj with h | ⟨u, h1, h2⟩
      · exact .inl h
      · exact .inr ⟨u, h1, h2.mono h0m fun _ _ => rfl⟩
    · by_cases hhas : (T 0).has τ = true
      · rw [tr.last hj hd hhas (Nat.le_refl _) hmax]
        obtain ⟨u, h1, h2⟩ := J.j5b j hj trivial τ hd hhas fun k hk _ hdk => by
          rcases Nat.lt_or_ge j k with h | h
          · exact absurd hdk (hmax k h hk)
          · exact h
        exact .inr ⟨u, h1, h2.mono' (mono' (by omega) (Nat.le_refl _)) fun p _ hb => nb j p hb⟩
      · left
        rw [Tr.get_none]
        · rfl
        · rw [tr.has τ (Nat.le_refl _)]; simpa using hhas
  refine ⟨J.j6.2, hT, hR, J.j7, h0m, ?_, fun q h1 _ x hx => ?_, J.j8.mono hr.base, ?_, fun q x y hx hy => ?_⟩
  · have low : ∀ k, k ≤ m → (S k).low ≤ (S 0).low := by
      intro k
      induction k with
      | zero => intro _; exact Nat.le_refl _
      | succ k ih =>
        intro hk
        rw [(tr.next k (by omega)).1]
        have := J.j9 k (by omega) trivial
        have := ih (by omega)
        omega
    exact low m (Nat.le_refl _)
  · have := tr.old (i := 0) h1 m (by omega)
    rw [Nat.zero_add] at this
    exact ⟨x, by rw [← this]; exact hx, fun h => h, .inl rfl⟩
  · exact gto
  · have hlt := (Array.getElem?_eq_some_iff.1 hx).1
    have := tr.old (i := 0) hlt m (by omega)
    rw [Nat.zero_add, hy, hx] at this
    cases this
    exact ⟨Nat.le_refl _, fun hst => ⟨hst, fun _ j _ => (below_cells J.j8 _ (by exact (hr.obj q x hx hst).2.2.1)).1⟩⟩

theorem bothD {listed : Array Bool} {k : Nat} (hk : k < listed.size) : listed.getD k true = listed.getD k false := by simp [Array.getD, hk]
theorem rdy_nil {ops : Array Oper} (hok : okRegion ops = true) {listed : Array Bool} (hs : listed.size = ops.size) (hr : Region.ready .any ops listed = []) : ∀ k, k < ops.size → listed.getD k false = true := by
  intro k
  induction k using Nat.strongRecOn with
  | _ k ih =>
    intro hk
    cases hv : listed.getD k false with
    | true => rfl
    | false =>
      have : k ∈ Region.ready .any ops listed := mem_ready.2 ⟨by rw [bothD (by omega)]; exact hv, ops[k], Array.getElem?_eq_getElem hk, fun e he hb => by
        have := ok_edge hok (Array.getElem?_eq_getElem hk) (by simpa using he) hb
        exact ih e.on this (by omega)⟩
      rw [hr] at this
      cases this
/-- Whose turn it may be: not done, and all that must stand ahead of it is. -/
theorem rdy_mem {ops : Array Oper} (hok : okRegion ops = true) {listed : Array Bool} (hs : listed.size = ops.size)
    (hcl : ∀ k, k < ops.size → listed.getD k false = true → ∀ j, ((befs ops).getD k 0).testBit j = true → listed.getD j false = true) {i : Nat} (hi : i ∈ Region.ready .any ops listed) :
    i < ops.size ∧ listed.getD i false = false ∧ ∀ j, ((befs ops).getD i 0).testBit j = true → listed.getD j false = true := by
  obtain ⟨h1, x, h2, h3⟩ := mem_ready.1 hi
  have hlt : i < ops.size := (Array.getElem?_eq_some_iff.1 h2).1
  refine ⟨hlt, by rw [← bothD (by omega)]; exact h1, fun j hp => ?_⟩
  obtain ⟨e, e1, e2, e3⟩ := (pre_spec hok h2 j).1 hp
  have he := h3 e (by simpa using e1) e2
  rcases e3 with rfl | e3
  · exact he
  · exact hcl e.on (by have := ok_edge hok h2 e1 e2; omega) he j e3
theorem set_getD {listed : Array Bool} {i : Nat} (hi : i < listed.size) (d : Bool) (k : Nat) : (listed.setIfInBounds i true).getD k d = if k = i then true else listed.getD k d := by
  by_cases hk : k < listed.size
  · simp only [Array.getD, Array.size_setIfInBounds, hk, dite_true]
    show (listed.setIfInBounds i true)[k]'(by simpa using hk) = _
    rw [Array.getElem_setIfInBounds hk]
    by_cases hki : k = i
    · subst hki; simp
    · rw [if_neg (Ne.symm hki), if_neg hki]; rfl
  · have : k ≠ i := by omega
    simp [Array.getD, hk, this]
theorem cnt_none {f : Nat → Bool} : ∀ {n : Nat}, (∀ k, k < n → f k = false) → cnt f n = 0
  | 0, _ => rfl
  | n + 1, h => by
    simp only [cnt, h n (by omega)]
    rw [cnt_none fun k hk => h k (by omega)]
    rfl

theorem Inv.phase {call : CallFn} (hcall : CallSound P call) (hgr : CallGrows call) {ops : Array Oper} (hok : okRegion ops = true) {z m : Nat} {T : Nat → Tr} {S : Nat → St} {R : Nat → Ranges} {o : Nat → Oper} {v : Nat → Value} {K : Nat → St}
    (tr : Trace P call ops z m T S R o v K) (hh : ∀ i, i < m → (K i).Holds) {ρ0 : Rho} {w0 : World} {d0 : List Deferred} {Q : Exit → Act → World → Prop}
    (hbar : ∀ k, z + m ≤ k → k < ops.size → ∀ j, j < z + m → ((befs ops).getD k 0).testBit j = true)
    (hQ : ∀ listed ρ a w, listed.size = ops.size → (∀ k, k < ops.size → listed.getD k false = decide (k < z + m)) → Inv P B ops z m T S o v K ρ0 w0 d0 (fun _ => True) ρ a w → wpAny P .any ops Q (ops.size - (z + m)) listed a w) :
    ∀ (n : Nat) (listed : Array Bool) (ρ : Rho) (a : Act) (w : World), listed.size = ops.size →
    cnt (fun k => !listed.getD k true) (z + m) = n → (∀ k, k < z → listed.getD k false = true) → (∀ k, z + m ≤ k → k < ops.size → listed.getD k false = false) →
    (∀ k, k < ops.size → listed.getD k false = true → ∀ j, ((befs ops).getD k 0).testBit j = true → listed.getD j false = true) →
    Inv P B ops z m T S o v K ρ0 w0 d0 (fun k => listed.getD (z + k) false = true) ρ a w → wpAny P .any ops Q (ops.size - (z + m) + n) listed a w := by
  have htop := tr.top
  intro n
  induction n with
  | zero =>
    intro listed ρ a w hs hc hlo hhi hcl J
    have hall : ∀ k, k < z + m → listed.getD k false = true := fun k hk => by
      have := cnt_zero hc k hk
      rw [← bothD (by omega)]; simpa using this
    refine hQ listed ρ a w hs (fun k hk => ?_) (J.congr fun k hk => ⟨fun _ => trivial, fun _ => hall _ (by omega)⟩)
    rcases Nat.lt_or_ge k (z + m) with h | h
    · rw [hall k h]; simp [h]
    · rw [hhi k h hk]; simp; omega
  | succ n ih =>
    intro listed ρ a w hs hc hlo hhi hcl J
    refine ⟨fun hr => ?_, fun i hi => ?_⟩
    · exfalso
      have := cnt_none (f := fun k => !listed.getD k true) (n := z + m) fun k hk => by rw [bothD (by omega), rdy_nil hok hs hr k (by omega)]; rfl
      omega
    · obtain ⟨hlt, hno, hpre⟩ := rdy_mem hok hs hcl hi
      have hz : z ≤ i := Decidable.byContradiction fun h => by rw [hlo i (by omega)] at hno; cases hno
      have hm : i < z + m := Decidable.byContradiction fun h => by
        have := cnt_none (f := fun k => !listed.getD k true) (n := z + m) fun k hk => by rw [bothD (by omega), hpre k (hbar i (by omega) hlt k hk)]; rfl
        omega
      obtain ⟨q, rfl⟩ : ∃ q, i = z + q := ⟨i - z, by omega⟩
      refine J.exec hcall hgr hok tr hh (by omega) (by rw [hno]; simp) (fun j hp => hpre (z + j) hp) (fun k hk hlk j hp => hcl (z + k) (by omega) hlk (z + j) hp) fun ρ' a' w' J' => ?_
      have set := set_getD (listed := listed) (i := z + q) (by omega)
      refine ih (listed.setIfInBounds (z + q) true) ρ' a' w' (by simp [hs]) ?_ (fun k hk => ?_) (fun k h1 h2 => ?_) (fun k hk hlk j hp => ?_) (J'.congr fun k hk => ?_)
      · have := cnt_less (f := fun k => !listed.getD k true) (g := fun k => !(listed.setIfInBounds (z + q) true).getD k true) (i := z + q) (by simp [set]) (by simp [bothD (show z + q < listed.size by omega), hno]) (fun k hk => by simp [set, hk]) (z + m)
        rw [hc, if_pos hm] at this
        omega
      · rw [set]; split
        · rfl
        · exact hlo k hk
      · rw [set, if_neg (by omega)]; exact hhi k h1 h2
      · rw [set] at hlk ⊢
        split
        · rfl
        · by_cases hki : k = z + q
          · subst hki; exact hpre j hp
          · rw [if_neg hki] at hlk; exact hcl k hk hlk j hp
      · rw [set]
        by_cases hki : k = q
        · simp [hki]
        · simp [hki]

theorem leads : ∀ l : List Bool, ∃ m r, l = List.replicate m false ++ r ∧ (r = [] ∨ ∃ r', r = true :: r')
  | [] => ⟨0, [], rfl, .inl rfl⟩
  | true :: r => ⟨0, true :: r, rfl, .inr ⟨r, rfl⟩⟩
  | false :: r => by
    obtain ⟨m, r1, h1, h2⟩ := leads r
    exact ⟨m + 1, r1, by rw [h1]; rfl, h2⟩

theorem bar_spec {ops : Array Oper} (_ : okRegion ops = true) {i : Nat} (hi : i < ops.size) (h : (bars ops)[i]? = some true) :
    (∀ j, j < i → ((befs ops).getD i 0).testBit j = true) ∧ (∀ k, i < k → k < ops.size → ((befs ops).getD k 0).testBit i = true) := by
  unfold bars at h
  rw [List.getElem?_map, List.getElem?_range hi] at h
  simp only [Option.map_some, Option.some.injEq, barAt, List.all_eq_true, List.mem_range] at h
  refine ⟨fun j hj => ?_, fun k h1 h2 => ?_⟩
  · have := h j (by omega)
    rw [if_pos hj] at this; exact this
  · have := h k h2
    rw [if_neg (by omega), if_pos h1] at this; exact this

set_option maxHeartbeats 1000000 in
theorem drawL_spec {call : CallFn} (hcall : CallSound P call) (hgr : CallGrows call) {ops : Array Oper} (hok : okRegion ops = true) {Q : Exit → Act → World → Prop} {t' : Tr} {s' : St} {r' : Ranges} {d : List Deferred} (hh : s'.Holds) :
    ∀ (len z : Nat) (t : Tr) (s : St) (a : Act) (ρ : Rho) (w : World) (listed : Array Bool), z + len = ops.size → drawL P call ops (befs ops) ((bars ops).drop z) z (t, s, []) = some (t', s', r') →
    HRel P B ρ s.heap w → TRel s.heap.size ρ t a.tmps → a.defers = d → After P B ρ s w t' s' (Q .normal) d →
    listed.size = ops.size → (∀ k, k < ops.size → listed.getD k false = decide (k < z)) → wpAny P .any ops Q (ops.size - z) listed a w := by
  intro len
  induction len using Nat.strongRecOn with
  | _ len ih =>
    intro z t s a ρ w listed hz h hr ht hd hK hs hl
    have hbl : (bars ops).length = ops.size := by simp [bars]
    obtain ⟨m, rest, hbs, hrest⟩ := leads ((bars ops).drop z)
    have hlen : ops.size - z = m + rest.length := by
      have := congrArg List.length hbs
      simpa [hbl] using this
    rw [hbs, drawL_split] at h
    obtain ⟨⟨t1, s1, r1⟩, hrun, h⟩ := Option.bind_eq_some_iff.1 h
    have g1 : Grows s1 s' := drawL_grows hgr _ _ h
    have hh1 : s1.Holds := g1.holds hh
    have htop : z + m ≤ ops.size := by omega
    obtain ⟨T, S, R, o, v, K, tr, rfl, rfl, rfl, rfl⟩ := trace_of htop hrun
    have grow : ∀ i, i < m → Grows (K i) (S (i + 1)) := fun i hi => ⟨[], by rw [(tr.next i hi).2.1]; rfl⟩
    have growS : ∀ i, i < m → Grows (S i) (K i) := fun i hi => by
      obtain ⟨l, e⟩ := evStepV_grows hgr (tr.step i hi)
      exact ⟨l, e⟩
    have gto : ∀ k i, i + k ≤ m → Grows (S i) (S (i + k)) := by
      intro k
      induction k with
      | zero => intro i _; exact .refl _
      | succ k ih =>
        intro i hi
        have := (ih i (by omega)).trans ((growS (i + k) (by omega)).trans (grow (i + k) (by omega)))
        rwa [show i + (k + 1) = i + k + 1 by omega]
    have hhK : ∀ i, i < m → (K i).Holds := fun i hi => by
      have := (grow i hi).trans (gto (m - (i + 1)) (i + 1) (by omega))
      rw [show i + 1 + (m - (i + 1)) = m by omega] at this
      exact this.holds hh1
    have g0 : Grows (S 0) (S m) := by
      have := gto m 0 (by omega)
      rwa [Nat.zero_add] at this
    have hbar : ∀ k, z + m ≤ k → k < ops.size → ∀ j, j < z + m → ((befs ops).getD k 0).testBit j = true := by
      intro k h1 h2 j hj
      rcases hrest with rfl | ⟨rest, rfl⟩
      · simp at hlen; omega
      · have hb : (bars ops)[z + m]? = some true := by
          rw [← List.getElem?_drop, hbs, List.getElem?_append_right (by simp)]; simp
        obtain ⟨b1, b2⟩ := bar_spec hok (by omega) hb
        rcases Nat.lt_or_ge (z + m) k with h3 | h3
        · exact pre_trans hok k h2 (z + m) j (b2 k h3 h2) (b1 j hj)
        · have : k = z + m := by omega
          subst this; exact b1 j hj
    have : ops.size - z = ops.size - (z + m) + cnt (fun k => !listed.getD k true) (z + m) := by
      have e : ∀ n, n ≤ m → cnt (fun k => !listed.getD k true) (z + n) = n := by
        intro n
        induction n with
        | zero => intro _; exact cnt_none fun k hk => by rw [bothD (by omega), hl k (by omega)]; simp; omega
        | succ n ih =>
          intro hn
          rw [show z + (n + 1) = z + n + 1 by omega]
          simp only [cnt]
          have e0 : listed.getD (z + n) true = false := by rw [bothD (by omega), hl (z + n) (by omega)]; simp
          rw [ih (by omega)]
          simp [e0]
      rw [e m (Nat.le_refl _)]; omega
    rw [this]
    refine Inv.phase (B := B) hcall hgr hok tr hhK (ρ0 := ρ) (w0 := w) (d0 := d) hbar ?_ _ listed ρ a w hs rfl (fun k hk => by rw [hl k (by omega)]; simp [hk]) (fun k h1 h2 => by rw [hl k h2]; simp; omega) (fun k hk hlk j hp => ?_) ?_
    · intro listed1 ρ1 a1 w1 hs1 hl1 J
      obtain ⟨d1, d2, d3, d4⟩ := J.done tr g0 hr
      rcases hrest with rfl | ⟨rest, rfl⟩
      · -- it is all done
        have hzm : z + m = ops.size := by simp at hlen; omega
        simp only [drawL, Option.some.injEq, Prod.mk.injEq] at h
        obtain ⟨rfl, rfl, rfl⟩ := h
        rw [hzm, Nat.sub_self]
        refine ⟨?_, hK a1 ρ1 w1 d1 d2 d3 d4⟩
        cases hrd : Region.ready .any ops listed1 with
        | nil => rfl
        | cons k r =>
          have hk : k ∈ Region.ready .any ops listed1 := by rw [hrd]; exact List.mem_cons_self
          obtain ⟨h1, x, h2, _⟩ := mem_ready.1 hk
          have hlt := (Array.getElem?_eq_some_iff.1 h2).1
          rw [bothD (by omega), hl1 k hlt] at h1
          simp at h1; omega
      · -- the one that stands between
        have hzm : z + m < ops.size := by simp at hlen; omega
        have hb : (bars ops)[z + m]? = some true := by
          rw [← List.getElem?_drop, hbs, List.getElem?_append_right (by simp)]; simp
        obtain ⟨b1, b2⟩ := bar_spec hok hzm hb
        simp only [drawL] at h
        split at h
        case h_2 => cases h
        rename_i y hy
        obtain ⟨oo, vv, ho, hv, e1, e2⟩ := stepB_eq hy
        obtain ⟨ty, sy, ry⟩ := y
        simp only at e1 e2 hv ho
        subst e1 e2
        have g2 : Grows sy s' := drawL_grows hgr _ _ h
        obtain ⟨fuel, hf⟩ : ∃ fuel, ops.size - (z + m) = fuel + 1 := ⟨ops.size - (z + m) - 1, by omega⟩
        have hcl1 : ∀ k, k < ops.size → listed1.getD k false = true → ∀ j, ((befs ops).getD k 0).testBit j = true → listed1.getD j false = true := fun k hk hlk j hp => by
          have := pre_lt hok k hk j hp
          rw [hl1 k hk] at hlk
          rw [hl1 j (by omega)]
          simp at hlk ⊢; omega
        rw [hf]
        refine ⟨fun hrd => ?_, fun i hi => ?_⟩
        · have := rdy_nil hok hs1 hrd (z + m) hzm
          rw [hl1 _ hzm] at this
          simp at this
        · obtain ⟨hlt, hno, hpre⟩ := rdy_mem hok hs1 hcl1 hi
          have him : i = z + m := by
            rw [hl1 i hlt] at hno
            simp at hno
            rcases Nat.lt_or_ge (z + m) i with h3 | h3
            · have := hpre (z + m) (b2 i h3 hlt)
              rw [hl1 _ hzm] at this
              simp at this
            · omega
          subst him
          unfold wpOp
          rw [ho]
          refine evStepV_spec hcall hgr hv (g2.holds hh) d3 d2 fun v' ρ' w' q1 q2 q3 => ?_
          have hdrop : (bars ops).drop (z + m + 1) = rest := by
            have : (bars ops).drop (z + m + 1) = ((bars ops).drop z).drop (m + 1) := by rw [List.drop_drop]; congr 1
            rw [this, hbs, List.drop_append, List.drop_eq_nil_of_le (by simp)]
            simp
          have := ih (ops.size - (z + m + 1)) (by omega) (z + m + 1) _ sy (a1.put oo.dst v') ρ' w' (listed1.setIfInBounds (z + m) true) (by omega) (by rw [hdrop]; exact h) q2
            ((d2.mono q3.size fun i hi => q3.rho i (.inl hi)).put oo.dst q1) (by rw [put_defers]; exact d1) (fun a' ρ2 w2 k1 k2 k3 k4 => hK a' ρ2 w2 k1 k2 k3 (d4.trans (q3.trans k4))) (by simp [hs1])
            (fun k hk => by
              rw [set_getD (by omega), hl1 k hk]
              by_cases hkm : k = z + m
              · simp [hkm]
              · rw [if_neg hkm]; congr 1; simp; omega)
          rwa [show ops.size - (z + m + 1) = fuel by omega] at this
    · have := pre_lt hok k hk j hp
      rw [hl k hk] at hlk
      rw [hl j (by omega)]
      simp at hlk ⊢; omega
    · have none : ∀ k, k < m → ¬ listed.getD (z + k) false = true := by
        intro k hk; rw [hl _ (by omega)]; simp
      exact ⟨hr, fun j hj h => absurd h (none j hj), fun j hj h => absurd h (none j hj), fun j k hj _ h => absurd h (none j hj), fun τ _ => ht.get τ, fun j hj h => absurd h (none j hj), ⟨ht.has, hd⟩, fun _ _ => rfl, .refl _ _, fun j hj h => absurd h (none j hj)⟩

theorem front_get {ops : Array Oper} (i : Nat) : (front ops)[i]? = (ops[i]?).map (frontO (floats ops) i) := by
  have : ∀ (l : List Oper) (k i : Nat), (frontL (floats ops) k l)[i]? = (l[i]?).map (frontO (floats ops) (k + i)) := by
    intro l
    induction l with
    | nil => intro k i; simp [frontL]
    | cons o r ih =>
      intro k i
      cases i with
      | zero => simp [frontL]
      | succ i => simp only [frontL, List.getElem?_cons_succ, ih]; rw [show k + 1 + i = k + (i + 1) by omega]
  have := this ops.toList 0 i
  rw [Nat.zero_add] at this
  rw [front, List.getElem?_toArray, this, Array.getElem?_toList]
theorem front_size {ops : Array Oper} : (front ops).size = ops.size := by
  have : ∀ (l : List Oper) (k : Nat), (frontL (floats ops) k l).length = l.length := by
    intro l
    induction l with
    | nil => intro k; rfl
    | cons o r ih => intro k; simp [frontL, ih]
  simp [front, this]
theorem frontO_same (fl : List Nat) (i : Nat) (o : Oper) : (frontO fl i o).dst = o.dst ∧ (frontO fl i o).guard = o.guard ∧ (∀ ev, execOp ev (frontO fl i o) = execOp ev o) := by
  unfold frontO
  split
  · exact ⟨rfl, rfl, fun _ => rfl⟩
  · exact ⟨rfl, rfl, fun _ => rfl⟩
theorem front_yielded {ops : Array Oper} (t : Array Value) (j : Nat) : yielded (front ops) t j = yielded ops t j := by
  unfold yielded
  rw [front_get]
  cases ops[j]? with
  | none => rfl
  | some o => simp [(frontO_same _ _ o).1]
theorem front_wpOp {ops : Array Oper} {Q : Exit → Act → World → Prop} {i : Nat} {K : Act → World → Prop} {a : Act} {w : World} : wpOp P (front ops) Q i K a w ↔ wpOp P ops Q i K a w := by
  unfold wpOp
  rw [front_get]
  cases ho : ops[i]? with
  | none => simp
  | some o =>
    obtain ⟨h1, h2, h3⟩ := frontO_same (floats ops) i o
    have hy : yielded (front ops) a.tmps = yielded ops a.tmps := funext fun j => front_yielded _ _
    simp only [Option.map_some, hy]
    have hw : Region.wanted (frontO (floats ops) i o) (yielded ops a.tmps) = Region.wanted o (yielded ops a.tmps) := by unfold Region.wanted; rw [h2]
    have hu : ∀ r, (frontO (floats ops) i o).upon P a K Q r = o.upon P a K Q r := by
      intro r
      unfold Oper.upon
      rw [h1]
    rw [hw, h1]
    unfold Oper.wp Oper.asks
    rw [h3, hu]

theorem floats_spec {ops : Array Oper} {f : Nat} (h : f ∈ floats ops) : ∃ o, ops[f]? = some o ∧ isMove o = true ∧ Region.noSelect ops = true ∧ Region.free .any ops (Array.replicate ops.size false) f = true := by
  unfold floats at h
  split at h
  case isFalse => cases h
  rename_i hs
  obtain ⟨_, h2⟩ := List.mem_filter.1 h
  simp only [Bool.and_eq_true] at h2
  split at h2
  · exact ⟨_, ‹_›, h2.1, hs, h2.2⟩
  · exact absurd h2.1 (by simp)
theorem move_yields {ops : Array Oper} {o : Oper} (h : isMove o = true) (a : Act) : ∃ v, Yields P ops o v a := by
  unfold isMove at h
  simp only [Bool.and_eq_true, Option.isNone_iff_eq_none] at h
  have hw : Region.wanted o (yielded ops a.tmps) = true := by unfold Region.wanted; rw [h.1.2]
  have h1 := h.1.1
  split at h1
  · rename_i x hx; exact ⟨a.eval x, .inl ⟨hw, fun w => by unfold execOp; rw [hx]; rfl⟩⟩
  · rename_i x hx; exact ⟨a.eval x, .inl ⟨hw, fun w => by unfold execOp; rw [hx]; rfl⟩⟩
  · cases h1

theorem late {ops : Array Oper} {listed : Array Bool} (hs : listed.size = ops.size) {i : Nat} (hi : i ∈ Region.ready .any ops listed) (hn : ¬ i ∈ Region.ready .any (front ops) listed) :
    ∃ f, f ∈ floats ops ∧ f ∈ Region.ready .any (front ops) listed := by
  obtain ⟨h1, o, h2, h3⟩ := mem_ready.1 hi
  refine Decidable.byContradiction fun hno => hn (mem_ready.2 ⟨h1, frontO (floats ops) i o, by rw [front_get, h2]; rfl, fun e he hb => ?_⟩)
  unfold frontO at he
  split at he
  · exact h3 e he hb
  · simp only [List.mem_toArray, List.mem_append, List.mem_map, List.mem_filter] at he
    rcases he with he | ⟨f, ⟨hf, _⟩, rfl⟩
    · exact h3 e (by simpa using he) hb
    · simp only
      cases hv : listed.getD f false with
      | true => rfl
      | false =>
        exfalso
        refine hno ⟨f, hf, ?_⟩
        obtain ⟨x, hx, hm, _⟩ := floats_spec hf
        have hlt := (Array.getElem?_eq_some_iff.1 hx).1
        refine mem_ready.2 ⟨by rw [bothD (by omega)]; exact hv, frontO (floats ops) f x, by rw [front_get, hx]; rfl, fun e he hb => ?_⟩
        unfold frontO at he
        rw [if_pos hm] at he
        unfold isMove at hm
        simp only [Bool.and_eq_true, Array.isEmpty_iff] at hm
        rw [hm.2] at he
        simp at he
theorem noAsk {o : Oper} (hm : isMove o = true) {a : Act} {w : World} (h : o.asks P a w) : False := by
  unfold isMove at hm
  simp only [Bool.and_eq_true] at hm
  have h1 := hm.1.1
  unfold Oper.asks at h
  split at h1
  · rename_i x hx; unfold execOp at h; rw [hx] at h; have h2 : noRoomEvent ∈ (#[] : Array Event) := h.1; simp at h2
  · rename_i x hx; unfold execOp at h; rw [hx] at h; have h2 : noRoomEvent ∈ (#[] : Array Event) := h.1; simp at h2
  · cases h1
/-- Who lets these moves be made first asks for no less. -/
theorem wpAny_front {ops : Array Oper} {Q : Exit → Act → World → Prop} (hQ : ∀ c a w, ¬ Q (.panic c) a w) : ∀ (n : Nat) (listed : Array Bool) (a : Act) (w : World), listed.size = ops.size →
    wpAny P .any (front ops) Q n listed a w → wpAny P .any ops Q n listed a w := by
  have mem : ∀ {listed : Array Bool} {i : Nat}, i ∈ Region.ready .any (front ops) listed → i ∈ Region.ready .any ops listed := by
    intro listed i hi
    obtain ⟨h1, o', h2, h3⟩ := mem_ready.1 hi
    rw [front_get] at h2
    cases ho : ops[i]? with
    | none => rw [ho] at h2; cases h2
    | some o =>
      rw [ho] at h2
      simp only [Option.map_some, Option.some.injEq] at h2
      subst h2
      refine mem_ready.2 ⟨h1, o, ho, fun e he hb => h3 e ?_ hb⟩
      unfold frontO
      split
      · exact he
      · simp only [List.mem_toArray, List.mem_append]; exact .inl (by simpa using he)
  intro n
  induction n with
  | zero =>
    intro listed a w hs H
    refine ⟨?_, H.2⟩
    cases hr : Region.ready .any ops listed with
    | nil => rfl
    | cons i r =>
      -- the first of what may be next might be next there as well
      exfalso
      have hi : i ∈ Region.ready .any ops listed := by rw [hr]; exact List.mem_cons_self
      by_cases hf : i ∈ Region.ready .any (front ops) listed
      · rw [H.1] at hf; cases hf
      · obtain ⟨f, hf⟩ := late hs hi hf
        rw [H.1] at hf
        cases hf.2
  | succ n ih =>
    intro listed a w hs H
    refine ⟨fun hr => H.1 ?_, fun i hi => ?_⟩
    · cases hr' : Region.ready .any (front ops) listed with
      | nil => rfl
      | cons i r =>
        have := mem (listed := listed) (i := i) (by rw [hr']; exact List.mem_cons_self)
        rw [hr] at this; cases this
    · by_cases hf : i ∈ Region.ready .any (front ops) listed
      · exact wpOp_mono (fun a' w' h => ih _ _ _ (by simpa using hs) h) (front_wpOp.1 (H.2 i hf))
      · obtain ⟨f, hfl, hrf⟩ := late hs hi hf
        obtain ⟨o, ho, hm, hsel, hfree⟩ := floats_spec hfl
        obtain ⟨v, hy⟩ := move_yields (P := P) (ops := ops) hm a
        have h1 : wpOp P ops Q f (wpAny P .any (front ops) Q n (listed.setIfInBounds f true)) a w := front_wpOp.1 (H.2 f hrf)
        have h2 : wpAny P .any (front ops) Q n (listed.setIfInBounds f true) (a.put o.dst v) w := by
          unfold wpOp at h1
          rw [ho] at h1
          rcases hy with ⟨hw, hv⟩ | ⟨hw, _⟩
          · simp only [hw, if_true] at h1
            rcases h1 with h1 | ⟨h1, _⟩
            · unfold Oper.wp at h1; rw [hv w] at h1; exact h1
            · exfalso
              exact noAsk hm h1
          · exfalso
            unfold isMove at hm
            simp only [Bool.and_eq_true, Option.isNone_iff_eq_none] at hm
            unfold Region.wanted at hw
            rw [hm.1.2] at hw; cases hw
        have h3 := wpAny_first (P := P) (md := .any) (Q := Q) ho (Region.noSelect_spec hsel) (fun c a w h => absurd h (hQ _ _ _)) n listed a w
          (fun j oj hj hne _ hno => Region.free_spec ho hfree j oj hj hne (by
            have := (Array.getElem?_eq_some_iff.1 hj).1
            simp [Array.getD, this]) hno) (mem hrf) hy (ih _ _ _ (by simpa using hs) h2)
        exact h3.2 i hi

theorem evDrawOld_spec {call : CallFn} (hcall : CallSound P call) (hgr : CallGrows call) (hm : P.follows .mixedOrders = true) {ops : Array Oper} (hok : okRegion (front ops) = true) {id : Nat} {Q : Exit → Act → World → Prop}
    {t t' : Tr} {s s' : St} {a : Act} {ρ : Rho} {w : World} (h : evDrawOld P call ops t s = some (t', s')) (hh : s'.Holds) (hr : HRel P B ρ s.heap w) (ht : TRel s.heap.size ρ t a.tmps)
    (hK : After P B ρ s w t' s' (Q .normal) a.defers) : (Code.region id ops true).wp P Q a w := by
  unfold evDrawOld at h
  split at h
  case h_2 => cases h
  rename_i t1 s1 r1 hrun
  simp only [Option.some.injEq, Prod.mk.injEq] at h
  obtain ⟨rfl, rfl⟩ := h
  have hst : Step B ρ s w ρ s { w with drawn := w.drawn + 1 } := ⟨fun _ _ => rfl, Nat.le_refl _, Nat.le_refl _, fun _ _ _ o' h => ⟨o', h, fun h => h, .inl rfl⟩, (Below.refl B w).drew, ⟨[], rfl⟩, fun id o o' h h' => same_refl (C := fun id j => j < (ρ id).size → w.cell? ⟨(ρ id).blk, (ρ id).shift + j, none⟩ = w.cell? ⟨(ρ id).blk, (ρ id).shift + j, none⟩) (fun _ _ _ => rfl) id o o' h h'⟩
  let Q' : Exit → Act → World → Prop := fun e a w => match e with
    | .normal => Q .normal a w
    | _ => False
  have h1 := drawL_spec (B := B) hcall hgr hok (Q := Q') hh (front ops).size 0 t s a ρ { w with drawn := w.drawn + 1 } (Array.replicate (front ops).size false) (by omega) (by simpa using hrun) (hr.world (Nat.le_refl _) fun _ _ => ⟨rfl, rfl⟩) ht rfl
    (fun a' ρ' w' k1 k2 k3 k4 => hK a' ρ' w' k1 k2 k3 (hst.trans k4)) (by simp) (fun k hk => by simp [Array.getD, hk])
  rw [front_size] at h1
  have h2 := wpAny_front (P := P) (Q := Q') (fun c a w h => h) ops.size _ a { w with drawn := w.drawn + 1 } (by simp) h1
  exact Code.wp_mono (fun e a w h => by cases e <;> first | exact h | exact h.elim) (wp_region_any hm h2)
end Go.Ev
