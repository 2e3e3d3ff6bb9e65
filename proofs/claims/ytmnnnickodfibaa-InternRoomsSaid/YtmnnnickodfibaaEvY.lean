/- SYMBOLIC PIECES, AND A CALL THAT IS HANDED ROWS: rows of which little is known are kept as they are. -/
import Derived.Test.YtmnnnickodfibaaEvX
namespace Go.Ev
open Go.RowKit
variable {P : Program}
/-- No number of an object stands in it. -/
def plainV (v : Value) : Bool := flat v || isGone v
theorem plain_rel {n n' : Nat} {ρ ρ' : Rho} {v v' : Value} (hp : plainV v = true) (h : VRel n ρ v v') : VRel n' ρ' v v' := by
  simp only [plainV, Bool.or_eq_true] at hp
  by_cases hf : Ev.flat v = true
  · rw [h.eq_of_flat hf]; exact .flat hf
  · have hg : isGone v = true := hp.resolve_left hf
    cases h with
    | any _ h' => exact .any hg h'
    | flat h => exact absurd h hf
    | ptr _ => cases hg
    | slice => cases hg
    | slice0 => cases hg
    | noRoom => cases hg
    | agg => cases hg
    | tuple => cases hg
    | func => cases hg
    | iface => cases hg
/-- What is kept: an object's number, and whether it is kept as it is. -/
noncomputable def keepP (g : Nat) (m : List Nat) (H : Array AObj) : List (Nat × Bool) → Option (List AObj × List Prop)
  | [] => some ([], [])
  | (b, as) :: r => match getQ H b with
    | some o => match as with
      | true => match Nat.blt o.st 3, keepP g m H r with
        | true, some (os, cs) => some ({ o with prev := o.prev.filterMap (newId g m), ver := 0 } :: os, (o.cells.toList.all plainV = true) :: cs)
        | _, _ => none
      | false => match renO g m o, keepP g m H r with
        | some o', some (os, cs) => some ({ o' with ver := 0 } :: os, cs)
        | _, _ => none
    | none => none
/-- How an object that is kept stands to what it was. -/
def KeptO (g : Nat) (m : List Nat) (o o' : AObj) : Prop :=
  o.st < 3 ∧ o'.st = o.st ∧ o'.esz = o.esz ∧ o'.prev = o.prev.filterMap (newId g m) ∧ o'.cells.size = o.cells.size ∧
    ∀ (i : Nat) (h1 : i < o.cells.size) (h2 : i < o'.cells.size), renV g m o.cells[i] = some o'.cells[i] ∨ (o'.cells[i] = o.cells[i] ∧ plainV o.cells[i] = true)
theorem keepP_spec {g : Nat} {m : List Nat} {H : Array AObj} : ∀ {l : List (Nat × Bool)} {L : List AObj} {cs : List Prop}, keepP g m H l = some (L, cs) → (∀ p ∈ cs, p) →
    L.length = l.length ∧ ∀ (i : Nat) (o' : AObj), L[i]? = some o' → ∃ b o, (l.map (·.1))[i]? = some b ∧ H[b]? = some o ∧ KeptO g m o o'
  | [], L, cs, h, _ => by simp only [keepP, Option.some.injEq, Prod.mk.injEq] at h; obtain ⟨rfl, rfl⟩ := h; exact ⟨rfl, by simp⟩
  | (b, as) :: r, L, cs, h, hh => by
    simp only [keepP, getQ_eq] at h
    split at h
    case h_2 => cases h
    rename_i o ho
    split at h
    · split at h
      · rename_i os cs' h1 h2
        simp only [Option.some.injEq, Prod.mk.injEq] at h; obtain ⟨rfl, rfl⟩ := h
        obtain ⟨k1, k2⟩ := keepP_spec h2 (fun p hp => hh p (List.mem_cons_of_mem _ hp))
        refine ⟨by simp [k1], fun i x hi => ?_⟩
        cases i with
        | zero =>
          simp only [List.getElem?_cons_zero, Option.some.injEq] at hi; subst hi
          have hall := hh _ (List.mem_cons_self ..)
          exact ⟨b, o, rfl, ho, Nat.le_of_ble_eq_true h1, rfl, rfl, rfl, rfl, fun i q1 q2 => .inr ⟨rfl, List.all_eq_true.1 hall _ (by simp)⟩⟩
        | succ i =>
          obtain ⟨b', o2, q1, q2, q3⟩ := k2 i x (by simpa using hi)
          exact ⟨b', o2, by simpa using q1, q2, q3⟩
      · cases h
    · split at h
      · rename_i o' os cs' h1 h2
        simp only [Option.some.injEq, Prod.mk.injEq] at h; obtain ⟨rfl, rfl⟩ := h
        obtain ⟨k1, k2⟩ := keepP_spec h2 hh
        refine ⟨by simp [k1], fun i x hi => ?_⟩
        cases i with
        | zero =>
          simp only [List.getElem?_cons_zero, Option.some.injEq] at hi; subst hi
          obtain ⟨z1, z2, z3, z4, z5, z6⟩ := renO_spec h1
          exact ⟨b, o, rfl, ho, z1, z2, z3, z4, z5, fun i q1 q2 => .inl (z6 i q1 q2)⟩
        | succ i =>
          obtain ⟨b', o2, q1, q2, q3⟩ := k2 i x (by simpa using hi)
          exact ⟨b', o2, by simpa using q1, q2, q3⟩
      · cases h
/-- All but 'm' and 'ks' is let go. -/
noncomputable def viewP (g : Nat) (m : List (Nat × Bool)) (ks : List Nat) (n : Nat) (H : Array AObj) (t : Tr) : Option (List AObj × List (Nat × Value) × List Prop) :=
  match freshM g (m.map (·.1)) && (t.has (n - 1) && !t.has n) && Nat.ble n 8190 && Nat.blt 0 n, keepP g (m.map (·.1)) H m, keepV g (m.map (·.1)) t ks with
  | true, some (L, cs), some K => some (L, K, cs)
  | _, _, _ => none
theorem viewR {g n n' : Nat} {m : List Nat} {ρ : Rho} {v u v' : Value} (hn : n' = g + m.length) (h : VRel n ρ v v') (hu : renV g m v = some u ∨ (u = v ∧ plainV v = true)) : VRel n' (rhoK g m ρ) u v' := by
  rcases hu with hu | ⟨rfl, hp⟩
  · exact renV_rel hn h hu
  · exact plain_rel hp h
theorem viewS {g : Nat} {m : List Nat} {v u : Value} (hu : renV g m v = some u ∨ (u = v ∧ plainV v = true)) (h : scalar v = true) : scalar u = true := by
  rcases hu with hu | ⟨rfl, hp⟩
  · exact renV_scalar hu h
  · exact h
theorem At.viewP {W0 : World} {H : Array AObj} {t : Tr} {a : Act} {w : World} {mb : List (Nat × Bool)} {ks : List Nat} {n : Nat} {L : List AObj} {K : List (Nat × Value)} {cs : List Prop} (h : At P W0 H t a w)
    (hv : viewP P.globals.size mb ks n H t = some (L, K, cs)) (hh : ∀ p ∈ cs, p) : At P W0 (hk P.globals.size L) (tk n K) a w := by
  obtain ⟨⟨ρ, hr, ht⟩, hbel, hdef⟩ := h
  unfold Ev.viewP at hv
  split at hv
  case h_2 => cases hv
  rename_i L' cs' K' hc hL hK
  simp only [Option.some.injEq, Prod.mk.injEq] at hv
  obtain ⟨rfl, rfl, rfl⟩ := hv
  have hlm : (mb.map (·.1)).length = mb.length := by simp
  generalize hm : mb.map (·.1) = m at hc hL hK hlm
  simp only [Bool.and_eq_true, Bool.not_eq_true'] at hc
  obtain ⟨⟨⟨hfresh, hlast, hno⟩, hn⟩, hpos⟩ := hc
  have hn := Nat.le_of_ble_eq_true hn
  have hpos : 0 < n := Nat.le_of_ble_eq_true hpos
  obtain ⟨hnd, hge⟩ := freshM_spec hfresh
  obtain ⟨hlen, hobj⟩ := keepP_spec hL hh
  rw [hm] at hobj
  have hsz : (hk P.globals.size L').size = P.globals.size + m.length := by simp [hk, hlen, hlm]
  have hasz : a.tmps.size = n := by
    have h1 := ht.has (n - 1)
    have h2 := ht.has n
    rw [hlast] at h1; rw [hno] at h2
    simp at h1 h2
    omega
  have rk : ∀ {id b : Nat}, P.globals.size ≤ id → m[id - P.globals.size]? = some b → rhoK P.globals.size m ρ id = ρ b := by
    intro id b h1 h2
    unfold rhoK
    rw [if_neg (by omega), h2]
  have each : ∀ {id : Nat} {o' : AObj}, (hk P.globals.size L')[id]? = some o' → o'.st < 3 → ∃ b o, P.globals.size ≤ id ∧ m[id - P.globals.size]? = some b ∧ H[b]? = some o ∧ KeptO P.globals.size m o o' ∧ rhoK P.globals.size m ρ id = ρ b := by
    intro id o' h1 h2
    obtain ⟨q1, q2⟩ := hk_get h1 h2
    obtain ⟨b, o, q3, q4, q5⟩ := hobj _ _ q2
    exact ⟨b, o, q1, q3, q4, q5, rk q1 q3⟩
  refine ⟨⟨rhoK P.globals.size m ρ, ⟨⟨by omega, fun g hg => ?_⟩, hr.base, fun id o' ho hs => ?_, fun id o' ho hs => ?_, fun id o' ho hs => ?_⟩, ⟨fun i => ?_, fun i => ?_⟩⟩, hbel, hdef⟩
  · unfold rhoK; rw [if_pos hg]; exact hr.glob.2 g hg
  · obtain ⟨b, o, q1, q2, q3, q4, q5⟩ := each ho hs
    obtain ⟨z1, z2, z3, z4, z5, z6⟩ := q4
    obtain ⟨g1, g2, g3, g4⟩ := hr.obj b o q3 z1
    rw [q5]
    refine ⟨by rw [g1, z5], by rw [g2, z3], g3, fun j hj => ?_⟩
    obtain ⟨c', c1, c2, c3⟩ := g4 j (by omega)
    exact ⟨c', c1, viewS (z6 j (by omega) hj) c2, viewR hsz c3 (z6 j (by omega) hj)⟩
  · have hs3 : o'.st < 3 := by rcases hs with h | h <;> omega
    obtain ⟨b, o, q1, q2, q3, q4, q5⟩ := each ho hs3
    obtain ⟨z1, z2, _⟩ := q4
    rw [q5]
    exact hr.own b o q3 (by rw [← z2]; exact hs)
  · obtain ⟨b, o, q1, q2, q3, q4, q5⟩ := each ho (by omega)
    obtain ⟨z1, z2, z3, z4, z5, z6⟩ := q4
    obtain ⟨e1, e2, e3⟩ := hr.head b o q3 (by omega)
    rw [q5]
    refine ⟨e1, by omega, fun id2 o2' h2 hs2 hne hblk => ?_⟩
    obtain ⟨b2, o2, p1, p2, p3, p4, p5⟩ := each h2 hs2
    obtain ⟨y1, y2, y3, y4, y5, y6⟩ := p4
    rw [p5] at hblk ⊢
    have hb2 : b2 ≠ b := by
      rintro rfl
      have k1 := idxN_of hnd q2
      have k2 := idxN_of hnd p2
      rw [k1] at k2
      simp only [Option.some.injEq] at k2
      omega
    obtain ⟨f1, f2, f3⟩ := e3 b2 o2 p3 y1 hb2 hblk
    refine ⟨?_, by omega, by omega⟩
    rw [z4]
    refine List.mem_filterMap.2 ⟨b2, f1, ?_⟩
    have hb2g := hge b2 (List.mem_of_getElem? p2)
    unfold newId
    have : Nat.blt b2 P.globals.size = false := by
      cases hq : Nat.blt b2 P.globals.size with
      | false => rfl
      | true => have : b2 < P.globals.size := Nat.le_of_ble_eq_true hq
                omega
    rw [this, idxN_of hnd p2]
    simp only [Option.some.injEq]
    omega
  · rw [hasz]
    by_cases hi : i < 8191
    · have := (Tr.mk_spec n (lookK K') 13 1 0 (by omega) i (by omega)).1
      unfold tk
      rw [this]; simp
    · have : ¬ i < n := by omega
      simp only [this, decide_false]
      exact mk_has_far n _ 13 1 0 (by omega) i (by omega)
  · by_cases hi : i < n
    · have hg := (Tr.mk_spec n (lookK K') 13 1 0 (by omega) i (by omega)).2 (by omega)
      simp only [Nat.one_mul, Nat.add_zero] at hg
      unfold tk
      rw [hg]
      rcases keepV_spec hK i with h1 | h1
      · left; rw [h1]; rfl
      · rcases ht.get i with h2 | ⟨v', h2, h3⟩
        · left
          exfalso
          cases hv : t.get i <;> rw [hv] at h1 h2 <;> simp [isGone] at h2
          rename_i fn fi ca
          cases fn <;> simp [renV, flat] at h1
        · exact .inr ⟨v', h2, renV_rel hsz h3 h1⟩
    · left
      unfold tk
      rw [Tr.get_none]
      · rfl
      · by_cases hi2 : i < 8191
        · rw [(Tr.mk_spec n (lookK K') 13 1 0 (by omega) i (by omega)).1]; simp; omega
        · exact mk_has_far n _ 13 1 0 (by omega) i (by omega)

/-- One piece along a path: what is asked of the symbols stands in the list. -/
noncomputable def pieceS (P : Program) (E : Env) (f fuel g : Nat) (c : Code) (n : Nat) (m : List (Nat × Bool)) (ks : List Nat) (L : List AObj) (K : List (Nat × Value)) (π : List Ans) : Option (AExit × List AObj × List (Nat × Value) × List Prop × List Prop) :=
  match evCodeF P E (evCall P E fuel) f fuel c (tk n K) ⟨hk g L, 0, some π, []⟩ with
  | some (e, t, s) => match Ev.viewP g m ks n s.heap t with
    | some (L', K', cs) => some (e, L', K', s.cons, cs)
    | none => none
  | none => none
theorem pieceS_goes {E : Env} (hE : E.Sound P) (hP : Good P) {W0 : World} {f fuel n : Nat} {c : Code} {m : List (Nat × Bool)} {ks : List Nat} {L L' : List AObj} {K K' : List (Nat × Value)} {π : List Ans} {e : AExit} {cs ds : List Prop} (hok : okCode c = true)
    (h : pieceS P E f fuel P.globals.size c n m ks L K π = some (e, L', K', cs, ds)) (hc : ∀ p ∈ cs, p) (hd : ∀ p ∈ ds, p) : GoesK P W0 c n L K e L' K' := by
  unfold pieceS at h
  split at h
  case h_2 => cases h
  rename_i e1 t1 s1 hrun
  split at h
  case h_2 => cases h
  rename_i L1 K1 cs1 hv
  simp only [Option.some.injEq, Prod.mk.injEq] at h
  obtain ⟨rfl, rfl, rfl, rfl, rfl⟩ := h
  rw [evCodeF_eq] at hrun
  have := Goes.run (W0 := W0) hE hP hok hrun hc
  exact fun a w Q hat hQ => this a w Q hat fun a' w' hat' => hQ a' w' (hat'.viewP hv hd)
/-- A row that was handed in: what is known of its cells. -/
structure RowHas (W : World) (o : AObj) (l : Loc) : Prop where
  st : o.st = 0
  size : l.size = o.cells.size
  esz : l.esz = o.esz
  bad : l.bad = false
  blk : l.blk < W.heap.size
  cell : ∀ (j : Nat) (hj : j < o.cells.size), ∃ c', W.cell? ⟨l.blk, l.shift + j, none⟩ = some c' ∧ scalar o.cells[j] = true ∧ (Ev.flat o.cells[j] = true ∧ c' = o.cells[j] ∨ isGone o.cells[j] = true ∧ scalar c' = true)
theorem hrel_has {W : World} {ps : List (AObj × Loc)} (h : ∀ p ∈ ps, RowHas W p.1 p.2) :
    HRel P W.heap.size (rhoRows P.globals.size (ps.map (·.2))) (hk P.globals.size (ps.map (·.1))) W := by
  have look : ∀ (id : Nat) (o : AObj), (hk P.globals.size (ps.map (·.1)))[id]? = some o → o.st = 3 ∨ ∃ p ∈ ps, o = p.1 ∧ rhoRows P.globals.size (ps.map (·.2)) id = p.2 := by
    intro id o ho
    simp only [hk, List.getElem?_toArray, List.getElem?_append, List.length_replicate, List.getElem?_replicate, List.getElem?_map] at ho
    split at ho
    · rename_i hlt
      simp only [Option.some.injEq] at ho; subst ho; exact Or.inl rfl
    · rename_i hlt
      right
      cases hp : ps[id - P.globals.size]? with
      | none => rw [hp] at ho; cases ho
      | some p =>
        rw [hp] at ho
        simp only [Option.map_some, Option.some.injEq] at ho
        refine ⟨p, List.mem_of_getElem? hp, ho.symm, ?_⟩
        unfold rhoRows
        rw [if_neg hlt, List.getElem?_map, hp]
        rfl
  refine ⟨⟨?_, fun g hg => ?_⟩, Nat.le_refl _, fun id o ho hs => ?_, fun id o ho hs => ?_, fun id o ho hs => ?_⟩
  · simp [hk]
  · unfold rhoRows; rw [if_pos hg]; exact ⟨rfl, rfl, rfl⟩
  · rcases look id o ho with h3 | ⟨p, hp, rfl, hr⟩
    · omega
    · have hf := h p hp
      rw [hr]
      refine ⟨hf.size, hf.esz, hf.blk, fun j hj => ?_⟩
      obtain ⟨c', c1, c2, c3⟩ := hf.cell j hj
      refine ⟨c', c1, c2, ?_⟩
      rcases c3 with ⟨c3, rfl⟩ | ⟨c3, c4⟩
      · exact .flat c3
      · exact .any c3 c4
  · rcases look id o ho with h3 | ⟨p, hp, rfl, _⟩
    · omega
    · have := (h p hp).st; omega
  · rcases look id o ho with h3 | ⟨p, hp, rfl, _⟩
    · omega
    · have := (h p hp).st; omega
/-- The temporaries of a call that is handed these. -/
def argsK : Nat → List Value → List (Nat × Value)
  | _, [] => []
  | i, v :: r => (i, v) :: argsK (i + 1) r
theorem lookK_args : ∀ (l : List Value) (i k : Nat), lookK (argsK i l) k = if i ≤ k then (l[k - i]?).getD gone else gone
  | [], i, k => by simp [argsK, lookK]
  | v :: r, i, k => by
    simp only [argsK, lookK]
    split
    · rename_i he
      have := Nat.eq_of_beq_eq_true he
      subst this
      simp
    · rename_i he
      have hne : i ≠ k := by
        rintro rfl
        simp at he
      rw [lookK_args r (i + 1) k]
      by_cases h1 : i + 1 ≤ k
      · rw [if_pos h1, if_pos (by omega), show k - i = k - (i + 1) + 1 by omega, List.getElem?_cons_succ]
      · rw [if_neg h1]
        by_cases h2 : i ≤ k
        · omega
        · rw [if_neg h2]
theorem at_rows {W : World} {n : Nat} (hn : n ≤ 8190) {ps : List (AObj × Loc)} (h : ∀ p ∈ ps, RowHas W p.1 p.2) {args args' : List Value} (hl : args.length ≤ n)
    (ha : LRel (hk P.globals.size (ps.map (·.1))).size (rhoRows P.globals.size (ps.map (·.2))) args args') :
    At P W (hk P.globals.size (ps.map (·.1))) (tk n (argsK 0 args)) { tmps := ⟨args'⟩ ++ Array.replicate (n - args'.length) undef, defers := [] } W := by
  have hlen : args'.length = args.length := by
    clear hl
    induction ha with
    | nil => rfl
    | cons _ _ ih => simp [ih]
  have hget : ∀ (i : Nat) (v : Value), args[i]? = some v → ∃ v', args'[i]? = some v' ∧ VRel (hk P.globals.size (ps.map (·.1))).size (rhoRows P.globals.size (ps.map (·.2))) v v' := by
    clear hl hlen
    induction ha with
    | nil => intro i v hi; simp at hi
    | cons hv _ ih =>
      intro i v hi
      cases i with
      | zero => simp only [List.getElem?_cons_zero, Option.some.injEq] at hi; subst hi; exact ⟨_, rfl, hv⟩
      | succ i => simpa using ih i v (by simpa using hi)
  have hs : ((⟨args'⟩ : Array Value) ++ Array.replicate (n - args'.length) undef).size = n := by simp; omega
  refine ⟨⟨_, hrel_has h, ⟨fun i => ?_, fun i => ?_⟩⟩, Below.refl _ _, rfl⟩
  · show (tk n (argsK 0 args)).has i = decide (i < ((⟨args'⟩ : Array Value) ++ Array.replicate (n - args'.length) undef).size)
    rw [hs]
    unfold tk
    by_cases hi : i < 8191
    · rw [(Tr.mk_spec n (lookK (argsK 0 args)) 13 1 0 (by omega) i (by omega)).1]; simp
    · have : ¬ i < n := by omega
      simp only [this, decide_false]
      exact mk_has_far n _ 13 1 0 (by omega) i (by omega)
  · by_cases hi : i < n
    · have hg := (Tr.mk_spec n (lookK (argsK 0 args)) 13 1 0 (by omega) i (by omega)).2 (by omega)
      simp only [Nat.one_mul, Nat.add_zero] at hg
      unfold tk
      rw [hg, lookK_args, if_pos (Nat.zero_le _), Nat.sub_zero]
      cases hv : args[i]? with
      | none => left; rfl
      | some v =>
        right
        obtain ⟨v', h1, h2⟩ := hget i v hv
        have hlt := (List.getElem?_eq_some_iff.1 h1).1
        refine ⟨v', ?_, by simpa using h2⟩
        rw [Array.getElem?_append_left (by simpa using hlt), List.getElem?_toArray]; exact h1
    · left
      unfold tk
      rw [Tr.get_none]
      · rfl
      · by_cases hi2 : i < 8191
        · rw [(Tr.mk_spec n (lookK (argsK 0 args)) 13 1 0 (by omega) i (by omega)).1]; simp; omega
        · exact mk_has_far n _ 13 1 0 (by omega) i (by omega)
/-- A call that is handed rows, and whose body goes so. -/
theorem GoesK.calls {W : World} {f : Nat} {fn : Func} {c : Code} {ps : List (AObj × Loc)} {args args' : List Value} {L' : List AObj} {K' : List (Nat × Value)} {e : AExit} {v : Value} {s' : St} (hf : P.funcs[f]? = some fn) (hb : fn.body = some c) (hn : fn.ntmps ≤ 8190)
    (h : ∀ p ∈ ps, RowHas W p.1 p.2) (hl : args.length ≤ fn.ntmps) (ha : LRel (hk P.globals.size (ps.map (·.1))).size (rhoRows P.globals.size (ps.map (·.2))) args args')
    (hg : GoesK P W c fn.ntmps (ps.map (·.1)) (argsK 0 args) e L' K') (he : e = .ret ∨ e = .normal) (hres : evResults P (tk fn.ntmps K') fn.results.toList ⟨hk P.globals.size L', 0, none, []⟩ = some ([v], s')) (hcons : s'.cons = []) (hv : Ev.flat v = true) :
    Calls P f ⟨args'⟩ W fun e W' => e = .returned v ∧ Below W.heap.size W W' := by
  refine calls_of_wp hf hb (hg _ W _ (at_rows hn h hl ha) fun a' w' hat => ?_)
  obtain ⟨⟨ρ, hr, ht⟩, hbel, hdef⟩ := hat
  obtain ⟨_, vs', e1, e2⟩ := evResults_spec _ _ _ _ hres (fun p hp => by rw [hcons] at hp; cases hp) hr ht
  have hvs : vs' = [v] := e2.eq_of_flat (by simp [flatL, hv])
  subst hvs
  have hrun := results_run e1
  have hfin : bodyPost P fn (fun e W' => e = .returned v ∧ Below W.heap.size W W') .ret a' w' := ⟨hdef, v, by simpa using hrun, rfl, hbel⟩
  rcases he with rfl | rfl
  · exact hfin
  · exact hfin
/-- One code behind the other. -/
noncomputable def evList (P : Program) (E : Env) (f fuel : Nat) : List Code → Tr → St → Option (Tr × St)
  | [], t, s => some (t, s)
  | c :: r, t, s => match evCodeF P E (evCall P E fuel) f fuel c t s with
    | some (.normal, t, s) => evList P E f fuel r t s
    | _ => none
def nest : List Code → Code → Code
  | [], d => d
  | c :: r, d => .seq c (nest r d)
theorem evList_grows {E : Env} (hE : E.Sound P) {f fuel : Nat} : ∀ (l : List Code) (t t' : Tr) (s s' : St), evList P E f fuel l t s = some (t', s') → Grows s s'
  | [], t, t', s, s', h => by simp only [evList, Option.some.injEq, Prod.mk.injEq] at h; obtain ⟨_, rfl⟩ := h; exact .refl _
  | c :: r, t, t', s, s', h => by
    simp only [evList, evCodeF_eq] at h
    split at h
    · rename_i t1 s1 h1
      exact (evCode_grows hE (evCall_grows hE fuel) _ _ _ _ _ _ _ h1).trans (evList_grows hE r _ _ _ _ h)
    · cases h
theorem evList_goes {E : Env} (hE : E.Sound P) (hP : Good P) {W0 : World} {f fuel : Nat} {d : Code} {H2 : Array AObj} {t2 : Tr} {e : AExit} : ∀ (l : List Code) (t t' : Tr) (s s' : St), (l.all okCode = true) → evList P E f fuel l t s = some (t', s') → s'.Holds →
    Goes P W0 d s'.heap t' e H2 t2 → Goes P W0 (nest l d) s.heap t e H2 t2
  | [], t, t', s, s', _, h, _, g => by simp only [evList, Option.some.injEq, Prod.mk.injEq] at h; obtain ⟨rfl, rfl⟩ := h; exact g
  | c :: r, t, t', s, s', hok, h, hh, g => by
    simp only [List.all_cons, Bool.and_eq_true] at hok
    simp only [evList, evCodeF_eq] at h
    split at h
    · rename_i t1 s1 h1
      exact .seq (Goes.run hE hP hok.1 h1 ((evList_grows hE r _ _ _ _ h).holds hh)) (evList_goes hE hP r _ _ _ _ hok.2 h hh g)
    · cases h
noncomputable def piecesS (P : Program) (E : Env) (f fuel g : Nat) (l : List Code) (n : Nat) (m : List (Nat × Bool)) (ks : List Nat) (L : List AObj) (K : List (Nat × Value)) (π : List Ans) : Option (List AObj × List (Nat × Value) × List Prop × List Prop) :=
  match evList P E f fuel l (tk n K) ⟨hk g L, 0, some π, []⟩ with
  | some (t, s) => match Ev.viewP g m ks n s.heap t with
    | some (L', K', cs) => some (L', K', s.cons, cs)
    | none => none
  | none => none
theorem piecesS_goes {E : Env} (hE : E.Sound P) (hP : Good P) {W0 : World} {f fuel n : Nat} {l : List Code} {d : Code} {m : List (Nat × Bool)} {ks : List Nat} {L L' L2 : List AObj} {K K' K2 : List (Nat × Value)} {π : List Ans} {e : AExit} {cs ds : List Prop} (hok : l.all okCode = true)
    (h : piecesS P E f fuel P.globals.size l n m ks L K π = some (L', K', cs, ds)) (hc : ∀ p ∈ cs, p) (hd : ∀ p ∈ ds, p) (g : GoesK P W0 d n L' K' e L2 K2) : GoesK P W0 (nest l d) n L K e L2 K2 := by
  unfold piecesS at h
  split at h
  case h_2 => cases h
  rename_i t1 s1 hrun
  split at h
  case h_2 => cases h
  rename_i L1 K1 cs1 hv
  simp only [Option.some.injEq, Prod.mk.injEq] at h
  obtain ⟨rfl, rfl, rfl, rfl⟩ := h
  exact evList_goes hE hP l _ _ ⟨hk P.globals.size L, 0, some π, []⟩ s1 hok hrun hc (fun a w Q hat hQ => g a w Q (hat.viewP hv hd) hQ)
end Go.Ev
