/- A BODY IN PIECES: the code of one call is run piece by piece; between two pieces all is let go but a few temporaries and a few objects, which get new numbers. -/
import Derived.Test.YtmnnnickodfibaaEvU
namespace Go.Ev
open Go.RowKit
variable {P : Program}

/-- The small heap and the temporaries stand for what is there. -/
structure At (P : Program) (W0 : World) (H : Array AObj) (t : Tr) (a : Act) (w : World) : Prop where
  rel : ∃ ρ, HRel P W0.heap.size ρ H w ∧ TRel H.size ρ t a.tmps
  below : Below W0.heap.size W0 w
  defers : a.defers = []
/-- The code comes from one to the other. -/
def Goes (P : Program) (W0 : World) (c : Code) (H : Array AObj) (t : Tr) (e : AExit) (H' : Array AObj) (t' : Tr) : Prop :=
  ∀ (a : Act) (w : World) (Q : Exit → Act → World → Prop), At P W0 H t a w → (∀ a' w', At P W0 H' t' a' w' → Q e.toExit a' w') → c.wp P Q a w
def GoesL (P : Program) (W0 : World) (n : Nat) (c : Code) (H : Array AObj) (t : Tr) (e : AExit) (H' : Array AObj) (t' : Tr) : Prop :=
  ∀ (a : Act) (w : World) (Q : Exit → Act → World → Prop), At P W0 H t a w → (∀ a' w', At P W0 H' t' a' w' → Q e.toExit a' w') → Code.rounds P c Q n a w

section
variable {W0 : World} {c d : Code} {H H1 H2 : Array AObj} {t t1 t2 : Tr} {e : AExit} {id n : Nat}
theorem Goes.run {E : Env} (hE : E.Sound P) (hP : Good P) {n k : Nat} {f : FuncId} {s s' : St} (hok : okCode c = true) (h : evCode P E (evCall P E k) f n c t s = some (e, t1, s')) (hh : s'.Holds) : Goes P W0 c s.heap t e s'.heap t1 := by
  intro a w Q hat hQ
  obtain ⟨ρ, hr, ht⟩ := hat.rel
  exact (evCode_spec hE (evCall_sound hE hP k) (evCall_grows hE k) hP.mixed n c t s e t1 s' a ρ w W0.heap.size Q hok h hh hr ht
    (fun a' ρ' w' d1 d2 d3 d4 => hQ a' w' ⟨⟨ρ', d3, d2⟩, hat.below.trans d4.below, by rw [d1]; exact hat.defers⟩)).1
theorem Goes.seq (h1 : Goes P W0 c H t .normal H1 t1) (h2 : Goes P W0 d H1 t1 e H2 t2) : Goes P W0 (.seq c d) H t e H2 t2 :=
  fun a w Q hat hQ => wp_seq (h1 a w _ hat fun a' w' hat' => h2 a' w' Q hat' hQ)
theorem Goes.seqRet (h1 : Goes P W0 c H t .ret H1 t1) : Goes P W0 (.seq c d) H t .ret H1 t1 :=
  fun a w Q hat hQ => wp_seq (h1 a w _ hat fun a' w' hat' => hQ a' w' hat')
theorem Goes.seqExit (h1 : Goes P W0 c H t (.exit id) H1 t1) : Goes P W0 (.seq c d) H t (.exit id) H1 t1 :=
  fun a w Q hat hQ => wp_seq (h1 a w _ hat fun a' w' hat' => hQ a' w' hat')
theorem Goes.block (h : Goes P W0 c H t .normal H1 t1) : Goes P W0 (.block id c) H t .normal H1 t1 :=
  fun a w Q hat hQ => wp_block (h a w _ hat fun a' w' hat' => hQ a' w' hat')
theorem Goes.blockRet (h : Goes P W0 c H t .ret H1 t1) : Goes P W0 (.block id c) H t .ret H1 t1 :=
  fun a w Q hat hQ => wp_block (h a w _ hat fun a' w' hat' => hQ a' w' hat')
theorem Goes.blockExit (h : Goes P W0 c H t (.exit id) H1 t1) : Goes P W0 (.block id c) H t .normal H1 t1 :=
  fun a w Q hat hQ => wp_block (h a w _ hat fun a' w' hat' => by
    simp only [AExit.toExit, Exit.inBlock, if_true]
    exact hQ a' w' hat')
theorem GoesL.next (h1 : Goes P W0 c H t .normal H1 t1) (h2 : GoesL P W0 n c H1 t1 e H2 t2) : GoesL P W0 (n + 1) c H t e H2 t2 :=
  fun a w Q hat hQ => h1 a w _ hat fun a' w' hat' => h2 a' w' Q hat' hQ
theorem GoesL.exit (h1 : Goes P W0 c H t (.exit id) H1 t1) : GoesL P W0 (n + 1) c H t (.exit id) H1 t1 :=
  fun a w Q hat hQ => h1 a w _ hat fun a' w' hat' => hQ a' w' hat'
theorem GoesL.ret (h1 : Goes P W0 c H t .ret H1 t1) : GoesL P W0 (n + 1) c H t .ret H1 t1 :=
  fun a w Q hat hQ => h1 a w _ hat fun a' w' hat' => hQ a' w' hat'
theorem GoesL.loop (h : GoesL P W0 n c H t e H1 t1) : Goes P W0 (.loop c) H t e H1 t1 :=
  fun a w Q hat hQ => wp_loop_rounds n (h a w Q hat hQ)
/-- So many rounds, one like the other. -/
theorem GoesL.many {SH : Nat → Array AObj} {ST : Nat → Tr} {c : Code} {e : AExit} {H2 : Array AObj} {t2 : Tr} {n : Nat} : ∀ (k i : Nat), (∀ j, j < k → Goes P W0 c (SH (i + j)) (ST (i + j)) .normal (SH (i + j + 1)) (ST (i + j + 1))) →
    GoesL P W0 n c (SH (i + k)) (ST (i + k)) e H2 t2 → GoesL P W0 (n + k) c (SH i) (ST i) e H2 t2
  | 0, i, _, h => h
  | k + 1, i, hs, h => by
    have h0 := hs 0 (by omega)
    refine GoesL.next (n := n + k) h0 (GoesL.many k (i + 1) (fun j hj => ?_) ?_)
    · have := hs (j + 1) (by omega)
      rw [show i + (j + 1) = i + 1 + j by omega] at this
      exact this
    · rw [show i + 1 + k = i + (k + 1) by omega]; exact h
end

/-! What is kept gets new numbers. -/
def idxN (b : Nat) : List Nat → Option Nat
  | [] => none
  | x :: r => match Nat.beq x b with
    | true => some 0
    | false => match idxN b r with
      | some k => some (k + 1)
      | none => none
def newId (g : Nat) (m : List Nat) (b : Nat) : Option Nat :=
  match Nat.blt b g with
  | true => some b
  | false => match idxN b m with
    | some k => some (g + k)
    | none => none
def renV (g : Nat) (m : List Nat) (v : Value) : Option Value :=
  match v with
  | .pointer (some ⟨b, off, none⟩) => match newId g m b with
    | some j => some (.pointer (some ⟨j, off, none⟩))
    | none => none
  | .slice (some ⟨b, off, none⟩) l c => match newId g m b with
    | some j => some (.slice (some ⟨j, off, none⟩) l c)
    | none => none
  | .slice none 0 1 => some (.slice none 0 1)
  | v => match flat v with
    | true => some v
    | false => none
def renL (g : Nat) (m : List Nat) : List Value → Option (List Value)
  | [] => some []
  | v :: r => match renV g m v, renL g m r with
    | some u, some us => some (u :: us)
    | _, _ => none
def renO (g : Nat) (m : List Nat) (o : AObj) : Option AObj :=
  match Nat.blt o.st 3, renL g m o.cells.toList with
  | true, some cs => some { o with cells := ⟨cs⟩, prev := o.prev.filterMap (newId g m) }
  | _, _ => none
noncomputable def keepO (g : Nat) (m : List Nat) (H : Array AObj) : List Nat → Option (List AObj)
  | [] => some []
  | b :: r => match getQ H b with
    | some o => match renO g m o, keepO g m H r with
      | some o', some os => some (o' :: os)
      | _, _ => none
    | none => none
noncomputable def keepV (g : Nat) (m : List Nat) (t : Tr) : List Nat → Option (List (Nat × Value))
  | [] => some []
  | i :: r => match renV g m (t.getR i), keepV g m t r with
    | some v, some vs => some ((i, v) :: vs)
    | _, _ => none
def lookK : List (Nat × Value) → Nat → Value
  | [], _ => gone
  | (j, v) :: r, i => match Nat.beq j i with
    | true => v
    | false => lookK r i
def tk (n : Nat) (K : List (Nat × Value)) : Tr := Tr.mk n (lookK K) 13 1 0
def hk (g : Nat) (L : List AObj) : Array AObj := ⟨List.replicate g objDead ++ L⟩
def freshM (g : Nat) : List Nat → Bool
  | [] => true
  | b :: r => Nat.ble g b && (r.all fun x => !Nat.beq x b) && freshM g r
/-- All but 'm' and 'ks' is let go. -/
noncomputable def view (g : Nat) (m ks : List Nat) (n : Nat) (H : Array AObj) (t : Tr) : Option (List AObj × List (Nat × Value)) :=
  match freshM g m && (t.has (n - 1) && !t.has n) && Nat.ble n 8190 && Nat.blt 0 n, keepO g m H m, keepV g m t ks with
  | true, some L, some K => some (L, K)
  | _, _, _ => none

def rhoK (g : Nat) (m : List Nat) (ρ : Rho) : Rho := fun i => if i < g then ρ i else match m[i - g]? with
  | some b => ρ b
  | none => ρ i
theorem idxN_spec {b : Nat} : ∀ {m : List Nat} {k : Nat}, idxN b m = some k → m[k]? = some b
  | [], k, h => by cases h
  | x :: r, k, h => by
    simp only [idxN] at h
    split at h
    · rename_i he
      simp only [Option.some.injEq] at h; subst h
      simp [Nat.eq_of_beq_eq_true he]
    · split at h
      · rename_i k' hk
        simp only [Option.some.injEq] at h; subst h
        simpa using idxN_spec hk
      · cases h
theorem newId_spec {g : Nat} {m : List Nat} {b j : Nat} {ρ : Rho} (h : newId g m b = some j) : j < g + m.length ∧ rhoK g m ρ j = ρ b := by
  unfold newId at h
  split at h
  · rename_i hb
    simp only [Option.some.injEq] at h; subst h
    have : b < g := Nat.le_of_ble_eq_true hb
    exact ⟨by omega, by unfold rhoK; rw [if_pos this]⟩
  · split at h
    · rename_i k hk
      simp only [Option.some.injEq] at h; subst h
      have hm := idxN_spec hk
      have hlt := (List.getElem?_eq_some_iff.1 hm).1
      refine ⟨by omega, ?_⟩
      unfold rhoK
      rw [if_neg (by omega), show g + k - g = k by omega, hm]
    · cases h
theorem idxN_of {m : List Nat} (hn : m.Nodup) : ∀ {k b : Nat}, m[k]? = some b → idxN b m = some k := by
  induction m with
  | nil => intro k b h; simp at h
  | cons x r ih =>
    intro k b h
    simp only [List.nodup_cons] at hn
    cases k with
    | zero =>
      simp only [List.getElem?_cons_zero, Option.some.injEq] at h
      subst h
      simp [idxN]
    | succ k =>
      simp only [List.getElem?_cons_succ] at h
      have hne : Nat.beq x b = false := by
        cases hb : Nat.beq x b with
        | false => rfl
        | true =>
          have := Nat.eq_of_beq_eq_true hb
          subst this
          exact absurd (List.mem_of_getElem? h) hn.1
      simp [idxN, hne, ih hn.2 h]
theorem freshM_spec {g : Nat} : ∀ {m : List Nat}, freshM g m = true → m.Nodup ∧ ∀ b ∈ m, g ≤ b
  | [], _ => ⟨List.nodup_nil, by simp⟩
  | b :: r, h => by
    simp only [freshM, Bool.and_eq_true] at h
    obtain ⟨⟨h1, h2⟩, h3⟩ := h
    obtain ⟨k1, k2⟩ := freshM_spec h3
    refine ⟨List.nodup_cons.2 ⟨fun hm => ?_, k1⟩, ?_⟩
    · have := List.all_eq_true.1 h2 b hm
      simp at this
    · intro x hx
      rcases List.mem_cons.1 hx with rfl | hx
      · exact Nat.le_of_ble_eq_true h1
      · exact k2 x hx
theorem renV_rel {g n n' : Nat} {m : List Nat} {ρ : Rho} {v u v' : Value} (hn : n' = g + m.length) (h : VRel n ρ v v') (hu : renV g m v = some u) : VRel n' (rhoK g m ρ) u v' := by
  subst hn
  unfold renV at hu
  split at hu
  · rename_i b off
    split at hu
    · rename_i j hj
      simp only [Option.some.injEq] at hu; subst hu
      obtain ⟨k1, k2⟩ := newId_spec (ρ := ρ) hj
      obtain ⟨rfl, hok⟩ := ptr_inv h
      have e : ρ.addr ⟨b, off, none⟩ = (rhoK g m ρ).addr ⟨j, off, none⟩ := by simp only [Rho.addr, k2]
      rw [e]
      exact .ptr ⟨k1, by rw [k2]; exact hok.2⟩
    · cases hu
  · rename_i b off l c
    split at hu
    · rename_i j hj
      simp only [Option.some.injEq] at hu; subst hu
      obtain ⟨k1, k2⟩ := newId_spec (ρ := ρ) hj
      cases h with
      | any h _ => cases h
      | flat hf => simp [flat] at hf
      | slice hb he h1 h2 h3 h4 =>
        have e : ρ.addr ⟨b, off, none⟩ = (rhoK g m ρ).addr ⟨j, off, none⟩ := by simp only [Rho.addr, k2]
        rw [e]
        exact .slice ⟨k1, by rw [k2]; exact hb.2⟩ (by rw [k2]; exact he) (by rw [k2]; exact h1) (by rw [k2]; exact h2) (by rw [k2]; exact h3) h4
      | slice0 hb he ho => exact .slice0 ⟨k1, by rw [k2]; exact hb.2⟩ (by rw [k2]; exact he) (by rw [k2]; exact ho)
    · cases hu
  · simp only [Option.some.injEq] at hu; subst hu
    cases h with
    | any h _ => cases h
    | flat hf => simp [flat] at hf
    | noRoom => exact .noRoom
  · split at hu
    · rename_i hf
      simp only [Option.some.injEq] at hu; subst hu
      rw [h.eq_of_flat hf]
      exact .flat hf
    · cases hu
theorem renV_scalar {g : Nat} {m : List Nat} {v u : Value} (hu : renV g m v = some u) (h : scalar v = true) : scalar u = true := by
  unfold renV at hu
  split at hu
  · split at hu
    · simp only [Option.some.injEq] at hu; subst hu; rfl
    · cases hu
  · split at hu
    · simp only [Option.some.injEq] at hu; subst hu; rfl
    · cases hu
  · simp only [Option.some.injEq] at hu; subst hu; rfl
  · split at hu
    · simp only [Option.some.injEq] at hu; subst hu; exact h
    · cases hu
theorem renL_spec {g : Nat} {m : List Nat} : ∀ {l us : List Value}, renL g m l = some us → us.length = l.length ∧ ∀ (i : Nat) (u : Value), us[i]? = some u → ∃ v, l[i]? = some v ∧ renV g m v = some u
  | [], us, h => by simp only [renL, Option.some.injEq] at h; subst h; exact ⟨rfl, by simp⟩
  | v :: r, us, h => by
    simp only [renL] at h
    split at h
    · rename_i u us' h1 h2
      simp only [Option.some.injEq] at h; subst h
      obtain ⟨k1, k2⟩ := renL_spec h2
      refine ⟨by simp [k1], fun i x hi => ?_⟩
      cases i with
      | zero => simp only [List.getElem?_cons_zero, Option.some.injEq] at hi; subst hi; exact ⟨v, rfl, h1⟩
      | succ i => exact k2 i x (by simpa using hi)
    · cases h
theorem keepO_spec {g : Nat} {m : List Nat} {H : Array AObj} : ∀ {l : List Nat} {L : List AObj}, keepO g m H l = some L → L.length = l.length ∧ ∀ (i : Nat) (o' : AObj), L[i]? = some o' → ∃ b o, l[i]? = some b ∧ H[b]? = some o ∧ renO g m o = some o'
  | [], L, h => by simp only [keepO, Option.some.injEq] at h; subst h; exact ⟨rfl, by simp⟩
  | b :: r, L, h => by
    simp only [keepO, getQ_eq] at h
    split at h
    case h_2 => cases h
    rename_i o ho
    split at h
    · rename_i o' os h1 h2
      simp only [Option.some.injEq] at h; subst h
      obtain ⟨k1, k2⟩ := keepO_spec h2
      refine ⟨by simp [k1], fun i x hi => ?_⟩
      cases i with
      | zero => simp only [List.getElem?_cons_zero, Option.some.injEq] at hi; subst hi; exact ⟨b, o, rfl, ho, h1⟩
      | succ i =>
        obtain ⟨b', o2, q1, q2, q3⟩ := k2 i x (by simpa using hi)
        exact ⟨b', o2, by simpa using q1, q2, q3⟩
    · cases h
theorem renO_spec {g : Nat} {m : List Nat} {o o' : AObj} (h : renO g m o = some o') : o.st < 3 ∧ o'.st = o.st ∧ o'.esz = o.esz ∧ o'.prev = o.prev.filterMap (newId g m) ∧ o'.cells.size = o.cells.size ∧
    ∀ (i : Nat) (h1 : i < o.cells.size) (h2 : i < o'.cells.size), renV g m o.cells[i] = some o'.cells[i] := by
  unfold renO at h
  split at h
  · rename_i cs h1 h2
    simp only [Option.some.injEq] at h; subst h
    obtain ⟨k1, k2⟩ := renL_spec h2
    refine ⟨Nat.le_of_ble_eq_true h1, rfl, rfl, rfl, by simpa using k1, fun i q1 q2 => ?_⟩
    obtain ⟨v, e1, e2⟩ := k2 i cs[i] (by simp)
    rw [Array.getElem?_toList, Array.getElem?_eq_getElem q1] at e1
    simp only [Option.some.injEq] at e1
    rw [e1]; simpa using e2
  · cases h
theorem keepV_spec {g : Nat} {m : List Nat} {t : Tr} : ∀ {ks : List Nat} {K : List (Nat × Value)}, keepV g m t ks = some K → ∀ i, lookK K i = gone ∨ renV g m (t.get i) = some (lookK K i)
  | [], K, h, i => by simp only [keepV, Option.some.injEq] at h; subst h; exact .inl rfl
  | j :: r, K, h, i => by
    simp only [keepV, Tr.getR_eq] at h
    split at h
    · rename_i v vs h1 h2
      simp only [Option.some.injEq] at h; subst h
      simp only [lookK]
      split
      · rename_i he
        have := Nat.eq_of_beq_eq_true he
        subst this
        exact .inr h1
      · exact keepV_spec h2 i
    · cases h

theorem hk_get {g : Nat} {L : List AObj} {id : Nat} {o : AObj} (h : (hk g L)[id]? = some o) (hs : o.st < 3) : g ≤ id ∧ L[id - g]? = some o := by
  simp only [hk, List.getElem?_toArray, List.getElem?_append, List.length_replicate, List.getElem?_replicate] at h
  split at h
  · rename_i hlt
    simp only [Option.some.injEq] at h; subst h
    simp [objDead] at hs
  · rename_i hlt
    exact ⟨by omega, h⟩

theorem At.view {W0 : World} {H : Array AObj} {t : Tr} {a : Act} {w : World} {m ks : List Nat} {n : Nat} {L : List AObj} {K : List (Nat × Value)} (h : At P W0 H t a w)
    (hv : view P.globals.size m ks n H t = some (L, K)) : At P W0 (hk P.globals.size L) (tk n K) a w := by
  obtain ⟨⟨ρ, hr, ht⟩, hbel, hdef⟩ := h
  unfold Ev.view at hv
  split at hv
  case h_2 => cases hv
  rename_i L' K' hc hL hK
  simp only [Option.some.injEq, Prod.mk.injEq] at hv
  obtain ⟨rfl, rfl⟩ := hv
  simp only [Bool.and_eq_true, Bool.not_eq_true'] at hc
  obtain ⟨⟨⟨hfresh, hlast, hno⟩, hn⟩, hpos⟩ := hc
  have hn := Nat.le_of_ble_eq_true hn
  have hpos : 0 < n := Nat.le_of_ble_eq_true hpos
  obtain ⟨hnd, hge⟩ := freshM_spec hfresh
  obtain ⟨hlen, hobj⟩ := keepO_spec hL
  have hsz : (hk P.globals.size L').size = P.globals.size + m.length := by simp [hk, hlen]
  have hasz : a.tmps.size = n := by
    have h1 := ht.has (n - 1)
    have h2 := ht.has n
    rw [hlast] at h1; rw [hno] at h2
    simp at h1 h2
    omega
  have rk : ∀ {id b : Nat}, P.globals.size ≤ id → m[id - P.globals.size]? = some b → rhoK P.globals.size m ρ id = ρ b := by
    intro id b h1 h2
    unfold rhoK
    rw [if_neg (by omega), h2]
  have each : ∀ {id : Nat} {o' : AObj}, (hk P.globals.size L')[id]? = some o' → o'.st < 3 → ∃ b o, P.globals.size ≤ id ∧ m[id - P.globals.size]? = some b ∧ H[b]? = some o ∧ renO P.globals.size m o = some o' ∧ rhoK P.globals.size m ρ id = ρ b := by
    intro id o' h1 h2
    obtain ⟨q1, q2⟩ := hk_get h1 h2
    obtain ⟨b, o, q3, q4, q5⟩ := hobj _ _ q2
    exact ⟨b, o, q1, q3, q4, q5, rk q1 q3⟩
  refine ⟨⟨rhoK P.globals.size m ρ, ⟨⟨by omega, fun g hg => ?_⟩, hr.base, fun id o' ho hs => ?_, fun id o' ho hs => ?_, fun id o' ho hs => ?_⟩, ⟨fun i => ?_, fun i => ?_⟩⟩, hbel, hdef⟩
  · unfold rhoK; rw [if_pos hg]; exact hr.glob.2 g hg
  · obtain ⟨b, o, q1, q2, q3, q4, q5⟩ := each ho hs
    obtain ⟨z1, z2, z3, z4, z5, z6⟩ := renO_spec q4
    obtain ⟨g1, g2, g3, g4⟩ := hr.obj b o q3 z1
    rw [q5]
    refine ⟨by rw [g1, z5], by rw [g2, z3], g3, fun j hj => ?_⟩
    obtain ⟨c', c1, c2, c3⟩ := g4 j (by omega)
    exact ⟨c', c1, renV_scalar (z6 j (by omega) hj) c2, renV_rel hsz c3 (z6 j (by omega) hj)⟩
  · have hs3 : o'.st < 3 := by rcases hs with h | h <;> omega
    obtain ⟨b, o, q1, q2, q3, q4, q5⟩ := each ho hs3
    obtain ⟨z1, z2, _⟩ := renO_spec q4
    rw [q5]
    exact hr.own b o q3 (by rw [← z2]; exact hs)
  · obtain ⟨b, o, q1, q2, q3, q4, q5⟩ := each ho (by omega)
    obtain ⟨z1, z2, z3, z4, z5, z6⟩ := renO_spec q4
    obtain ⟨e1, e2, e3⟩ := hr.head b o q3 (by omega)
    rw [q5]
    refine ⟨e1, by omega, fun id2 o2' h2 hs2 hne hblk => ?_⟩
    obtain ⟨b2, o2, p1, p2, p3, p4, p5⟩ := each h2 hs2
    obtain ⟨y1, y2, y3, y4, y5, y6⟩ := renO_spec p4
    rw [p5] at hblk ⊢
    have hb2 : b2 ≠ b := by
      rintro rfl
      have k1 := idxN_of hnd q2
      have k2 := idxN_of hnd p2
      rw [k1] at k2
      simp only [Option.some.injEq] at k2
      omega
    obtain ⟨f1, f2, f3⟩ := e3 b2 o2 p3 y1 hb2 hblk
    refine ⟨?_, by omega, by omega⟩
    rw [z4]
    refine List.mem_filterMap.2 ⟨b2, f1, ?_⟩
    have hb2g := hge b2 (List.mem_of_getElem? p2)
    unfold newId
    have : Nat.blt b2 P.globals.size = false := by
      cases hq : Nat.blt b2 P.globals.size with
      | false => rfl
      | true => have : b2 < P.globals.size := Nat.le_of_ble_eq_true hq
                omega
    rw [this, idxN_of hnd p2]
    simp only [Option.some.injEq]
    omega
  · rw [hasz]
    by_cases hi : i < 8191
    · have := (Tr.mk_spec n (lookK K') 13 1 0 (by omega) i (by omega)).1
      unfold tk
      rw [this]; simp
    · have : ¬ i < n := by omega
      simp only [this, decide_false]
      exact mk_has_far n _ 13 1 0 (by omega) i (by omega)
  · by_cases hi : i < n
    · have hg := (Tr.mk_spec n (lookK K') 13 1 0 (by omega) i (by omega)).2 (by omega)
      simp only [Nat.one_mul, Nat.add_zero] at hg
      unfold tk
      rw [hg]
      rcases keepV_spec hK i with h1 | h1
      · left; rw [h1]; rfl
      · rcases ht.get i with h2 | ⟨v', h2, h3⟩
        · left
          exfalso
          cases hv : t.get i <;> rw [hv] at h1 h2 <;> simp [isGone] at h2
          rename_i fn fi ca
          cases fn <;> simp [renV, flat] at h1
        · exact .inr ⟨v', h2, renV_rel hsz h3 h1⟩
    · left
      unfold tk
      rw [Tr.get_none]
      · rfl
      · by_cases hi2 : i < 8191
        · rw [(Tr.mk_spec n (lookK K') 13 1 0 (by omega) i (by omega)).1]; simp; omega
        · exact mk_has_far n _ 13 1 0 (by omega) i (by omega)

/-- One piece: run, and all but a little let go. -/
noncomputable def piece (P : Program) (E : Env) (f fuel g : Nat) (c : Code) (n : Nat) (m ks : List Nat) (L : List AObj) (K : List (Nat × Value)) : Option (AExit × List AObj × List (Nat × Value)) :=
  match evCodeF P E (evCall P E fuel) f fuel c (tk n K) ⟨hk g L, 0, none, []⟩ with
  | some (e, t, s) => match s.cons with
    | [] => match Ev.view g m ks n s.heap t with
      | some (L', K') => some (e, L', K')
      | none => none
    | _ => none
  | none => none
theorem piece_goes {E : Env} (hE : E.Sound P) (hP : Good P) {W0 : World} {f fuel n : Nat} {c : Code} {m ks : List Nat} {L L' : List AObj} {K K' : List (Nat × Value)} {e : AExit} (hok : okCode c = true)
    (h : piece P E f fuel P.globals.size c n m ks L K = some (e, L', K')) : Goes P W0 c (hk P.globals.size L) (tk n K) e (hk P.globals.size L') (tk n K') := by
  unfold piece at h
  split at h
  case h_2 => cases h
  rename_i e1 t1 s1 hrun
  split at h
  case h_2 => cases h
  rename_i hcons
  split at h
  case h_2 => cases h
  rename_i L1 K1 hv
  simp only [Option.some.injEq, Prod.mk.injEq] at h
  obtain ⟨rfl, rfl, rfl⟩ := h
  rw [evCodeF_eq] at hrun
  have := Goes.run (W0 := W0) hE hP hok hrun (fun p hp => by rw [hcons] at hp; cases hp)
  exact fun a w Q hat hQ => this a w Q hat fun a' w' hat' => hQ a' w' (hat'.view hv)

theorem map_range {α : Type} {f g : Nat → α} {n : Nat} (h : (List.range n).map f = (List.range n).map g) (i : Nat) (hi : i < n) : f i = g i := by
  have h1 : ((List.range n).map f)[i]? = ((List.range n).map g)[i]? := by rw [h]
  rw [List.getElem?_map, List.getElem?_map, List.getElem?_range hi] at h1
  exact Option.some.inj h1
/-- A part of a body, by the way that leads to it. -/
def nav : List Nat → Code → Code
  | [], c => c
  | i :: r, c => match c with
    | .seq a b => match i with
      | 0 => nav r a
      | _ => nav r b
    | .cond _ a b => match i with
      | 0 => nav r a
      | _ => nav r b
    | .block _ a => nav r a
    | .loop a => nav r a
    | .scope a => nav r a
    | _ => .skip
def bodyOf (fn : Func) : Code := fn.body.getD .skip
/-- Where a call without arguments begins. -/
theorem at_begin {W : World} {n : Nat} (hn : n ≤ 8190) : At P W (hk P.globals.size []) (tk n []) { tmps := #[] ++ Array.replicate (n - 0) undef, defers := [] } W := by
  have h := hrel_dead (P := P) W none
  have hh : (stOf P.globals.size none).heap = hk P.globals.size [] := by simp [stOf, hk]
  refine ⟨⟨rhoId, by rw [← hh]; exact h, ⟨fun i => ?_, fun i => ?_⟩⟩, Below.refl _ _, rfl⟩
  · have hs : (#[] ++ Array.replicate (n - 0) undef : Array Value).size = n := by simp
    show (tk n []).has i = decide (i < (#[] ++ Array.replicate (n - 0) undef : Array Value).size)
    rw [hs]
    unfold tk
    by_cases hi : i < 8191
    · rw [(Tr.mk_spec n (lookK []) 13 1 0 (by omega) i (by omega)).1]; simp
    · have : ¬ i < n := by omega
      simp only [this, decide_false]
      exact mk_has_far n _ 13 1 0 (by omega) i (by omega)
  · left
    unfold tk
    by_cases hi : i < n
    · rw [(Tr.mk_spec n (lookK []) 13 1 0 (by omega) i (by omega)).2 (by omega)]; rfl
    · rw [Tr.get_none]
      · rfl
      · by_cases hi2 : i < 8191
        · rw [(Tr.mk_spec n (lookK []) 13 1 0 (by omega) i (by omega)).1]; simp; omega
        · exact mk_has_far n _ 13 1 0 (by omega) i (by omega)
/-- A call without arguments whose body goes so. -/
theorem Goes.calls {W : World} {f : Nat} {fn : Func} {c : Code} {H : Array AObj} {t : Tr} {e : AExit} {v : Value} {s' : St} (hf : P.funcs[f]? = some fn) (hb : fn.body = some c) (hn : fn.ntmps ≤ 8190)
    (h : Goes P W c (hk P.globals.size []) (tk fn.ntmps []) e H t) (he : e = .ret ∨ e = .normal) (hres : evResults P t fn.results.toList ⟨H, 0, none, []⟩ = some ([v], s')) (hcons : s'.cons = []) (hv : flat v = true) :
    Calls P f #[] W fun e W' => e = .returned v ∧ Below W.heap.size W W' := by
  refine calls_of_wp hf hb (h _ W _ (at_begin hn) fun a' w' hat => ?_)
  obtain ⟨⟨ρ, hr, ht⟩, hbel, hdef⟩ := hat
  obtain ⟨_, vs', e1, e2⟩ := evResults_spec _ _ _ _ hres (fun p hp => by rw [hcons] at hp; cases hp) hr ht
  have hvs : vs' = [v] := e2.eq_of_flat (by simp [flatL, hv])
  subst hvs
  have hrun := results_run e1
  have hfin : bodyPost P fn (fun e W' => e = .returned v ∧ Below W.heap.size W W') .ret a' w' := ⟨hdef, v, by simpa using hrun, rfl, hbel⟩
  rcases he with rfl | rfl
  · exact hfin
  · exact hfin
end Go.Ev
