/- THE EVALUATOR: how its small heap stands to real memory. -/
import Derived.Test.YtmnnnickodfibaaEvA
import Derived.Deep.MidRow
import Derived.ArgAppend
namespace Go.Ev
open Go.RowKit

theorem below_setCells {B : Nat} {a : World} (b : Nat) (hb : B ≤ b) : ∀ (vs : List Value) (o : Nat) {w : World}, Below B a w → Below B a (w.setCells b o vs)
  | [], _, _, h => h
  | v :: r, o, _, h => below_setCells b hb r (o + 1) (h.setCell (by simpa using hb) v)
theorem size_setCells (b : Nat) : ∀ (vs : List Value) (o : Nat) (w : World), (w.setCells b o vs).heap.size = w.heap.size
  | [], _, _ => rfl
  | v :: r, o, w => by rw [World.setCells, size_setCells b r]; simp

/-- Where an object lies: block, first cell, how many cells it has, how many an element has, how many the block has. -/
structure Loc where
  blk : Nat
  shift : Nat
  size : Nat
  esz : Nat
  room : Nat
  bad : Bool
abbrev Rho := Nat → Loc
def Rho.addr (ρ : Rho) (a : Addr) : Addr := ⟨(ρ a.block).blk, (ρ a.block).shift + a.off, none⟩

/-- An id that may be met. -/
def Ok (n : Nat) (ρ : Rho) (b : Nat) : Prop := b < n ∧ (ρ b).bad = false
theorem Ok.mono {n m : Nat} {ρ ρ' : Rho} {b : Nat} (h : Ok n ρ b) (hn : n ≤ m) (hr : ∀ i, i < n → (ρ i).bad = false → ρ' i = ρ i) : Ok m ρ' b :=
  ⟨Nat.lt_of_lt_of_le h.1 hn, by rw [hr b h.1 h.2]; exact h.2⟩

inductive VRel (n : Nat) (ρ : Rho) : Value → Value → Prop
  | flat {v : Value} (h : flat v = true) : VRel n ρ v v
  | ptr {b off : Nat} (hb : Ok n ρ b) : VRel n ρ (.pointer (some ⟨b, off, none⟩)) (.pointer (some (ρ.addr ⟨b, off, none⟩)))
  | slice {b off l c c' : Nat} (hb : Ok n ρ b) (he : 0 < (ρ b).esz) (h1 : off + l * (ρ b).esz ≤ (ρ b).size) (h2 : (ρ b).size ≤ off + c' * (ρ b).esz)
      (h3 : (ρ b).shift + off + c' * (ρ b).esz ≤ (ρ b).room) (h4 : l ≤ c') : VRel n ρ (.slice (some ⟨b, off, none⟩) l c) (.slice (some (ρ.addr ⟨b, off, none⟩)) l c')
  | slice0 {b off c : Nat} {x : Addr} (hb : Ok n ρ b) (he : 0 < (ρ b).esz) (ho : off = (ρ b).size) : VRel n ρ (.slice (some ⟨b, off, none⟩) 0 c) (.slice (some x) 0 0)
  | noRoom {x : Addr} : VRel n ρ (.slice none 0 1) (.slice (some x) 0 0)
  | agg {cs cs' : Array Value} (hs : cs.size = cs'.size) (h : ∀ (i : Nat) (h1 : i < cs.size) (h2 : i < cs'.size), VRel n ρ cs[i] cs'[i]) : VRel n ρ (.agg cs) (.agg cs')
  | tuple {cs cs' : Array Value} (hs : cs.size = cs'.size) (h : ∀ (i : Nat) (h1 : i < cs.size) (h2 : i < cs'.size), VRel n ρ cs[i] cs'[i]) : VRel n ρ (.tuple cs) (.tuple cs')
  | func {f : Nat} {a a' c c' : Array Value} (ha : a.size = a'.size) (h : ∀ (i : Nat) (h1 : i < a.size) (h2 : i < a'.size), VRel n ρ a[i] a'[i])
      (hc : c.size = c'.size) (h' : ∀ (i : Nat) (h1 : i < c.size) (h2 : i < c'.size), VRel n ρ c[i] c'[i]) : VRel n ρ (.func (.func f) a c) (.func (.func f) a' c')
  | iface {t : Nat} {v v' : Value} (h : VRel n ρ v v') : VRel n ρ (.iface t v) (.iface t v')
  | any {v v' : Value} (h : isGone v = true) (h' : scalar v' = true) : VRel n ρ v v'

/-- The ids in a value are below n, and what it says of them fits. -/
theorem VRel.mono' {n m : Nat} {ρ ρ' : Rho} {v v' : Value} (h : VRel n ρ v v') (hn : n ≤ m) (hr : ∀ i, i < n → (ρ i).bad = false → ρ' i = ρ i) : VRel m ρ' v v' := by
  induction h with
  | flat h => exact .flat h
  | ptr hb =>
    rename_i b off
    have e := hr _ hb.1 hb.2
    have e2 : ρ.addr ⟨b, off, none⟩ = ρ'.addr ⟨b, off, none⟩ := by simp only [Rho.addr, e]
    rw [e2]; exact .ptr (hb.mono hn hr)
  | slice hb he h1 h2 h3 h4 =>
    rename_i b off l c c'
    have e := hr _ hb.1 hb.2
    have e2 : ρ.addr ⟨b, off, none⟩ = ρ'.addr ⟨b, off, none⟩ := by simp only [Rho.addr, e]
    rw [e2]; exact .slice (hb.mono hn hr) (by rw [e]; exact he) (by rw [e]; exact h1) (by rw [e]; exact h2) (by rw [e]; exact h3) h4
  | slice0 hb he ho =>
    have e := hr _ hb.1 hb.2
    exact .slice0 (hb.mono hn hr) (by rw [e]; exact he) (by rw [e]; exact ho)
  | noRoom => exact .noRoom
  | agg hs _ ih => exact .agg hs ih
  | tuple hs _ ih => exact .tuple hs ih
  | func ha _ hc _ ih ih' => exact .func ha ih hc ih'
  | iface _ ih => exact .iface ih
  | any h h' => exact .any h h'
theorem VRel.mono {n m : Nat} {ρ ρ' : Rho} {v v' : Value} (h : VRel n ρ v v') (hn : n ≤ m) (hr : ∀ i, i < n → ρ' i = ρ i) : VRel m ρ' v v' := h.mono' hn fun i hi _ => hr i hi

theorem flatL_all {l : List Value} : flatL l = true ↔ ∀ v ∈ l, flat v = true := by
  induction l with
  | nil => simp [flatL]
  | cons a r ih => simp [flatL, ih]
theorem flatA_all {l : Array Value} : flatA l = true ↔ ∀ v ∈ l.toList, flat v = true := by
  cases l; simp only [flatA]; exact flatL_all

theorem gone_flat {v : Value} (h : isGone v = true) : Ev.flat v = false := by
  unfold isGone at h
  split at h
  · rfl
  · cases h
/-- A flat value stands for itself. -/
theorem VRel.eq_of_flat {n : Nat} {ρ : Rho} {v v' : Value} (h : VRel n ρ v v') (hf : Ev.flat v = true) : v' = v := by
  induction h with
  | flat h => rfl
  | ptr hb => simp [Ev.flat] at hf
  | slice hb he h1 h2 h3 h4 => simp [Ev.flat] at hf
  | slice0 hb he ho => simp [Ev.flat] at hf
  | noRoom => simp [Ev.flat] at hf
  | agg hs h ih =>
    rename_i cs cs'
    simp only [Ev.flat, flatA_all] at hf
    congr 1
    apply Array.ext hs.symm
    intro i h1 h2
    exact ih i h2 h1 (hf _ (by simp))
  | tuple hs h ih =>
    rename_i cs cs'
    simp only [Ev.flat, flatA_all] at hf
    congr 1
    apply Array.ext hs.symm
    intro i h1 h2
    exact ih i h2 h1 (hf _ (by simp))
  | func ha _ hc _ ih ih' => simp [Ev.flat] at hf
  | iface _ ih => simp only [Ev.flat] at hf; rw [ih hf]
  | any h h' => exact absurd hf (by rw [gone_flat h]; simp)

/-- What is said of a value's ids below n, whatever else. -/
theorem VRel.lower {n m : Nat} {ρ ρ' ρ'' : Rho} {v v' u : Value} (h : VRel m ρ v v') (hb : VRel n ρ'' v u) (hr : ∀ i, i < n → ρ' i = ρ i) : VRel n ρ' v v' := by
  induction h generalizing u with
  | flat h => exact .flat h
  | ptr hbm =>
    rename_i b off
    cases hb with
    | flat h => simp [Ev.flat] at h
    | ptr hb =>
      have e2 : ρ.addr ⟨b, off, none⟩ = ρ'.addr ⟨b, off, none⟩ := by simp only [Rho.addr, hr _ hb.1]
      rw [e2]; exact .ptr ⟨hb.1, by rw [hr _ hb.1]; exact hbm.2⟩
    | any h _ => cases h
  | slice hbm he h1 h2 h3 h4 =>
    rename_i b off l c c'
    have hbn : b < n := by
      cases hb with
      | flat h => simp [Ev.flat] at h
      | slice hb _ _ _ _ _ => exact hb.1
      | slice0 hb _ _ => exact hb.1
      | any h _ => cases h
    have e := hr _ hbn
    have e2 : ρ.addr ⟨b, off, none⟩ = ρ'.addr ⟨b, off, none⟩ := by simp only [Rho.addr, e]
    rw [e2]; exact .slice ⟨hbn, by rw [e]; exact hbm.2⟩ (by rw [e]; exact he) (by rw [e]; exact h1) (by rw [e]; exact h2) (by rw [e]; exact h3) h4
  | slice0 hbm he ho =>
    rename_i b off c x
    have hbn : b < n := by
      cases hb with
      | flat h => simp [Ev.flat] at h
      | slice hb _ _ _ _ _ => exact hb.1
      | slice0 hb _ _ => exact hb.1
      | any h _ => cases h
    have e := hr _ hbn
    exact .slice0 ⟨hbn, by rw [e]; exact hbm.2⟩ (by rw [e]; exact he) (by rw [e]; exact ho)
  | noRoom => exact .noRoom
  | agg hs h ih =>
    rename_i cs cs'
    refine .agg hs fun i h1 h2 => ?_
    cases hb with
    | flat hf => simp only [Ev.flat, flatA_all] at hf; exact ih i h1 h2 (.flat (hf _ (by simp)))
    | agg hs' h' => exact ih i h1 h2 (h' i h1 (by omega))
    | any h _ => cases h
  | tuple hs h ih =>
    rename_i cs cs'
    refine .tuple hs fun i h1 h2 => ?_
    cases hb with
    | flat hf => simp only [Ev.flat, flatA_all] at hf; exact ih i h1 h2 (.flat (hf _ (by simp)))
    | tuple hs' h' => exact ih i h1 h2 (h' i h1 (by omega))
    | any h _ => cases h
  | func ha _ hc _ ih ih' =>
    cases hb with
    | flat hf => simp [Ev.flat] at hf
    | func ha2 h2 hc2 h2' => exact .func ha (fun i h1 h3 => ih i h1 h3 (h2 i h1 (by omega))) hc (fun i h1 h3 => ih' i h1 h3 (h2' i h1 (by omega)))
    | any h _ => cases h
  | iface _ ih =>
    cases hb with
    | flat hf => simp only [Ev.flat] at hf; exact .iface (ih (.flat hf))
    | iface h => exact .iface (ih h)
    | any h _ => cases h
  | any h h' => exact .any h h'

theorem VRel.one {n : Nat} {ρ : Rho} {v v' : Value} (h : VRel n ρ v v') (hs : Ev.scalar v = true) : v'.oneCell' = true := by
  cases h with
  | flat h => cases v <;> simp_all [Ev.scalar, Value.oneCell']
  | agg => simp [Ev.scalar] at hs
  | tuple => simp [Ev.scalar] at hs
  | any _ h' => cases v' <;> simp_all [Ev.scalar, Value.oneCell']
  | _ => rfl

theorem VRel.scalar {n : Nat} {ρ : Rho} {v v' : Value} (h : VRel n ρ v v') (hs : Ev.scalar v = true) : Ev.scalar v' = true := by
  cases h with
  | flat h => exact hs
  | agg => simp [Ev.scalar] at hs
  | tuple => simp [Ev.scalar] at hs
  | any _ h' => exact h'
  | _ => rfl

/-- The cells of a value. -/
theorem VRel.cells {n : Nat} {ρ : Rho} {v v' : Value} (h : VRel n ρ v v') : v.cells.size = v'.cells.size ∧ ∀ (i : Nat) (h1 : i < v.cells.size) (h2 : i < v'.cells.size), VRel n ρ v.cells[i] v'.cells[i] := by
  have one : ∀ u u' : Value, VRel n ρ u u' → u.cells = #[u] → u'.cells = #[u'] → u.cells.size = u'.cells.size ∧ ∀ (i : Nat) (h1 : i < u.cells.size) (h2 : i < u'.cells.size), VRel n ρ u.cells[i] u'.cells[i] := by
    intro u u' hu e1 e2
    refine ⟨by rw [e1, e2]; rfl, fun i h1 h2 => ?_⟩
    have : i = 0 := by rw [e1] at h1; simp at h1; exact h1
    subst this
    simp only [e1, e2]; exact hu
  cases h with
  | flat hf =>
    cases v with
    | agg cs => exact ⟨rfl, fun i h1 h2 => .flat (by simp only [Ev.flat, flatA_all] at hf; exact hf _ (by simp [Value.cells]))⟩
    | _ => exact one _ _ (.flat hf) rfl rfl
  | agg hs h => exact ⟨hs, h⟩
  | any h h' => exact one _ _ (.any h h') (by cases v <;> first | rfl | cases h) (by cases v' <;> first | rfl | cases h')
  | ptr hb => exact one _ _ (.ptr hb) rfl rfl
  | slice hb he h1 h2 h3 h4 => exact one _ _ (.slice hb he h1 h2 h3 h4) rfl rfl
  | slice0 hb he ho => exact one _ _ (.slice0 hb he ho) rfl rfl
  | noRoom => exact one _ _ .noRoom rfl rfl
  | tuple hs h => exact one _ _ (.tuple hs h) rfl rfl
  | func ha h hc h' => exact one _ _ (.func ha h hc h') rfl rfl
  | iface h => exact one _ _ (.iface h) rfl rfl

theorem Tr.has_put (t : Tr) : ∀ (d : Nat) (v : Value) (i : Nat), (t.put d v).has i = t.has i := by
  induction t with
  | leaf => intro d v i; rfl
  | node l u r ihl ihr =>
    intro d v i
    cases d with
    | zero => cases i <;> rfl
    | succ d =>
      simp only [Tr.put]
      cases hd : Nat.beq (d % 2) 0 <;> cases i <;> simp only [cond, Tr.has] <;> first | rfl | (rw [ihl]) | (rw [ihr])
theorem Tr.get_none (t : Tr) : ∀ i, t.has i = false → t.get i = gone := by
  induction t with
  | leaf => intro i _; rfl
  | node l u r ihl ihr =>
    intro i h
    cases i with
    | zero => simp [Tr.has] at h
    | succ i =>
      simp only [Tr.has, Tr.get] at h ⊢
      cases hi : Nat.beq (i % 2) 0 <;> simp only [hi, cond] at h ⊢
      · exact ihr _ h
      · exact ihl _ h
theorem Tr.get_put (t : Tr) : ∀ (d : Nat) (v : Value) (i : Nat), (t.put d v).get i = if i = d ∧ t.has d = true then v else t.get i := by
  induction t with
  | leaf => intro d v i; simp [Tr.put, Tr.has]
  | node l u r ihl ihr =>
    intro d v i
    cases d with
    | zero => cases i <;> simp [Tr.put, Tr.get, Tr.has]
    | succ d =>
      simp only [Tr.put, Tr.has]
      rcases Nat.mod_two_eq_zero_or_one d with hd' | hd'
      · have hd : Nat.beq (d % 2) 0 = true := by rw [hd']; rfl
        simp only [hd, cond]
        cases i with
        | zero => simp [Tr.get]
        | succ i =>
          simp only [Tr.get]
          rcases Nat.mod_two_eq_zero_or_one i with hi' | hi'
          · have hi : Nat.beq (i % 2) 0 = true := by rw [hi']; rfl
            simp only [hi, cond, ihl]
            have : i / 2 = d / 2 ↔ i = d := by omega
            simp [this]
          · have hi : Nat.beq (i % 2) 0 = false := by rw [hi']; rfl
            simp only [hi, cond]
            have : i ≠ d := by omega
            simp [this]
      · have hd : Nat.beq (d % 2) 0 = false := by rw [hd']; rfl
        simp only [hd, cond]
        cases i with
        | zero => simp [Tr.get]
        | succ i =>
          simp only [Tr.get]
          rcases Nat.mod_two_eq_zero_or_one i with hi' | hi'
          · have hi : Nat.beq (i % 2) 0 = true := by rw [hi']; rfl
            simp only [hi, cond]
            have : i ≠ d := by omega
            simp [this]
          · have hi : Nat.beq (i % 2) 0 = false := by rw [hi']; rfl
            simp only [hi, cond, ihr]
            have : i / 2 = d / 2 ↔ i = d := by omega
            simp [this]
theorem Tr.mk_spec (n : Nat) (f : Nat → Value) : ∀ (d a b : Nat), 0 < a → ∀ j, j + 1 < 2 ^ d → (Tr.mk n f d a b).has j = decide (a * j + b < n) ∧ (a * j + b < n → (Tr.mk n f d a b).get j = f (a * j + b)) := by
  intro d
  induction d with
  | zero => intro a b _ j hj; simp at hj
  | succ d ih =>
    intro a b ha j hj
    simp only [Tr.mk]
    cases hb : Nat.ble n b
    · have hbn : b < n := by
        rcases Nat.lt_or_ge b n with h | h
        · exact h
        · rw [Nat.ble_eq_true_of_le h] at hb; cases hb
      simp only [cond]
      cases j with
      | zero => simp [Tr.has, Tr.get, hbn]
      | succ j =>
        simp only [Tr.has, Tr.get]
        have hp : 2 ^ (d + 1) = 2 * 2 ^ d := by rw [Nat.pow_succ]; omega
        rcases Nat.mod_two_eq_zero_or_one j with hi' | hi'
        rotate_left
        · have hi : Nat.beq (j % 2) 0 = false := by rw [hi']; rfl
          simp only [hi]
          obtain ⟨q, rfl⟩ : ∃ q, j = 2 * q + 1 := ⟨j / 2, by omega⟩
          have e : (2 * q + 1) / 2 = q := by omega
          simp only [cond, e]
          have := ih (2 * a) (2 * a + b) (by omega) q (by omega)
          have e2 : 2 * a * q + (2 * a + b) = a * (2 * q + 1 + 1) + b := by
            rw [Nat.mul_add, Nat.mul_add, ← Nat.mul_assoc, Nat.mul_comm a 2]; omega
          rw [e2] at this
          exact this
        · have hi : Nat.beq (j % 2) 0 = true := by rw [hi']; rfl
          simp only [hi]
          obtain ⟨q, rfl⟩ : ∃ q, j = 2 * q := ⟨j / 2, by omega⟩
          have e : (2 * q) / 2 = q := by omega
          simp only [cond, e]
          have := ih (2 * a) (a + b) (by omega) q (by omega)
          have e2 : 2 * a * q + (a + b) = a * (2 * q + 1) + b := by
            rw [Nat.mul_add, ← Nat.mul_assoc, Nat.mul_comm a 2]; omega
          rw [e2] at this
          exact this
    · have hbn : n ≤ b := Nat.le_of_ble_eq_true hb
      have : ¬ a * j + b < n := by omega
      simp [cond, Tr.has, this]

structure TRel (n : Nat) (ρ : Rho) (t : Tr) (t' : Array Value) : Prop where
  has : ∀ i, t.has i = decide (i < t'.size)
  get : ∀ i, isGone (t.get i) = true ∨ ∃ v', t'[i]? = some v' ∧ VRel n ρ (t.get i) v'

theorem TRel.mono {n m : Nat} {ρ ρ' : Rho} {t : Tr} {t' : Array Value} (h : TRel n ρ t t') (hn : n ≤ m) (hr : ∀ i, i < n → ρ' i = ρ i) : TRel m ρ' t t' :=
  ⟨h.has, fun i => (h.get i).imp id fun ⟨v', h1, h2⟩ => ⟨v', h1, h2.mono hn hr⟩⟩

structure HRel (P : Program) (B : Nat) (ρ : Rho) (H : Array AObj) (w : World) : Prop where
  glob : P.globals.size ≤ H.size ∧ ∀ g, g < P.globals.size → (ρ g).blk = g ∧ (ρ g).shift = 0 ∧ (ρ g).bad = false
  base : B ≤ w.heap.size
  obj : ∀ (id : Nat) (o : AObj), H[id]? = some o → o.st < 3 → (ρ id).size = o.cells.size ∧ (ρ id).esz = o.esz ∧ (ρ id).blk < w.heap.size ∧
    (∀ (j : Nat) (hj : j < o.cells.size), ∃ c', w.cell? ⟨(ρ id).blk, (ρ id).shift + j, none⟩ = some c' ∧ scalar o.cells[j] = true ∧ VRel H.size ρ o.cells[j] c')
  own : ∀ (id : Nat) (o : AObj), H[id]? = some o → (o.st = 1 ∨ o.st = 2) → B ≤ (ρ id).blk
  head : ∀ (id : Nat) (o : AObj), H[id]? = some o → o.st = 1 → w.there (ρ id).blk 0 (ρ id).room ∧ (ρ id).shift + o.cells.size ≤ (ρ id).room ∧
    ∀ (id2 : Nat) (o2 : AObj), H[id2]? = some o2 → o2.st < 3 → id2 ≠ id → (ρ id2).blk = (ρ id).blk → id2 ∈ o.prev ∧ o2.st ≠ 1 ∧ (ρ id2).shift + o2.cells.size ≤ (ρ id).shift + o.cells.size

/-- What a step leaves of what was. -/
structure Step (B : Nat) (ρ : Rho) (s : St) (w : World) (ρ' : Rho) (s' : St) (w' : World) : Prop where
  rho : ∀ id, id < s.heap.size ∨ s'.heap.size ≤ id → ρ' id = ρ id
  size : s.heap.size ≤ s'.heap.size
  low : s'.low ≤ s.low
  keep : ∀ id, id < s.heap.size → id < s'.low → ∀ o', s'.heap[id]? = some o' → ∃ o, s.heap[id]? = some o ∧ (o'.st < 3 → o.st < 3) ∧ (o'.cells = o.cells ∨ ∀ (j : Nat) v, o'.cells[j]? = some v → o.cells[j]? = some v ∨ flat v = true)
  below : Below B w w'
  cons : ∃ l, s'.cons = l ++ s.cons
  same : ∀ (id : Nat) (o o' : AObj), s.heap[id]? = some o → s'.heap[id]? = some o' → o.ver ≤ o'.ver ∧ (o'.st < 3 → o.st < 3 ∧ (o'.ver = o.ver →
    ∀ j, j < (ρ id).size → w'.cell? ⟨(ρ id).blk, (ρ id).shift + j, none⟩ = w.cell? ⟨(ρ id).blk, (ρ id).shift + j, none⟩))

theorem same_refl {S : Array AObj} {C : Nat → Nat → Prop} (hC : ∀ id j, C id j) (id : Nat) (o o' : AObj) (h : S[id]? = some o) (h' : S[id]? = some o') : o.ver ≤ o'.ver ∧ (o'.st < 3 → o.st < 3 ∧ (o'.ver = o.ver → ∀ j, C id j)) := by
  rw [h] at h'; cases h'; exact ⟨Nat.le_refl _, fun hs => ⟨hs, fun _ j => hC id j⟩⟩

theorem Step.refl (B : Nat) (ρ : Rho) (s : St) (w : World) : Step B ρ s w ρ s w :=
  ⟨fun _ _ => rfl, Nat.le_refl _, Nat.le_refl _, fun _ _ _ o' h => ⟨o', h, id, .inl rfl⟩, Below.refl _ _, ⟨[], rfl⟩, fun id o o' h h' => same_refl (C := fun id j => j < (ρ id).size → w.cell? ⟨(ρ id).blk, (ρ id).shift + j, none⟩ = w.cell? ⟨(ρ id).blk, (ρ id).shift + j, none⟩) (fun _ _ _ => rfl) id o o' h h'⟩

theorem Step.trans {B : Nat} {ρ ρ' ρ'' : Rho} {s s' s'' : St} {w w' w'' : World} (h : Step B ρ s w ρ' s' w') (k : Step B ρ' s' w' ρ'' s'' w'') : Step B ρ s w ρ'' s'' w'' := by
  refine ⟨fun id hid => ?_, Nat.le_trans h.size k.size, Nat.le_trans k.low h.low, fun id h1 h2 o'' ho'' => ?_, h.below.trans k.below, ?_, fun id o o'' ho ho'' => ?_⟩
  · have hs := h.size
    have ks := k.size
    rw [k.rho id (by omega), h.rho id (by omega)]
  · have hs := h.size
    have kl := k.low
    obtain ⟨o', e1, e2, e3⟩ := k.keep id (by omega) h2 o'' ho''
    obtain ⟨o, d1, d2, d3⟩ := h.keep id h1 (by omega) o' e1
    refine ⟨o, d1, fun h => d2 (e2 h), ?_⟩
    rcases e3 with e3 | e3
    · rw [e3]; exact d3
    · refine .inr fun j v hv => ?_
      rcases e3 j v hv with hv' | hf
      · rcases d3 with d3 | d3
        · rw [← d3]; exact .inl hv'
        · exact d3 j v hv'
      · exact .inr hf
  · obtain ⟨l, e⟩ := h.cons
    obtain ⟨l', e'⟩ := k.cons
    exact ⟨l' ++ l, by rw [e', e, List.append_assoc]⟩
  · have hlt := (Array.getElem?_eq_some_iff.1 ho).1
    have hs := h.size
    have ho' : s'.heap[id]? = some (s'.heap[id]'(by omega)) := Array.getElem?_eq_getElem (by omega)
    obtain ⟨a1, a2⟩ := h.same id o _ ho ho'
    obtain ⟨b1, b2⟩ := k.same id _ o'' ho' ho''
    refine ⟨Nat.le_trans a1 b1, fun hst => ?_⟩
    obtain ⟨c1, c2⟩ := b2 hst
    obtain ⟨d1, d2⟩ := a2 c1
    refine ⟨d1, fun hv j hj => ?_⟩
    have hρ := h.rho id (.inl hlt)
    rw [← d2 (by omega) j hj]
    have := c2 (by omega) j (by rw [hρ]; exact hj)
    rw [hρ] at this
    exact this

theorem Step.holds {B : Nat} {ρ ρ' : Rho} {s s' : St} {w w' : World} (h : Step B ρ s w ρ' s' w') (hh : s'.Holds) : s.Holds := by
  obtain ⟨l, e⟩ := h.cons
  intro p hp
  exact hh p (by rw [e]; exact List.mem_append_right _ hp)
end Go.Ev
