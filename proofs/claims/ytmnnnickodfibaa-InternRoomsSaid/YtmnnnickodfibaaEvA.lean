/- THE EVALUATOR, its definitions: a Lean function that runs the translated code over a small heap of its own ('AObj'), in closed mode (every test is decided by reckoning) or along a given path (every test's answer is taken off a list, and noted as a condition). Nothing here is trusted: EvB to EvE prove that what it answers is what the call does, in whatever memory, on every schedule. -/
import Derived.Orders
import Derived.WalkKit
import Derived.Laws.StructEq
import Derived.Laws.FloatArith
namespace Go.Ev
open Go.RowKit
noncomputable section

/- Of a value without an address in it. -/
mutual
def flat : Value → Bool
  | .bool _ => true
  | .int _ _ => true
  | .float _ _ => true
  | .complex _ _ _ => true
  | .string _ => true
  | .pointer none => true
  | .pointer (some _) => false
  | .slice none 0 0 => true
  | .slice _ _ _ => false
  | .map none => true
  | .map (some _) => false
  | .chan _ => false
  | .func _ _ _ => false
  | .nilFunc => true
  | .iface _ v => flat v
  | .nilIface => true
  | .agg cs => flatA cs
  | .tuple vs => flatA vs
def flatA : Array Value → Bool
  | ⟨l⟩ => flatL l
def flatL : List Value → Bool
  | [] => true
  | v :: r => flat v && flatL r
end

/-- A temporary of which nothing is known. -/
def gone : Value := .func (.yield 0) #[] #[]
def isGone : Value → Bool
  | .func (.yield _) _ _ => true
  | _ => false

inductive Ans where
  | bit (b : Bool)
  | val (cs : Array Value)
  | reck (n : Nat)
  | tell
  | as (v : Value)
  | nm (n : Nat) (v : Value)
  | row (cs : Array Value)
  | str (l : List UInt8)

/-- So many tests more are decided by reckoning. -/
def reckOn (n : Nat) (π : List Ans) : List Ans :=
  match n with
  | 0 => π
  | n + 1 => .reck n :: π

/-- 'st': 0 to be read alone, 1 the call's own, 2 what an own row grew out of, 3 of which nothing is known. -/
structure AObj where
  cells : Array Value
  esz : Nat
  st : Nat
  prev : List Nat
  sym : Bool := false
  ver : Nat := 0

structure St where
  heap : Array AObj
  low : Nat
  path : Option (List Ans)
  cons : List Prop

def St.Holds (s : St) : Prop := ∀ p ∈ s.cons, p

def test (s : St) (b : Bool) : Option (Bool × St) :=
  match s.path with
  | none => match b with
    | true => some (true, s)
    | false => some (false, s)
  | some (.bit d :: π) => some (d, { s with path := some π, cons := (b = d) :: s.cons })
  | some (.reck n :: π) => match b with
    | true => some (true, { s with path := some (reckOn n π) })
    | false => some (false, { s with path := some (reckOn n π) })
  | some (.tell :: _) => match b with
    | true => some (true, { s with cons := (true = true) :: s.cons })
    | false => some (false, { s with cons := (false = false) :: s.cons })
  | _ => none

def need (s : St) (b : Bool) : Option St :=
  match s.path with
  | none => match b with
    | true => some s
    | false => none
  | some (.bit true :: π) => some { s with path := some π, cons := (b = true) :: s.cons }
  | some (.reck n :: π) => match b with
    | true => some { s with path := some (reckOn n π) }
    | false => none
  | some (.tell :: _) => match b with
    | true => some { s with cons := (true = true) :: s.cons }
    | false => none
  | _ => none

/-- The temporaries: a tree, so that one is found, and set, in few steps. -/
inductive Tr where
  | leaf
  | node (l : Tr) (v : Value) (r : Tr)
def Tr.get : Tr → Nat → Value
  | .leaf, _ => gone
  | .node l v r, i => match i with
    | 0 => v
    | i + 1 => bif Nat.beq (i % 2) 0 then l.get (i / 2) else r.get (i / 2)
def Tr.has : Tr → Nat → Bool
  | .leaf, _ => false
  | .node l _ r, i => match i with
    | 0 => true
    | i + 1 => bif Nat.beq (i % 2) 0 then l.has (i / 2) else r.has (i / 2)
def Tr.put : Tr → Nat → Value → Tr
  | .leaf, _, _ => .leaf
  | .node l v r, i, u => match i with
    | 0 => .node l u r
    | i + 1 => bif Nat.beq (i % 2) 0 then .node (l.put (i / 2) u) v r else .node l v (r.put (i / 2) u)
def Tr.mk (n : Nat) (f : Nat → Value) : Nat → Nat → Nat → Tr
  | 0, _, _ => .leaf
  | d + 1, a, b => bif Nat.ble n b then .leaf else .node (Tr.mk n f d (2 * a) (a + b)) (f b) (Tr.mk n f d (2 * a) (2 * a + b))

/-- The same, by the recursor alone: fewer steps. -/
def Tr.getR (t : Tr) : Nat → Value := Tr.rec (motive := fun _ => Nat → Value) (fun _ => gone) (fun _ v _ ihl ihr i => Nat.rec (motive := fun _ => Value) v (fun j _ => Bool.rec (motive := fun _ => Value) (ihr (Nat.div j 2)) (ihl (Nat.div j 2)) (Nat.beq (Nat.mod j 2) 0)) i) t
def Tr.putR (t : Tr) : Nat → Value → Tr := Tr.rec (motive := fun _ => Nat → Value → Tr) (fun _ _ => .leaf) (fun l v r ihl ihr i u => Nat.rec (motive := fun _ => Tr) (.node l u r) (fun j _ => Bool.rec (motive := fun _ => Tr) (.node l v (ihr (Nat.div j 2) u)) (.node (ihl (Nat.div j 2) u) v r) (Nat.beq (Nat.mod j 2) 0)) i) t
theorem Tr.getR_eq (t : Tr) : ∀ i, t.getR i = t.get i := by
  induction t with
  | leaf => intro i; rfl
  | node l v r ihl ihr =>
    intro i
    cases i with
    | zero => rfl
    | succ j =>
      have h1 : (Tr.node l v r).getR (j + 1) = Bool.rec (motive := fun _ => Value) (r.getR (j / 2)) (l.getR (j / 2)) (Nat.beq (j % 2) 0) := rfl
      rw [h1, ihl, ihr]
      simp only [Tr.get]
      cases Nat.beq (j % 2) 0 <;> rfl
theorem Tr.putR_eq (t : Tr) : ∀ i u, t.putR i u = t.put i u := by
  induction t with
  | leaf => intro i u; rfl
  | node l v r ihl ihr =>
    intro i u
    cases i with
    | zero => rfl
    | succ j =>
      have h1 : (Tr.node l v r).putR (j + 1) u = Bool.rec (motive := fun _ => Tr) (.node l v (r.putR (j / 2) u)) (.node (l.putR (j / 2) u) v r) (Nat.beq (j % 2) 0) := rfl
      rw [h1, ihl, ihr]
      simp only [Tr.put]
      cases Nat.beq (j % 2) 0 <;> rfl
def getQ {β : Type} (l : Array β) (i : Nat) : Option β :=
  List.rec (motive := fun _ => Nat → Option β) (fun _ => none) (fun a _ ih i => Nat.rec (motive := fun _ => Option β) (some a) (fun j _ => ih j) i) l.toList i
/-- The same lists, in forms that are quick to reckon. -/
def setQ {β : Type} (l : Array β) (i : Nat) (v : β) : Array β :=
  ⟨List.rec (motive := fun _ => Nat → List β) (fun _ => []) (fun a r ih i => Nat.rec (motive := fun _ => List β) (v :: r) (fun j _ => a :: ih j) i) l.toList i⟩
def lenQ {β : Type} (l : Array β) : Nat := List.rec (motive := fun _ => Nat) 0 (fun _ _ ih => Nat.add ih 1) l.toList
def pushQ {β : Type} (l : Array β) (v : β) : Array β := ⟨List.rec (motive := fun _ => List β) [v] (fun a _ ih => a :: ih) l.toList⟩
theorem setQ_list {β : Type} (v : β) (l : List β) : ∀ i, List.rec (motive := fun _ => Nat → List β) (fun _ => []) (fun a r ih i => Nat.rec (motive := fun _ => List β) (v :: r) (fun j _ => a :: ih j) i) l i = l.set i v := by
  induction l with
  | nil => intro i; rfl
  | cons a r ih => intro i; cases i with
    | zero => rfl
    | succ j => simp only [List.set_cons_succ, ← ih]
theorem setQ_eq {β : Type} (l : Array β) (i : Nat) (v : β) : setQ l i v = l.setIfInBounds i v := by
  rw [setQ, setQ_list]; exact Array.ext' (by simp)
theorem lenQ_list {β : Type} (l : List β) : List.rec (motive := fun _ => Nat) 0 (fun _ _ ih => Nat.add ih 1) l = l.length := by
  induction l with
  | nil => rfl
  | cons a r ih => show Nat.add _ 1 = _; rw [ih]; rfl
theorem lenQ_eq {β : Type} (l : Array β) : lenQ l = l.size := by rw [lenQ, lenQ_list]; simp
theorem pushQ_list {β : Type} (v : β) (l : List β) : List.rec (motive := fun _ => List β) [v] (fun a _ ih => a :: ih) l = l ++ [v] := by
  induction l with
  | nil => rfl
  | cons a r ih => show a :: _ = _; rw [ih]; rfl
theorem pushQ_eq {β : Type} (l : Array β) (v : β) : pushQ l v = l.push v := by
  rw [pushQ, pushQ_list]; exact Array.ext' (by simp)
theorem getQ_list {β : Type} (l : List β) : ∀ i, List.rec (motive := fun _ => Nat → Option β) (fun _ => none) (fun a _ ih i => Nat.rec (motive := fun _ => Option β) (some a) (fun j _ => ih j) i) l i = l[i]? := by
  induction l with
  | nil => intro i; rfl
  | cons a r ih => intro i; cases i with
    | zero => rfl
    | succ j => exact ih j
theorem getQ_eq {β : Type} (l : Array β) (i : Nat) : getQ l i = l[i]? := by
  rw [getQ, getQ_list, Array.getElem?_toList]
/-- A state whose fields are no chains. -/
def fsK {α : Type} (s : St) (k : St → α) : α :=
  St.rec (motive := fun _ => α) (fun h l p c => Option.rec (motive := fun _ => α) (Nat.rec (motive := fun _ => α) (k ⟨h, 0, none, c⟩) (fun l _ => k ⟨h, Nat.succ l, none, c⟩) l) (fun π => k ⟨h, l, some π, c⟩) p) s
theorem fsK_eq {α : Type} (s : St) (k : St → α) : fsK s k = k s := by
  obtain ⟨h, l, p, c⟩ := s
  cases p with
  | none => cases l <;> rfl
  | some π => rfl
def asSome (v : Value) : Option Value :=
  match v with
  | .func (.yield _) _ _ => none
  | v => some v

def opnd (P : Program) (t : Tr) : Operand → Option Value
  | .tmp i => asSome (t.getR i)
  | .const v => if flat v then some v else none
  | .global g => if g < P.globals.size then some (.pointer (some ⟨g, 0, none⟩)) else none
  | .func f => some (.func (.func f) #[] #[])

def opndsL (P : Program) (t : Tr) : List Operand → Option (List Value)
  | [] => some []
  | x :: r => match opnd P t x, opndsL P t r with
    | some v, some vs => some (v :: vs)
    | _, _ => none

def opndO (P : Program) (t : Tr) : Option Operand → Option (Option Value)
  | none => some none
  | some x => match opnd P t x with
    | some v => if flat v then some (some v) else none
    | none => none

def partsL (P : Program) (t : Tr) : List (Nat × Operand) → Option (List (Nat × Value))
  | [] => some []
  | (i, x) :: r => match opnd P t x, partsL P t r with
    | some v, some vs => some ((i, v) :: vs)
    | _, _ => none

/-- What an operation that touches no memory gives. -/
def evalPure (P : Program) {α : Type} : Sem α → Option α
  | .pure a => some a
  | .program k => evalPure P (k P)
  | _ => none

def forceN {α : Type} (m : Nat) (k : Nat → α) : α :=
  match m with
  | 0 => k 0
  | m + 1 => k (m + 1)
def forceI {α : Type} (n : Int) (k : Int → α) : α :=
  match n with
  | .ofNat m => forceN m fun m => k (.ofNat m)
  | .negSucc m => forceN m fun m => k (.negSucc m)
def forceV {α : Type} (v : Value) (k : Value → α) : α :=
  match v with
  | .int kd n => forceI n fun n => k (.int kd n)
  | .bool true => k (.bool true)
  | .bool false => k (.bool false)
  | v => k v
def force {α : Type} (s : St) (v : Value) (k : Value → α) : α :=
  match s.path with
  | none => forceV v k
  | some _ => k v

/-- A number that was reckoned: or, on a path, the name that the path gives it, behind so many others. -/
def named (s : St) (v : Value) : Option (Value × St) :=
  match s.path with
  | some (.nm n u :: π) => match n with
    | 0 => if flat u then some (u, { s with path := some π, cons := (v = u) :: s.cons }) else none
    | n + 1 => some (v, { s with path := some (.nm n u :: π) })
  | _ => force s v fun v => some (v, s)

/-- An operation over values without addresses: as the model has it. -/
def evFlat (P : Program) (o : Oper) (t : Tr) (s : St) : Option (Value × St) :=
  match opndsL P t o.op.operands.toList with
  | some vs =>
    if flatL vs then
      match evalPure P (execOp (fun x => (opnd P t x).getD gone) o) with
      | some (.value v) => if flat v then named s v else none
      | _ => none
    else none
  | none => none

def live (s : St) (b : Nat) : Option AObj :=
  match getQ s.heap b with
  | some o => if o.st < 3 then some o else none
  | none => none

def own (s : St) (b : Nat) : Option AObj :=
  match getQ s.heap b with
  | some o => if o.st = 1 then some o else none
  | none => none

def St.new (s : St) (cells : Array Value) (esz : Nat) (sym : Bool) : St :=
  { s with heap := pushQ s.heap { cells, esz, st := 1, prev := [], sym } }
theorem new_eq (s : St) (cells : Array Value) (esz : Nat) (sym : Bool) : s.new cells esz sym = { s with heap := s.heap.push { cells, esz, st := 1, prev := [], sym } } := by unfold St.new; rw [pushQ_eq]


/-- So many cells from 'off' on, by the list: what stands behind them is not looked at. -/
def exQ (cells : Array Value) (off n : Nat) : Array Value := ⟨(cells.toList.drop off).take n⟩
theorem exQ_eq (cells : Array Value) (off n : Nat) : exQ cells off n = cells.extract off (off + n) := by
  apply Array.ext'
  simp [exQ, List.extract_eq_take_drop]
def strCells (str : ByteArray) : Array Value := ⟨str.data.toList.map fun b => .int .u8 b.toNat⟩
theorem strCells_eq (str : ByteArray) : strCells str = str.data.map fun b => .int .u8 b.toNat := by
  apply Array.ext'
  simp [strCells]
def apQ (a b : Array Value) : Array Value := ⟨a.toList ++ b.toList⟩
theorem apQ_eq (a b : Array Value) : apQ a b = a ++ b := by
  apply Array.ext'
  simp [apQ]
def fillQ (z : Array Value) (n : Nat) : Array Value := ⟨(List.range n).map fun i => z[i % z.size]!⟩
theorem fillQ_eq (z : Array Value) (n : Nat) : fillQ z n = (Array.range n).map (z[· % z.size]!) := by
  apply Array.ext'
  simp [fillQ]
/-- The cells from 'off' on, so many. -/
def readCells (s : St) (o : AObj) (off n : Nat) : Option (Array Value × St) :=
  match o.sym, s.path with
  | true, some (.val cs :: π) => if cs.size = n then some (cs, { s with path := some π, cons := (off + n ≤ o.cells.size ∧ o.cells.extract off (off + n) = cs) :: s.cons }) else none
  | _, some (.row cs :: π) => some (cs, { s with path := some π, cons := (off + n ≤ o.cells.size ∧ o.cells.extract off (off + n) = cs) :: s.cons })
  | _, _ => if off + n ≤ o.cells.size then some (exQ o.cells off n, s) else none

def isAggT (P : Program) (t : TypeId) : Option Bool :=
  match P.underlying t with
  | some (.struct _) => some true
  | some (.array _ _) => some true
  | some _ => some false
  | none => none

def evLoad (P : Program) (ty : TypeId) (a : Value) (s : St) : Option (Value × St) :=
  match a with
  | .pointer (some ⟨b, off, none⟩) =>
    match live s b, isAggT P ty, P.info? ty with
    | some o, some true, some i => match readCells s o off i.size with
      | some (cs, s) => some (.agg cs, s)
      | none => none
    | some o, some false, some _ => match readCells s o off 1 with
      | some (cs, s) => match cs.toList with
        | [v] => some (v, s)
        | _ => none
      | none => none
    | _, _, _ => none
  | _ => none

/-- The rows out of which this one grew are no longer known. -/
def killL (h : Array AObj) : List Nat → Array AObj
  | [] => h
  | b :: r => killL (h.modify b fun o => { o with st := 3 }) r

def putCells (cells : Array Value) (off : Nat) : List Value → Array Value
  | [] => cells
  | v :: r => putCells (cells.setIfInBounds off v) (off + 1) r

def scalar : Value → Bool
  | .agg _ => false
  | .tuple _ => false
  | _ => true

def storeCellsAt (s : St) (b off : Nat) (cs : List Value) : Option St :=
  match own s b with
  | some o =>
    if cs.all scalar then
      match need s (decide (off + cs.length ≤ o.cells.size)) with
      | some s =>
        let low := if flatL cs then s.low else min s.low b
        some { s with low, heap := setQ (killL s.heap o.prev) b { o with cells := putCells o.cells off cs, prev := [], ver := o.ver + 1 } }
      | none => none
    else none
  | none => none

def evStore (P : Program) (ty : TypeId) (a v : Value) (s : St) : Option (Value × St) :=
  match a, P.info? ty with
  | .pointer (some ⟨b, off, none⟩), some i =>
    if v.cells.size = i.size then
      match storeCellsAt s b off v.cells.toList with
      | some s => some (undef, s)
      | none => none
    else none
  | _, _ => none

def evFieldAddr (P : Program) (ty : TypeId) (a : Value) (f : Nat) (s : St) : Option (Value × St) :=
  match a, P.underlying ty with
  | .pointer (some ⟨b, off, none⟩), some (.struct fields) =>
    match fields[f]? with
    | some fd => match P.info? fd.type with
      | some i => if i.size = 0 then none else some (.pointer (some ⟨b, off + fd.offset, none⟩), s)
      | none => none
    | none => none
  | _, _ => none

def evIndexAddr (P : Program) (ty : TypeId) (x ix : Value) (s : St) : Option (Value × St) :=
  match ix, x, P.underlying ty with
  | .int _ i, .slice (some ⟨b, off, none⟩) len _, some (.slice elem) =>
    match P.info? elem, need s (decide (0 ≤ i ∧ i < (len : Int))) with
    | some e, some s => some (.pointer (some ⟨b, off + i.toNat * e.size, none⟩), s)
    | _, _ => none
  | .int _ i, .pointer (some ⟨b, off, none⟩), some (.array len elem) =>
    match P.info? elem, need s (decide (0 ≤ i ∧ i < (len : Int))) with
    | some e, some s => some (.pointer (some ⟨b, off + i.toNat * e.size, none⟩), s)
    | _, _ => none
  | _, _, _ => none

/-- An index into a string, or into an array's value. -/
def evIndex (P : Program) (ty : TypeId) (x ix : Value) (s : St) : Option (Value × St) :=
  match ix, x, P.underlying ty with
  | .int _ i, .string str, some .string =>
    match need s (decide (0 ≤ i ∧ i < (str.size : Int))) with
    | some s => some (.int .u8 ((str.data.getD i.toNat 0).toNat : Int), s)
    | none => none
  | .int _ i, .agg cs, some (.array len elem) =>
    match P.info? elem, isAggT P elem, need s (decide (0 ≤ i ∧ i < (len : Int))) with
    | some e, some true, some s => some (.agg (cs.extract (i.toNat * e.size) (i.toNat * e.size + e.size)), s)
    | some e, some false, some s => match cs[i.toNat * e.size]? with
      | some v => some (v, s)
      | none => none
    | _, _, _ => none
  | _, _, _ => none

def evField (P : Program) (ty : TypeId) (x : Value) (f : Nat) (s : St) : Option (Value × St) :=
  match x, P.underlying ty with
  | .agg cs, some (.struct fields) =>
    match fields[f]? with
    | some fd => match P.info? fd.type, isAggT P fd.type with
      | some i, some true => some (.agg (cs.extract fd.offset (fd.offset + i.size)), s)
      | some _, some false => match cs[fd.offset]? with
        | some v => some (v, s)
        | none => none
      | _, _ => none
    | none => none
  | _, _ => none

/-- The bounds of a slice expression without a third index. -/
def evBounds (len cap : Nat) (lo hi : Option Value) (s : St) : Option (Nat × Nat × St) :=
  match (match hi with
    | none => some (len, s)
    | some (.int _ h) => match need s (decide (0 ≤ h ∧ h ≤ (cap : Int))) with
      | some s => some (h.toNat, s)
      | none => none
    | some _ => none : Option (Nat × St)) with
  | some (h, s) =>
    match lo with
    | none => some (0, h, s)
    | some (.int _ l) => match need s (decide (0 ≤ l ∧ l ≤ (h : Int))) with
      | some s => some (l.toNat, h, s)
      | none => none
    | some _ => none
  | none => none

def evSlice (P : Program) (ty : TypeId) (x : Value) (lo hi mx : Option Value) (s : St) : Option (Value × St) :=
  match mx, x, P.underlying ty with
  | none, .string str, some .string =>
    match evBounds str.size str.size lo hi s with
    | some (l, h, s) => some (.string (str.extract l h), s)
    | none => none
  | none, .slice (some ⟨b, off, none⟩) len _, some (.slice elem) =>
    match P.info? elem, live s b with
    | some e, some o =>
      if e.size = o.esz ∧ 0 < e.size then
        match evBounds len ((o.cells.size - off) / e.size) lo hi s with
        | some (l, h, s) => some (.slice (some ⟨b, off + l * e.size, none⟩) (h - l) 0, s)
        | none => none
      else none
    | _, _ => none
  | none, .slice none 0 0, some (.slice elem) =>
    match P.info? elem with
    | some _ => match evBounds 0 0 lo hi s with
      | some (_, _, s) => some (.slice none 0 0, s)
      | none => none
    | none => none
  | none, .slice none 0 1, some (.slice elem) =>
    match P.info? elem with
    | some _ => match evBounds 0 0 lo hi s with
      | some (_, _, s) => some (.slice none 0 1, s)
      | none => none
    | none => none
  | _, _, _ => none
def zeroInt (v : Value) : Bool :=
  match v with
  | .int _ (.ofNat 0) => true
  | _ => false
/-- 'x[:0:0]': nothing, and no room behind it. -/
def evSlice0 (P : Program) (ty : TypeId) (x hi mx : Value) (s : St) : Option (Value × St) :=
  match P.underlying ty, zeroInt hi && zeroInt mx with
  | some (.slice elem), true =>
    match P.info? elem with
    | some _ => match x with
      | .slice none 0 0 => some (.slice none 0 0, s)
      | .slice none 0 1 => some (.slice none 0 1, s)
      | .slice (some ⟨_, _, none⟩) _ _ => some (.slice none 0 1, s)
      | _ => none
    | none => none
  | _, _ => none

/-- 'x[l:h:m]', where the row ends at m. -/
def evSliceM (P : Program) (ty : TypeId) (x : Value) (lo : Option Value) (hi mx : Value) (s : St) : Option (Value × St) :=
  match P.underlying ty, x, (match lo with | none => some 0 | some (.int _ (.ofNat l)) => some l | _ => none), hi, mx with
  | some (.slice elem), .slice (some ⟨b, off, none⟩) _ _, some l, .int _ (.ofNat h), .int _ (.ofNat m) =>
    match P.info? elem, live s b with
    | some e, some o =>
      if e.size = o.esz ∧ 0 < e.size then
        match need s (decide (l ≤ h ∧ h ≤ m ∧ off + m * e.size = o.cells.size)) with
        | some s => some (.slice (some ⟨b, off + l * e.size, none⟩) (h - l) 0, s)
        | none => none
      else none
    | _, _ => none
  | _, _, _, _, _ => none
def evSlice3 (P : Program) (ty : TypeId) (x : Value) (lo : Option Value) (hi mx : Value) (s : St) : Option (Value × St) :=
  match lo, zeroInt hi && zeroInt mx with
  | none, true => evSlice0 P ty x hi mx s
  | _, _ => evSliceM P ty x lo hi mx s

/-- 'x[:h]' of an array that is the call's own: from then on it is read as a row alone, and the array is no more known. -/
def evSliceArr (P : Program) (n : Nat) (elem : TypeId) (x : Value) (hi : Option Value) (s : St) : Option (Value × St) :=
  match x, hi, P.info? elem with
  | .pointer (some ⟨b, off, none⟩), some (.int _ h), some e =>
    match own s b with
    | some o =>
      match need s (decide (0 ≤ h ∧ h ≤ (n : Int) ∧ 0 < e.size ∧ off + n * e.size ≤ o.cells.size)) with
      | some s => some (.slice (some ⟨lenQ s.heap, 0, none⟩) h.toNat 0,
          { s with heap := pushQ (setQ s.heap b { o with st := 3 }) { cells := exQ o.cells off (n * e.size), esz := e.size, st := 0, prev := [], sym := o.sym } })
      | none => none
    | none => none
  | _, _, _ => none
def evSliceAny (P : Program) (ty : TypeId) (x : Value) (lo hi : Option Value) (s : St) : Option (Value × St) :=
  match lo, P.underlying ty with
  | none, some (.array n elem) => evSliceArr P n elem x hi s
  | _, _ => evSlice P ty x lo hi none s

def evBuild (P : Program) (ty : TypeId) (parts : List (Nat × Value)) (s : St) : Option (Value × St) :=
  match P.info? ty, P.underlying ty with
  | some i, some (.struct fields) =>
    match i.zero, fields.toList.mapM (fun f => (P.info? f.type).map fun j => (f.offset, j.size)) with
    | some z, some places => if flat z then match Instr.fill (fun i => places[i]?) z.cells parts with
      | some cs => some (.agg cs, s)
      | none => none
      else none
    | _, _ => none
  | some i, some (.array _ elem) =>
    match i.zero, P.info? elem with
    | some z, some e => if flat z then match Instr.fill (fun i => some (i * e.size, e.size)) z.cells parts with
      | some cs => some (.agg cs, s)
      | none => none
      else none
    | _, _ => none
  | _, _ => none

def evBuildSlice (P : Program) (ty : TypeId) (len : Nat) (parts : List (Nat × Value)) (s : St) : Option (Value × St) :=
  match P.underlying ty with
  | some (.slice elem) => match P.info? elem with
    | some e => match e.zero with
      | some z =>
        if len * e.size ≤ 65536 ∧ 0 < e.size ∧ z.cells.size = e.size ∧ flat z = true then
          match Instr.fill (fun i => some (i * e.size, e.size)) ((Array.range (len * e.size)).map (z.cells[· % z.cells.size]!)) parts with
          | some cs => if cs.all scalar then some (.slice (some ⟨lenQ s.heap, 0, none⟩) len 0, s.new cs e.size false) else none
          | none => none
        else none
      | none => none
    | none => none
  | _ => none

def evMakeSlice (P : Program) (ty : TypeId) (len cap : Value) (s : St) : Option (Value × St) :=
  match len, cap, P.underlying ty with
  | .int _ l, .int _ c, some (.slice elem) => match P.info? elem with
    | some e => match e.zero with
      | some z =>
        if 0 < e.size ∧ z.cells.size = e.size ∧ e.bytes ≤ 65536 ∧ flat z = true ∧ z.cells.all scalar = true then
          match need s (decide (0 ≤ l ∧ l ≤ c ∧ c ≤ 1073741824)) with
          | some s => some (.slice (some ⟨lenQ s.heap, 0, none⟩) l.toNat 0, s.new (fillQ z.cells (l.toNat * e.size)) e.size s.path.isSome)
          | none => none
        else none
      | none => none
    | none => none
  | _, _, _ => none

/-- How long what is appended is, and its cells. -/
def evTail (_ : Program) (esz : Nat) (x : Value) (s : St) : Option (Nat × Array Value × Bool × St) :=
  match x with
  | .slice none 0 0 => some (0, #[], false, s)
  | .slice none 0 1 => some (0, #[], false, s)
  | .string str => if esz = 1 then some (str.size, strCells str, s.path.isSome, s) else none
  | .slice (some ⟨b, off, none⟩) n _ =>
    match live s b with
    | some o => if o.esz = esz then
        match need s (decide (off + n * esz ≤ o.cells.size)) with
        | some s => some (n, exQ o.cells off (n * esz), o.sym, s)
        | none => none
      else none
    | none => none
  | _ => none

def evAppend (P : Program) (argTypes : Array TypeId) (x y : Value) (s : St) : Option (Value × St) :=
  match argTypes[0]?, argTypes[1]? with
  | some sT, some yT =>
    match P.underlying sT, P.underlying yT with
    | some (.slice elem), some yd =>
      match (match yd with | .slice _ => true | .string => true | _ => false), P.info? elem with
      | true, some e =>
        match e.zero with
        | none => none
        | some z =>
        if 0 < e.size ∧ z.cells.size = e.size ∧ e.bytes ≤ 65536 then
          match evTail P e.size y s with
          | some (n, new, sy, s) =>
            match x with
            | .slice none 0 0 =>
              match test s (n == 0) with
              | some (true, s) => some (.slice none 0 0, s)
              | some (false, s) => match need s (decide (n ≤ 1073741824)) with
                | some s => some (.slice (some ⟨lenQ s.heap, 0, none⟩) n 0, s.new new e.size sy)
                | none => none
              | none => none
            | .slice none 0 1 =>
              match test s (n == 0) with
              | some (true, s) => some (.slice none 0 1, s)
              | some (false, s) => match need s (decide (n ≤ 1073741824)) with
                | some s => some (.slice (some ⟨lenQ s.heap, 0, none⟩) n 0, s.new new e.size sy)
                | none => none
              | none => none
            | .slice (some ⟨b, off, none⟩) len _ =>
              match own s b with
              | some o =>
                if o.esz = e.size then
                  match test s (n == 0) with
                  | some (true, s) => some (x, s)
                  | some (false, s) =>
                    match test s (off + len * e.size == o.cells.size) with
                    | some (true, s) =>
                      match need s (decide (len + n ≤ 1073741824)) with
                      | some s =>
                        some (.slice (some ⟨lenQ s.heap, 0, none⟩) (len + n) 0,
                          { s with heap := pushQ (setQ s.heap b { o with st := 2, prev := [] }) { cells := apQ (exQ o.cells off (len * e.size)) new, esz := e.size, st := 1, prev := b :: o.prev, sym := o.sym || sy } })
                      | none => none
                    | some (false, s) =>
                      match need s (decide (off + (len + n) * e.size ≤ o.cells.size)) with
                      | some s => match storeCellsAt s b (off + len * e.size) new.toList with
                        | some s => some (.slice (some ⟨b, off, none⟩) (len + n) 0, s)
                        | none => none
                      | none => none
                    | none => none
                  | none => none
                else none
              | none => none
            | _ => none
          | none => none
        else none
      | _, _ => none
    | _, _ => none
  | _, _ => none

def isZeroU8 (z : Value) : Bool :=
  match z with
  | .int .u8 (.ofNat 0) => true
  | _ => false
def findStr (P : Program) : Option TypeId := (List.range 96).find? fun t => match P.underlying t with
  | some .string => true
  | _ => false
def zeroStr (n : Nat) : ByteArray := ⟨(List.replicate n (0 : UInt8)).toArray⟩
/-- append, and of a row that is made there: as if a text of so many zeros came behind. -/
def evAppendA (P : Program) (argTypes : Array TypeId) (x y : Value) (s : St) : Option (Value × St) :=
  match y with
  | .int .i64 (.ofNat n) =>
    match argTypes[0]?, argTypes[1]?, findStr P, x with
    | some sT, some yT, some st, .slice _ len _ =>
      match P.underlying sT, P.underlying yT with
      | some (.slice elem), some (.int _) =>
        match P.info? elem with
        | some e =>
          match e.zero with
          | some z => if e.size = 1 ∧ e.bytes = 1 ∧ isZeroU8 z = true ∧ Nat.ble (len + n) 1073741824 = true then evAppend P #[sT, st] x (.string (zeroStr n)) s else none
          | none => none
        | none => none
      | _, _ => none
    | _, _, _, _ => none
  | y => evAppend P argTypes x y s

def evCopy (P : Program) (argTypes : Array TypeId) (x y : Value) (s : St) : Option (Value × St) :=
  match argTypes[0]? with
  | some sT =>
    match P.underlying sT with
    | some (.slice elem) =>
      match P.info? elem with
      | some e =>
        match evTail P e.size y s with
        | some (n, new, _, s) =>
          match x with
          | .slice none 0 0 => some (.int .i64 0, s)
          | .slice none 0 1 => some (.int .i64 0, s)
          | .slice (some ⟨b, off, none⟩) len _ =>
            match own s b with
            | some o =>
              if o.esz = e.size ∧ 0 < e.size then
                match storeCellsAt s b off (exQ new 0 (min n len * e.size)).toList with
                | some s => some (.int .i64 ((min n len : Nat) : Int), s)
                | none => none
              else none
            | none => none
          | _ => none
        | none => none
      | none => none
    | _ => none
  | none => none

/-- clear, of a slice. -/
def evClear (P : Program) (argTypes : Array TypeId) (x : Value) (s : St) : Option (Value × St) :=
  match argTypes[0]? with
  | some sT =>
    match P.underlying sT with
    | some (.slice elem) =>
      match x with
      | .slice none 0 0 => some (.tuple #[], s)
      | .slice none 0 1 => some (.tuple #[], s)
      | .slice (some ⟨b, off, none⟩) len _ =>
        match P.info? elem with
        | some e =>
          match e.zero with
          | some z =>
            match own s b with
            | some o =>
              if o.esz = e.size ∧ 0 < e.size ∧ z.cells.size = e.size ∧ flatL z.cells.toList = true then
                match storeCellsAt s b off (fillQ z.cells (len * e.size)).toList with
                | some s => some (.tuple #[], s)
                | none => none
              else none
            | none => none
          | none => none
        | none => none
      | _ => none
    | _ => none
  | none => none

def evLen (P : Program) (argTypes : Array TypeId) (x : Value) (s : St) : Option (Value × St) :=
  match argTypes[0]? with
  | some t =>
    match P.underlying t, x with
    | some .string, .string str => force s (.int .i64 (str.size : Int)) fun v => some (v, s)
    | some (.slice _), .slice _ n _ => force s (.int .i64 (n : Int)) fun v => some (v, s)
    | some (.array n _), _ => some (.int .i64 (n : Int), s)
    | _, _ => none
  | none => none

/-- A slice, a pointer or a function against nil. -/
def evNil (P : Program) (ty : TypeId) (x y : Value) : Option Bool :=
  match P.underlying ty, x, y with
  | some (.pointer _), .pointer none, .pointer b => some b.isNone
  | some (.pointer _), .pointer (some _), .pointer none => some false
  | some (.slice _), .slice none 0 0, .slice none 0 0 => some true
  | some (.slice _), .slice none 0 0, .slice none 0 1 => some false
  | some (.slice _), .slice none 0 1, .slice none 0 0 => some false
  | some (.slice _), .slice none 0 0, .slice (some _) _ _ => some false
  | some (.slice _), .slice (some _) _ _, .slice none 0 0 => some false
  | some (.func _ _ _), .nilFunc, .nilFunc => some true
  | some (.func _ _ _), .nilFunc, .func (.func _) _ _ => some false
  | some (.func _ _ _), .func (.func _) _ _, .nilFunc => some false
  | _, _, _ => none

def evStrToBytes (P : Program) (src dst : TypeId) (x : Value) (s : St) : Option (Value × St) :=
  match P.underlying src, P.underlying dst, x with
  | some .string, some (.slice e), .string str =>
    match P.underlying e with
    | some (.int .u8) => some (.slice (some ⟨lenQ s.heap, 0, none⟩) str.size 0, s.new (strCells str) 1 s.path.isSome)
    | _ => none
  | _, _, _ => none

def bytesOf : List Value → Option (List UInt8)
  | [] => some []
  | .int .u8 n :: r => match bytesOf r with
    | some l => some (UInt8.ofNat n.toNat :: l)
    | none => none
  | _ => none

def isU8 : Value → Bool
  | .int .u8 _ => true
  | _ => false
def toU8 : Value → UInt8
  | .int .u8 n => UInt8.ofNat n.toNat
  | _ => 0
def bytesQ (l : List Value) : Option (List UInt8) :=
  match l.all isU8 with
  | true => some (l.map toU8)
  | false => none
theorem bytesQ_eq (l : List Value) : bytesQ l = bytesOf l := by
  induction l with
  | nil => rfl
  | cons v r ih =>
    unfold bytesQ at ih ⊢
    cases v with
    | int k n =>
      cases k
      case u8 =>
        simp only [List.all_cons, isU8, Bool.true_and, List.map_cons, toU8, bytesOf]
        rw [← ih]
        cases r.all isU8 <;> rfl
      all_goals rfl
    | _ => rfl
def strOf (cs : Array Value) (s : St) : Option (Value × St) :=
  match s.path with
  | some (.str l :: π) => some (.string ⟨l.toArray⟩, { s with path := some π, cons := (bytesOf cs.toList = some l) :: s.cons })
  | _ => match bytesQ cs.toList with
    | some l => some (.string ⟨l.toArray⟩, s)
    | none => none
def evBytesToStr (P : Program) (src dst : TypeId) (x : Value) (s : St) : Option (Value × St) :=
  match P.underlying src, P.underlying dst, x with
  | some (.slice e), some .string, .slice none 0 0 =>
    match P.underlying e with
    | some (.int .u8) => some (.string .empty, s)
    | _ => none
  | some (.slice e), some .string, .slice (some ⟨b, off, none⟩) n _ =>
    match P.underlying e, live s b with
    | some (.int .u8), some o => if o.esz = 1 then
        match readCells s o off n with
        | some (cs, s) => strOf cs s
        | none => none
      else none
    | _, _ => none
  | _, _, _ => none

abbrev CallFn := FuncId → Array Value → St → Option (Value × St)

def evCallOp (P : Program) (call : CallFn) (c : Call) (t : Tr) (s : St) : Option (Value × St) :=
  match c.callee with
  | .value fo => match opnd P t fo, opndsL P t c.args.toList with
    | some (.func (.func f) first captured), some args => call f ((first.toList ++ args ++ captured.toList).toArray) s
    | _, _ => none
  | .builtin .len => match opndsL P t c.args.toList with
    | some [x] => evLen P c.argTypes x s
    | _ => none
  | .builtin .append => match opndsL P t c.args.toList with
    | some [x, y] => evAppendA P c.argTypes x y s
    | _ => none
  | .builtin .copy => match opndsL P t c.args.toList with
    | some [x, y] => evCopy P c.argTypes x y s
    | _ => none
  | .builtin .clear => match opndsL P t c.args.toList with
    | some [x] => evClear P c.argTypes x s
    | _ => none
  | _ => none

/-- Whole numbers, reckoned fast. -/
def wrapF (k : IntKind) (n : Int) : Int :=
  match k with
  | .i64 => let m := n % 18446744073709551616; if m ≥ 9223372036854775808 then m - 18446744073709551616 else m
  | .i32 => let m := n % 4294967296; if m ≥ 2147483648 then m - 4294967296 else m
  | .i16 => let m := n % 65536; if m ≥ 32768 then m - 65536 else m
  | .i8 => let m := n % 256; if m ≥ 128 then m - 256 else m
  | .u64 => n % 18446744073709551616
  | .u32 => n % 4294967296
  | .u16 => n % 65536
  | .u8 => n % 256
def bitsF (k : IntKind) : Nat :=
  match k with
  | .i8 | .u8 => 8
  | .i16 | .u16 => 16
  | .i32 | .u32 => 32
  | .i64 | .u64 => 64
/-- Within a kind's range, and no less than zero? -/
def fitsU (k : IntKind) (n : Int) : Bool :=
  match n with
  | .negSucc _ => false
  | .ofNat m => match k with
    | .u8 => Nat.ble m 255
    | .u16 => Nat.ble m 65535
    | .u32 => Nat.ble m 4294967295
    | .u64 => Nat.ble m 18446744073709551615
    | .i8 => Nat.ble m 127
    | .i16 => Nat.ble m 32767
    | .i32 => Nat.ble m 2147483647
    | .i64 => Nat.ble m 9223372036854775807

def ifNeed (s : St) (b : Bool) (v : Value) : Option (Value × St) :=
  match need s b with
  | some s => some (v, s)
  | none => none
def evIntSame (op : BinOp) (k : IntKind) (x y : Int) (s : St) : Option (Value × St) :=
  match op with
  | .add => some (.int k (wrapF k (x + y)), s)
  | .sub => some (.int k (wrapF k (x - y)), s)
  | .mul => some (.int k (wrapF k (x * y)), s)
  | .quo => ifNeed s (!decide (y = 0)) (.int k (wrapF k (x.tdiv y)))
  | .rem => ifNeed s (!decide (y = 0)) (.int k (x.tmod y))
  | .eql => some (.bool (decide (x = y)), s)
  | .neq => some (.bool (!decide (x = y)), s)
  | .lss => some (.bool (decide (x < y)), s)
  | .leq => some (.bool (decide (x ≤ y)), s)
  | .gtr => some (.bool (decide (x > y)), s)
  | .geq => some (.bool (decide (x ≥ y)), s)
  | .and => ifNeed s (fitsU k x && fitsU k y) (.int k ((x.toNat &&& y.toNat : Nat) : Int))
  | .or => ifNeed s (fitsU k x && fitsU k y) (.int k ((x.toNat ||| y.toNat : Nat) : Int))
  | .xor => ifNeed s (fitsU k x && fitsU k y) (.int k ((x.toNat ^^^ y.toNat : Nat) : Int))
  | .andNot => ifNeed s (fitsU k x && fitsU k y) (.int k ((x.toNat ^^^ (x.toNat &&& y.toNat) : Nat) : Int))
  | _ => none
def evInt (op : BinOp) (k : IntKind) (x : Int) (k' : IntKind) (y : Int) (s : St) : Option (Value × St) :=
  match op with
  | .shl => ifNeed s (decide (0 ≤ y)) (.int k (wrapF k (x * ((2 ^ min y.toNat (bitsF k) : Nat) : Int))))
  | .shr => ifNeed s (decide (0 ≤ y)) (.int k (x.fdiv ((2 ^ min y.toNat (bitsF k) : Nat) : Int)))
  | _ => if k = k' then evIntSame op k x y s else none

def isMinMax : Callee → Bool
  | .builtin .min => true
  | .builtin .max => true
  | _ => false

def evMove (P : Program) (t : Tr) (x : Operand) (s : St) : Option (Value × St) :=
  match opnd P t x with
  | some v => some (v, s)
  | none => none
def evPick (P : Program) (t : Tr) (c a b : Operand) (s : St) : Option (Value × St) :=
  match opnd P t c with
  | some (.bool k) => match test s k with
    | some (true, s) => evMove P t a s
    | some (false, s) => evMove P t b s
    | none => none
  | _ => none
def evAlloc (P : Program) (elem : TypeId) (s : St) : Option (Value × St) :=
  match P.info? elem with
  | some i => match i.zero with
    | some z => if flat z && z.cells.all scalar then some (.pointer (some ⟨lenQ s.heap, 0, none⟩), s.new z.cells 0 false) else none
    | none => none
  | none => none
def evBox (P : Program) (t : Tr) (x : Operand) (s : St) : Option (Value × St) :=
  match opnd P t x with
  | some v => if v.cells.all scalar then some (.pointer (some ⟨lenQ s.heap, 0, none⟩), s.new v.cells 0 false) else none
  | none => none
def evBinNil (P : Program) (op : BinOp) (ty : TypeId) (v u : Value) (s : St) : Option (Value × St) :=
  match op, evNil P ty v u with
  | .eql, some b => some (.bool b, s)
  | .neq, some b => some (.bool !b, s)
  | _, _ => none
/-- What 'evInt' alone reckons. -/
def alone (op : BinOp) (k : IntKind) : Bool :=
  match op with
  | .quo | .rem | .shl | .shr => true
  | .and | .or | .xor | .andNot => match k with
    | .u8 | .u16 | .u32 | .u64 => true
    | _ => false
  | _ => false
def evBinInt (P : Program) (op : BinOp) (k : IntKind) (a : Int) (k' : IntKind) (b : Int) (o : Oper) (t : Tr) (s : St) : Option (Value × St) :=
  match evInt op k a k' b s with
  | some (v, s) => named s v
  | none => bif alone op k then none else evFlat P o t s
/-- Two structs of plain fields. -/
def eqScalar (P : Program) (t : TypeId) (x y : Value) : Option Bool :=
  match P.underlying t, x, y with
  | some .bool, .bool a, .bool b => some (a == b)
  | some (.int _), .int k a, .int k' b => if k = k' then some (a == b) else none
  | some .string, .string a, .string b => some (a.toList == b.toList)
  | _, _, _ => none
def eqFieldsE (P : Program) (xs ys : Array Value) : List Field → Option Bool
  | [] => some true
  | f :: fs =>
    if f.name ≠ "_" then
      match isAggT P f.type, xs[f.offset]?, ys[f.offset]? with
      | some false, some a, some b => match eqScalar P f.type a b, eqFieldsE P xs ys fs with
        | some r, some r' => some (r && r')
        | _, _ => none
      | _, _, _ => none
    else eqFieldsE P xs ys fs
def evAggEq (P : Program) (op : BinOp) (ty : TypeId) (v u : Value) : Option Bool :=
  match v, u, P.underlying ty with
  | .agg xs, .agg ys, some (.struct fs) =>
    if P.stoodInHeld ty = false ∧ P.eqGuardType P.depth ty = false then
      match op, eqFieldsE P xs ys fs.toList with
      | .eql, some r => some r
      | .neq, some r => some (!r)
      | _, _ => none
    else none
  | _, _, _ => none
/-- A float's sum, and its like, on a path: the path says what it is. -/
def evFloat (op : BinOp) (v u : Value) (s : St) : Option (Value × St) :=
  match v, u, s.path with
  | .float k x, .float k' y, some (.nm 0 (.float k2 r) :: π) => if k' = k ∧ k2 = k then some (.float k r, { s with path := some π, cons := (floatBits op k x y = some r) :: s.cons }) else none
  | _, _, _ => none
/-- Two texts, reckoned fast. -/
def eqL : List UInt8 → List UInt8 → Bool
  | [], [] => true
  | x :: r, y :: q => match Nat.beq x.toNat y.toNat with
    | true => eqL r q
    | false => false
  | _, _ => false
theorem eqL_eq : ∀ (l m : List UInt8), eqL l m = (l == m)
  | [], [] => rfl
  | [], _ :: _ => rfl
  | _ :: _, [] => rfl
  | x :: r, y :: q => by
    simp only [eqL]
    cases h : Nat.beq x.toNat y.toNat with
    | true =>
      have : x = y := UInt8.toNat_inj.1 (Nat.eq_of_beq_eq_true h)
      subst this
      rw [eqL_eq r q]
      simp
    | false =>
      have : x ≠ y := by
        rintro rfl
        rw [Nat.beq_refl] at h; cases h
      simp [this]
def evStrEq (P : Program) (op : BinOp) (ty : TypeId) (v u : Value) : Option Bool :=
  match v, u, P.underlying ty with
  | .string a, .string b, some .string => match op with
    | .eql => some (eqL a.data.toList b.data.toList)
    | .neq => some (!eqL a.data.toList b.data.toList)
    | _ => none
  | _, _, _ => none
def evBinFlat (P : Program) (op : BinOp) (ty : TypeId) (v u : Value) (o : Oper) (t : Tr) (s : St) : Option (Value × St) :=
  match s.path with
  | none => match evStrEq P op ty v u with
    | some b => some (.bool b, s)
    | none => evFlat P o t s
  | some _ => match evAggEq P op ty v u with
    | some b => some (.bool b, s)
    | none => match evFloat op v u s with
      | some r => some r
      | none => evFlat P o t s
def evBin (P : Program) (op : BinOp) (ty : TypeId) (x y : Operand) (o : Oper) (t : Tr) (s : St) : Option (Value × St) :=
  match opnd P t x, opnd P t y with
  | some (.int k a), some (.int k' b) => evBinInt P op k a k' b o t s
  | some v, some u => if flat v && flat u then evBinFlat P op ty v u o t s else evBinNil P op ty v u s
  | _, _ => none
def evConvInt (P : Program) (src dst : TypeId) (x : Value) (s : St) : Option (Value × St) :=
  match x, P.underlying src, P.underlying dst with
  | .int _ n, some _, some (.int k) => named s (.int k (wrapF k n))
  | _, _, _ => none
def evConv (P : Program) (src dst : TypeId) (x : Operand) (o : Oper) (t : Tr) (s : St) : Option (Value × St) :=
  match opnd P t x with
  | some v => match evConvInt P src dst v s with
    | some r => some r
    | none => match evStrToBytes P src dst v s with
      | some r => some r
      | none => match evBytesToStr P src dst v s with
        | some r => some r
        | none => evFlat P o t s
  | none => none
def evExtract (P : Program) (t : Tr) (x : Operand) (i : Nat) (s : St) : Option (Value × St) :=
  match opnd P t x with
  | some (.tuple vs) => match vs[i]? with
    | some v => some (v, s)
    | none => none
  | _ => none
def evNilCheck (P : Program) (t : Tr) (x : Operand) (s : St) : Option (Value × St) :=
  match opnd P t x with
  | some (.pointer (some a)) => some (.pointer (some a), s)
  | _ => none
def evSliceOp (P : Program) (t : Tr) (ty : TypeId) (x : Operand) (lo hi mx : Option Operand) (s : St) : Option (Value × St) :=
  match opnd P t x, opndO P t lo, opndO P t hi, opndO P t mx with
  | some v, some l, some h, some none => evSliceAny P ty v l h s
  | some v, some l, some (some h), some (some m) => evSlice3 P ty v l h m s
  | _, _, _, _ => none
def with1 (P : Program) (t : Tr) (x : Operand) (k : Value → Option (Value × St)) : Option (Value × St) :=
  match opnd P t x with
  | some v => k v
  | none => none
def with2 (P : Program) (t : Tr) (x y : Operand) (k : Value → Value → Option (Value × St)) : Option (Value × St) :=
  match opnd P t x, opnd P t y with
  | some v, some u => k v u
  | _, _ => none
def withPs (P : Program) (t : Tr) (ps : List (Nat × Operand)) (k : List (Nat × Value) → Option (Value × St)) : Option (Value × St) :=
  match partsL P t ps with
  | some v => k v
  | none => none
def evCallAny (P : Program) (call : CallFn) (c : Call) (o : Oper) (t : Tr) (s : St) : Option (Value × St) :=
  if isMinMax c.callee then evFlat P o t s else evCallOp P call c t s

def evMakeFunc (P : Program) (t : Tr) (fn : Fn) (first captured : Array Operand) (s : St) : Option (Value × St) :=
  match fn with
  | .func f => match opndsL P t first.toList, opndsL P t captured.toList with
    | some a, some c => some (.func (.func f) ⟨a⟩ ⟨c⟩, s)
    | _, _ => none
  | _ => none
def evOp (P : Program) (call : CallFn) (o : Oper) (t : Tr) (s : St) : Option (Value × St) :=
  match o.op with
  | .move x => evMove P t x s
  | .assign x => evMove P t x s
  | .pick c a b => evPick P t c a b s
  | .alloc elem => evAlloc P elem s
  | .box _ x => evBox P t x s
  | .build ty parts => withPs P t parts.toList fun ps => evBuild P ty ps s
  | .buildSlice ty len parts => withPs P t parts.toList fun ps => evBuildSlice P ty len ps s
  | .load ty a => with1 P t a fun v => evLoad P ty v s
  | .store ty a x => with2 P t a x fun v u => evStore P ty v u s
  | .nilCheck x => evNilCheck P t x s
  | .binOp op ty x y _ => evBin P op ty x y o t s
  | .unOp .. => evFlat P o t s
  | .convert src dst x => evConv P src dst x o t s
  | .makeFunc fn first captured => evMakeFunc P t fn first captured s
  | .makeSlice ty l c => with2 P t l c fun v u => evMakeSlice P ty v u s
  | .slice ty x lo hi mx => evSliceOp P t ty x lo hi mx s
  | .fieldAddr ty x f => with1 P t x fun v => evFieldAddr P ty v f s
  | .field ty x f => with1 P t x fun v => evField P ty v f s
  | .indexAddr ty x ix => with2 P t x ix fun v i => evIndexAddr P ty v i s
  | .index ty x ix => with2 P t x ix fun v i => evIndex P ty v i s
  | .extract x i => evExtract P t x i s
  | .call c => evCallAny P call c o t s
  | _ => none

/-- The same by a table whose rows hold nothing of the state: fewer steps. -/
abbrev Hnd := Program → CallFn → Oper → Tr → St → Option (Value × St)
def hNone : Hnd := fun _ _ _ _ _ => none
def opH (op : Op) : Hnd := Op.rec (motive := fun _ => Hnd)
  (fun x P call o t s => evMove P t x s)
  (fun x P call o t s => evMove P t x s)
  (fun c a b P call o t s => evPick P t c a b s)
  (fun elem P call o t s => evAlloc P elem s)
  (fun _ x P call o t s => evBox P t x s)
  (fun ty parts P call o t s => withPs P t parts.toList fun ps => evBuild P ty ps s)
  (fun ty len parts P call o t s => withPs P t parts.toList fun ps => evBuildSlice P ty len ps s)
  (fun _ _ _ _ => hNone)
  (fun ty a P call o t s => with1 P t a fun v => evLoad P ty v s)
  (fun ty a x P call o t s => with2 P t a x fun v u => evStore P ty v u s)
  (fun _ => hNone)
  (fun _ => hNone)
  (fun x P call o t s => evNilCheck P t x s)
  (fun op ty x y _ P call o t s => evBin P op ty x y o t s)
  (fun _ _ _ P call o t s => evFlat P o t s)
  (fun src dst x P call o t s => evConv P src dst x o t s)
  (fun _ _ => hNone)
  (fun _ _ => hNone)
  (fun fn first captured P _ _ t s => evMakeFunc P t fn first captured s)
  (fun _ _ => hNone)
  (fun _ _ => hNone)
  (fun ty l c P call o t s => with2 P t l c fun v u => evMakeSlice P ty v u s)
  (fun ty x lo hi mx P call o t s => evSliceOp P t ty x lo hi mx s)
  (fun ty x f P call o t s => with1 P t x fun v => evFieldAddr P ty v f s)
  (fun ty x f P call o t s => with1 P t x fun v => evField P ty v f s)
  (fun ty x ix P call o t s => with2 P t x ix fun v i => evIndexAddr P ty v i s)
  (fun ty x ix P call o t s => with2 P t x ix fun v i => evIndex P ty v i s)
  (fun _ _ _ _ => hNone)
  (fun _ _ _ _ => hNone)
  (fun _ _ _ => hNone)
  (fun _ _ _ _ => hNone)
  (fun _ _ => hNone)
  (fun _ _ => hNone)
  (fun _ => hNone)
  (fun _ _ _ _ => hNone)
  (fun x i P call o t s => evExtract P t x i s)
  (fun c P call o t s => evCallAny P call c o t s)
  (fun _ => hNone)
  (fun _ => hNone)
  (fun _ => hNone)
  (fun _ _ => hNone)
  (fun _ _ _ => hNone)
  (fun _ _ => hNone)
  op
def evOpF (P : Program) (call : CallFn) (o : Oper) (t : Tr) (s : St) : Option (Value × St) := opH o.op P call o t s
theorem evOpF_eq (P : Program) (call : CallFn) (o : Oper) (t : Tr) (s : St) : evOpF P call o t s = evOp P call o t s := by
  obtain ⟨dst, op, ty, pos, after, guard⟩ := o
  cases op <;> rfl

def putT (t : Tr) (dst : Option Tmp) (v : Value) : Tr :=
  match dst with
  | some d => t.putR d v
  | none => t

def wantedV (v : Value) (want : Bool) (s : St) : Option (Bool × St) :=
  match v with
  | .bool b => match test s b with
    | some (b, s) => some (b == want, s)
    | none => none
  | .func (.yield _) _ _ => none
  | _ => some (false, s)

/-- Is the operation carried out? -/
def evWanted (ops : Array Oper) (o : Oper) (t : Tr) (s : St) : Option (Bool × St) :=
  match o.guard with
  | none => some (true, s)
  | some (j, want) => match (ops[j]?).bind (·.dst) with
    | none => some (false, s)
    | some d => wantedV (t.get d) want s

def evStepV (P : Program) (call : CallFn) (ops : Array Oper) (o : Oper) (t : Tr) (s : St) : Option (Value × St) :=
  match evWanted ops o t s with
  | some (true, s) => evOpF P call o t s
  | some (false, s) => some (undef, s)
  | none => none

def evStep (P : Program) (call : CallFn) (ops : Array Oper) (o : Oper) (t : Tr) (s : St) : Option (Tr × St) :=
  match evStepV P call ops o t s with
  | some (v, s) => fsK s fun s => some (putT t o.dst v, s)
  | none => none

def evOps (P : Program) (call : CallFn) (ops : Array Oper) : List Oper → Tr → St → Option (Tr × St)
  | [], t, s => some (t, s)
  | o :: r, t, s => match evStep P call ops o t s with
    | some (t, s) => evOps P call ops r t s
    | none => none

/-! A region that draws its order: each operation is carried out over what those that must stand ahead of it have made, and over old memory to be read alone. -/
abbrev Ranges := List (Nat × Nat × Nat)
def ownerIn : Ranges → Nat → Option Nat
  | [], _ => none
  | (j, lo, hi) :: r, id => if lo ≤ id ∧ id < hi then some j else ownerIn r id
def roO (o : AObj) : AObj := { o with st := if o.st < 3 then 0 else 3 }
def deadO (o : AObj) : AObj := { o with st := 3 }
def maskO (rg : Ranges) (preds : Nat) (k : Nat) (o : AObj) : AObj :=
  match ownerIn rg k with
  | none => roO o
  | some j => if preds.testBit j then roO o else deadO o
def maskL (rg : Ranges) (preds : Nat) : Nat → List AObj → List AObj
  | _, [] => []
  | k, o :: r => maskO rg preds k o :: maskL rg preds (k + 1) r
def fixO (o : AObj) : AObj := if o.st = 0 then deadO o else o
def maskE (acc : Array Nat) : List Edge → Nat
  | [] => 0
  | e :: r => if Region.binds .any e then 2 ^ e.on ||| acc.getD e.on 0 ||| maskE acc r else maskE acc r
def befL : List Oper → Array Nat → Array Nat
  | [], acc => acc
  | o :: r, acc => befL r (acc.push (maskE acc o.after.toList))
def befs (ops : Array Oper) : Array Nat := befL ops.toList #[]

def stepD (P : Program) (call : CallFn) (ops : Array Oper) (b : Array Nat) (i : Nat) (x : Tr × St × Ranges) : Option (Tr × St × Ranges) :=
  match ops[i]? with
  | none => none
  | some o => match evStep P call ops o x.1 { x.2.1 with heap := ⟨maskL x.2.2 (b.getD i 0) 0 x.2.1.heap.toList⟩ } with
    | none => none
    | some (t1, s1) =>
      if s1.heap.size ≤ x.2.1.heap.size then some (t1, { s1 with heap := x.2.1.heap }, x.2.2)
      else some (t1, { s1 with heap := ⟨x.2.1.heap.toList ++ (s1.heap.toList.drop x.2.1.heap.size).map fixO⟩ }, (i, x.2.1.heap.size, s1.heap.size) :: x.2.2)
/-- From the z-th operation on, so many. -/
def runTo (P : Program) (call : CallFn) (ops : Array Oper) (b : Array Nat) (z : Nat) (x : Tr × St × Ranges) : Nat → Option (Tr × St × Ranges)
  | 0 => some x
  | i + 1 => match runTo P call ops b z x i with
    | some y => stepD P call ops b (z + i) y
    | none => none
/-- An operation that all others stand ahead of, or behind: it is carried out over memory as it is. -/
def stepB (P : Program) (call : CallFn) (ops : Array Oper) (i : Nat) (x : Tr × St × Ranges) : Option (Tr × St × Ranges) :=
  match ops[i]? with
  | none => none
  | some o => match evStep P call ops o x.1 x.2.1 with
    | none => none
    | some (t1, s1) => some (t1, s1, [])
def drawL (P : Program) (call : CallFn) (ops : Array Oper) (b : Array Nat) : List Bool → Nat → Tr × St × Ranges → Option (Tr × St × Ranges)
  | [], _, x => some x
  | true :: r, i, x => match stepB P call ops i x with
    | some y => drawL P call ops b r (i + 1) y
    | none => none
  | false :: r, i, x => match stepD P call ops b i x with
    | some y => drawL P call ops b r (i + 1) y
    | none => none
def barAt (b : Array Nat) (n i : Nat) : Bool :=
  (List.range n).all fun j => if j < i then (b.getD i 0).testBit j else if i < j then (b.getD j 0).testBit i else true
def bars (ops : Array Oper) : List Bool := (List.range ops.size).map (barAt (befs ops) ops.size)
/-- Moves that nothing stands ahead of, and that touch nothing but their own: they might as well be made first. -/
def isMove (o : Oper) : Bool :=
  (match o.op with
    | .move _ => true
    | .assign _ => true
    | _ => false) && o.guard.isNone && o.after.isEmpty
def floats (ops : Array Oper) : List Nat :=
  if Region.noSelect ops then (List.range ops.size).filter fun i => (match ops[i]? with
    | some o => isMove o
    | none => false) && Region.free .any ops (Array.replicate ops.size false) i
  else []
def frontO (fl : List Nat) (i : Nat) (o : Oper) : Oper :=
  if isMove o then o else { o with after := ⟨o.after.toList ++ (fl.filter fun f => f < i).map fun f => ⟨f, .data⟩⟩ }
def frontL (fl : List Nat) : Nat → List Oper → List Oper
  | _, [] => []
  | i, o :: r => frontO fl i o :: frontL fl (i + 1) r
def front (ops : Array Oper) : Array Oper := ⟨frontL (floats ops) 0 ops.toList⟩
def evDrawOld (P : Program) (call : CallFn) (ops : Array Oper) (t : Tr) (s : St) : Option (Tr × St) :=
  match drawL P call (front ops) (befs (front ops)) (bars (front ops)) 0 (t, s, []) with
  | some (t, s, _) => some (t, s)
  | none => none

/-- Which temporaries an operation looks at. -/
def looks (ops : Array Oper) (o : Oper) : List Tmp :=
  (o.op.operands.toList.filterMap fun | .tmp t => some t | _ => none) ++ (match o.guard with | some (j, _) => ((ops[j]?).bind (·.dst)).toList | none => [])
def okPair (ops : Array Oper) (b : Array Nat) (i j : Nat) : Bool :=
  match ops[i]?, ops[j]? with
  | some oi, some oj => match oj.dst with
    | none => true
    | some d => i == j || (b.getD i 0).testBit j || (b.getD j 0).testBit i || !((looks ops oi).contains d || oi.dst == some d)
  | _, _ => true
def okRegion (ops : Array Oper) : Bool :=
  let b := befs ops
  (List.range ops.size).all fun i => ((ops[i]?).map fun o => o.after.toList.all fun e => !Region.binds .any e || decide (e.on < i)).getD true && (List.range ops.size).all fun j => okPair ops b i j
/-! A region in one order: what turns nothing (but may look at one object) is made as soon as it may be; anything else when nothing else may be. -/
def isLenCall (c : Call) : Bool :=
  match c.callee with
  | .builtin .len => true
  | _ => false
/-- Bytes as a string. -/
def isReadConv (P : Program) (src dst : TypeId) : Bool :=
  match P.underlying src, P.underlying dst with
  | some (.slice _), some .string => true
  | _, _ => false
def isIntConv (P : Program) (src dst : TypeId) : Bool :=
  match P.underlying src, P.underlying dst with
  | some (.int _), some (.int _) => true
  | _, _ => false
def isEarly (P : Program) (o : Oper) : Bool :=
  match o.op with
  | .move _ => true
  | .assign _ => true
  | .load _ _ => true
  | .fieldAddr _ _ _ => true
  | .indexAddr _ _ _ => true
  | .binOp _ _ _ _ _ => true
  | .unOp _ _ _ => true
  | .pick _ _ _ => true
  | .extract _ _ => true
  | .nilCheck _ => true
  | .field _ _ _ => true
  | .convert src dst _ => isReadConv P src dst || isIntConv P src dst
  | .call c => isLenCall c
  | _ => false
/-- Does j wait for i? -/
def waits (b : Array Nat) (j i : Nat) : Bool := (b.getD j 0).testBit i
def apartAt (ops : Array Oper) (o : Oper) (j : Nat) : Bool :=
  match ops[j]? with
  | some oj => o.apart ops oj
  | none => true
def mayEarly (P : Program) (ops : Array Oper) (b : Array Nat) (i : Nat) (rest : List Nat) : Bool :=
  match ops[i]? with
  | some o => isEarly P o && rest.all fun j => Nat.beq j i || (!waits b i j && (waits b j i || apartAt ops o j))
  | none => false
def mayLate (P : Program) (ops : Array Oper) (b : Array Nat) (i : Nat) (rest : List Nat) : Bool :=
  match ops[i]? with
  | some o => !isEarly P o && rest.all fun j => waits b j i
  | none => false
def nextE (P : Program) (ops : Array Oper) (b : Array Nat) (all : List Nat) : List Nat → Option Nat
  | [] => none
  | i :: r => bif mayEarly P ops b i all then some i else nextE P ops b all r
def planGo (P : Program) (ops : Array Oper) (b : Array Nat) : Nat → List Nat → List Nat
  | 0, _ => []
  | _ + 1, [] => []
  | n + 1, i :: r => match nextE P ops b (i :: r) (i :: r) with
    | some k => k :: planGo P ops b n ((i :: r).filter fun j => !Nat.beq j k)
    | none => i :: planGo P ops b n r
def okPlan (P : Program) (ops : Array Oper) (b : Array Nat) : List Nat → Bool
  | [] => true
  | i :: r => (mayEarly P ops b i r || mayLate P ops b i r) && (r.all fun j => !Nat.beq j i) && okPlan P ops b r
def planOf (P : Program) (ops : Array Oper) : Option (List Nat) :=
  let b := befs ops
  let pl := planGo P ops b ops.size (List.range ops.size)
  bif okPlan P ops b pl && okRegion ops && Region.noSelect ops && ((List.range ops.size).all fun k => pl.any fun j => Nat.beq j k) && (pl.all fun j => Nat.blt j ops.size) && Nat.beq pl.length ops.size then some pl else none
/-- The objects that were looked at, and how often each had been written. -/
abbrev Watch := List (Nat × Nat × Nat)
def blkOf : Option Value → Option Nat
  | some (.pointer (some a)) => some a.block
  | some (.slice (some a) _ _) => some a.block
  | _ => none
def watchB (s : St) (i : Nat) (b : Nat) (wt : Watch) : Watch :=
  match getQ s.heap b with
  | some ob => (i, b, ob.ver) :: wt
  | none => wt
def watchV (s : St) (i : Nat) (v : Option Value) (wt : Watch) : Watch :=
  match blkOf v with
  | some b => watchB s i b wt
  | none => wt
def watchOf (P : Program) (t : Tr) (s : St) (i : Nat) (o : Oper) (wt : Watch) : Watch :=
  match o.op with
  | .load _ x => watchV s i (opnd P t x) wt
  | .convert _ _ x => watchV s i (opnd P t x) wt
  | _ => wt
def keepW (h : Array AObj) (b : Array Nat) (i : Nat) : Watch → Option Watch
  | [] => some []
  | (e, id, ver) :: r => match waits b i e with
    | true => keepW h b i r
    | false => match h[id]? with
      | some o => match Nat.blt o.st 3 && Nat.beq o.ver ver, keepW h b i r with
        | true, some r => some ((e, id, ver) :: r)
        | _, _ => none
      | none => none
def runPlan (P : Program) (call : CallFn) (ops : Array Oper) (b : Array Nat) : List Nat → Tr → St → Watch → Option (Tr × St)
  | [], t, s, _ => some (t, s)
  | i :: r, t, s, wt => match getQ ops i with
    | none => none
    | some o => match evStepV P call ops o t s with
      | none => none
      | some (v, s1) => fsK s1 fun s1 => match isEarly P o with
        | true => runPlan P call ops b r (putT t o.dst v) s1 (watchOf P t s i o wt)
        | false => match keepW s1.heap b i wt with
          | some wt => runPlan P call ops b r (putT t o.dst v) s1 wt
          | none => none
/-! A TREE OF ORDERS: where several late operations may be next, each is tried, and all must come to the same, but for the numbers of new objects. -/
/-- Which operation made which objects: its number, the first, behind the last. -/
abbrev MadeBy := List (Nat × Nat × Nat)
def readyIn (b : Array Nat) (rest : List Nat) : List Nat := rest.filter fun i => rest.all fun j => !waits b i j
def traceOf (i : Nat) : MadeBy → Option Nat
  | [] => none
  | (j, lo, _) :: r => bif Nat.beq j i then some lo else traceOf i r
/-- The number in the other order. -/
def inOrder (tr : MadeBy) (x : Nat) : MadeBy → Nat
  | [] => x
  | (i, lo, hi) :: r => bif Nat.ble lo x && Nat.blt x hi then (match traceOf i tr with
    | some lo' => lo' + (x - lo)
    | none => x) else inOrder tr x r
def sigF (base : Nat) (sg : List Nat) (x : Nat) : Nat := bif Nat.blt x base then x else (sg[x - base]?).getD x
def sameN : Nat → (Nat → Nat) → Nat → Value → Value → Bool
  | 0, _, _, _, _ => false
  | k + 1, σ, n, u, v => match u, v with
    | .int a x, .int b y => decide (a = b) && decide (x = y)
    | .bool a, .bool b => a == b
    | .float a x, .float b y => decide (a = b) && Nat.beq x y
    | .string a, .string b => eqL a.data.toList b.data.toList
    | .pointer none, .pointer none => true
    | .pointer (some ⟨b', o', none⟩), .pointer (some ⟨b, o, none⟩) => Nat.blt b' n && Nat.beq (σ b') b && Nat.beq o' o
    | .slice none l' c', .slice none l c => Nat.beq l' l && Nat.beq c' c
    | .slice (some ⟨b', o', none⟩) l' c', .slice (some ⟨b, o, none⟩) l c => Nat.blt b' n && Nat.beq (σ b') b && Nat.beq o' o && Nat.beq l' l && Nat.beq c' c
    | .nilFunc, .nilFunc => true
    | .nilIface, .nilIface => true
    | .tuple a, .tuple b => Nat.beq a.toList.length b.toList.length && (a.toList.zip b.toList).all fun p => sameN k σ n p.1 p.2
    | .agg a, .agg b => Nat.beq a.toList.length b.toList.length && (a.toList.zip b.toList).all fun p => sameN k σ n p.1 p.2
    | .func (.yield _) _ _, .func (.yield _) _ _ => true
    | _, _ => false
def sameT (σ : Nat → Nat) (n : Nat) : Tr → Tr → Bool
  | .leaf, .leaf => true
  | .node l v r, .node l' v' r' => sameN 4 σ n v v' && sameT σ n l l' && sameT σ n r r'
  | _, _ => false
def sameCells (σ : Nat → Nat) (n : Nat) : List Value → List Value → Bool
  | [], [] => true
  | u :: r, v :: q => sameN 1 σ n u v && sameCells σ n r q
  | _, _ => false
def sameNs : List Nat → List Nat → Bool
  | [], [] => true
  | a :: r, b :: q => Nat.beq a b && sameNs r q
  | _, _ => false
def sameObj (σ : Nat → Nat) (n : Nat) (o' o : AObj) : Bool :=
  Nat.beq o'.st o.st && Nat.beq o'.ver o.ver && (bif Nat.blt o'.st 3 then Nat.beq o'.esz o.esz && sameNs (o'.prev.map σ) o.prev && sameCells σ n o'.cells.toList o.cells.toList else true)
def sameHeap (σ : Nat → Nat) (n : Nat) (H : Array AObj) : Nat → List AObj → Bool
  | _, [] => true
  | i, o' :: r => (match getQ H (σ i) with
    | some o => sameObj σ n o' o
    | none => false) && sameHeap σ n H (i + 1) r
/-- The same to the letter. -/
def sameE : Value → Value → Bool
  | .int a x, .int b y => decide (a = b) && decide (x = y)
  | .bool a, .bool b => a == b
  | .float a x, .float b y => decide (a = b) && Nat.beq x y
  | .string a, .string b => eqL a.data.toList b.data.toList
  | .pointer none, .pointer none => true
  | .pointer (some ⟨b', o', none⟩), .pointer (some ⟨b, o, none⟩) => Nat.beq b' b && Nat.beq o' o
  | .slice none l' c', .slice none l c => Nat.beq l' l && Nat.beq c' c
  | .slice (some ⟨b', o', none⟩) l' c', .slice (some ⟨b, o, none⟩) l c => Nat.beq b' b && Nat.beq o' o && Nat.beq l' l && Nat.beq c' c
  | .nilFunc, .nilFunc => true
  | .nilIface, .nilIface => true
  | .func (.yield i) ⟨[]⟩ ⟨[]⟩, .func (.yield j) ⟨[]⟩ ⟨[]⟩ => Nat.beq i j
  | _, _ => false
def sameEs : List Value → List Value → Bool
  | [], [] => true
  | u :: r, v :: q => sameE u v && sameEs r q
  | _, _ => false
/-- Old objects are the same to the letter. -/
def sameOld : Nat → List AObj → List AObj → Bool
  | 0, _, _ => true
  | _ + 1, [], _ => true
  | n + 1, o' :: r, o :: q => sameEs o'.cells.toList o.cells.toList && sameOld n r q
  | _ + 1, _ :: _, [] => false
def freshN : List Nat → Bool
  | [] => true
  | x :: r => (r.all fun y => !Nat.beq y x) && freshN r
def sameRes (base k : Nat) (y z : Tr × St × MadeBy) : Bool :=
  let n := lenQ y.2.1.heap
  let sg := (List.range' base (n - base)).map fun x => inOrder z.2.2 x y.2.2
  let σ := sigF base sg
  Nat.beq n (lenQ z.2.1.heap) && Nat.ble base n && Nat.beq y.2.1.low z.2.1.low && Nat.beq z.2.1.cons.length k && (sg.all fun x => Nat.ble base x && Nat.blt x n) && freshN sg && sameOld base y.2.1.heap.toList z.2.1.heap.toList && sameHeap σ n z.2.1.heap 0 y.2.1.heap.toList && sameT σ n y.1 z.1
def agree (base k : Nat) : List (Option (Tr × St × MadeBy)) → Option (Tr × St × MadeBy)
  | [] => none
  | none :: _ => none
  | some y :: r => bif r.all (fun z => match z with
    | some z => sameRes base k y z
    | none => false) then some y else none
def runTree (P : Program) (call : CallFn) (ops : Array Oper) (b : Array Nat) : Nat → List Nat → Tr → St → Watch → Option (Tr × St × MadeBy)
  | _, [], t, s, _ => some (t, s, [])
  | 0, _ :: _, _, _, _ => none
  | n + 1, i0 :: r0, t, s, wt => match nextE P ops b (i0 :: r0) (i0 :: r0) with
    | some i => match getQ ops i with
      | none => none
      | some o => match evStepV P call ops o t s with
        | none => none
        | some (v, s1) => fsK s1 fun s1 => runTree P call ops b n ((i0 :: r0).filter fun j => !Nat.beq j i) (putT t o.dst v) s1 (watchOf P t s i o wt)
    | none => agree (lenQ s.heap) s.cons.length ((readyIn b (i0 :: r0)).map fun i => match getQ ops i with
      | none => none
      | some o => match isEarly P o with
        | true => none
        | false => match evStepV P call ops o t s with
          | none => none
          | some (v, s1) => fsK s1 fun s1 => match keepW s1.heap b i wt with
            | none => none
            | some wt => match runTree P call ops b n ((i0 :: r0).filter fun j => !Nat.beq j i) (putT t o.dst v) s1 wt with
              | some (t', s', tr) => some (t', s', (i, lenQ s.heap, lenQ s1.heap) :: tr)
              | none => none)
def evTree (P : Program) (call : CallFn) (ops : Array Oper) (t : Tr) (s : St) : Option (Tr × St) :=
  bif okRegion ops && Region.noSelect ops then (match runTree P call ops (befs ops) ops.size (List.range ops.size) t s [] with
    | some (t', s', _) => some (t', s')
    | none => none) else none
def evDraw (P : Program) (call : CallFn) (ops : Array Oper) (t : Tr) (s : St) : Option (Tr × St) :=
  match planOf P ops with
  | some pl => runPlan P call ops (befs ops) pl t s []
  | none => match evDrawOld P call ops t s with
    | some x => some x
    | none => evTree P call ops t s
def okCode : Code → Bool
  | .region _ ops draw => !draw || okRegion (front ops)
  | .seq a b => okCode a && okCode b
  | .cond _ a b => okCode a && okCode b
  | .block _ a => okCode a
  | .loop a => okCode a
  | .scope a => okCode a
  | .rangeFunc _ _ a b => okCode a && okCode b
  | _ => true

inductive AExit where
  | normal
  | exit (id : Nat)
  | ret
def AExit.toExit : AExit → Exit
  | .normal => .normal
  | .exit id => .exit id
  | .ret => .ret

/-- What is known of functions, and of blocks, beforehand. -/
structure Env where
  call : FuncId → Option (Array Value → St → Option (Value × St))
  blk : FuncId → Nat → Option (Code × (Tr → St → Option (AExit × Tr × St)))

def evCond (P : Program) (c : Operand) (t : Tr) (s : St) : Option (Bool × St) :=
  match opnd P t c with
  | some (.bool b) => test s b
  | _ => none

abbrev CodeFn := Code → Tr → St → Option (AExit × Tr × St)
def evRegion (P : Program) (call : CallFn) (ops : Array Oper) (draw : Bool) (t : Tr) (s : St) : Option (AExit × Tr × St) :=
  match (if draw then evDraw P call ops t s else evOps P call ops ops.toList t s) with
  | some (t, s) => some (.normal, t, s)
  | none => none
def evThen (r : Option (AExit × Tr × St)) (k : Tr → St → Option (AExit × Tr × St)) : Option (AExit × Tr × St) :=
  match r with
  | some (.normal, t, s) => k t s
  | some (.exit id, t, s) => some (.exit id, t, s)
  | some (.ret, t, s) => some (.ret, t, s)
  | none => none
def evIf (go : CodeFn) (c : Option (Bool × St)) (a b : Code) (t : Tr) : Option (AExit × Tr × St) :=
  match c with
  | some (true, s) => go a t s
  | some (false, s) => go b t s
  | none => none
def evLeave (id : Nat) (r : Option (AExit × Tr × St)) : Option (AExit × Tr × St) :=
  match r with
  | some (.exit id', t, s) => if id' = id then some (.normal, t, s) else some (.exit id', t, s)
  | some (.normal, t, s) => some (.normal, t, s)
  | some (.ret, t, s) => some (.ret, t, s)
  | none => none
def evKnown (a a' : Code) (r : Option (AExit × Tr × St)) : Option (AExit × Tr × St) :=
  match r with
  | some (e, t, s) => some (e, t, { s with cons := (a = a') :: s.cons })
  | none => none
def evBlock (E : Env) (go : CodeFn) (f : FuncId) (id : Nat) (a : Code) (t : Tr) (s : St) : Option (AExit × Tr × St) :=
  match E.blk f id with
  | some (a', σ) => evKnown a a' (σ t s)
  | none => evLeave id (go a t s)

def evCode (P : Program) (E : Env) (call : CallFn) (f : FuncId) : Nat → CodeFn
  | 0, _, _, _ => none
  | n + 1, c, t, s =>
    match c with
    | .skip => some (.normal, t, s)
    | .label _ => some (.normal, t, s)
    | .exit id => some (.exit id, t, s)
    | .ret => some (.ret, t, s)
    | .region _ ops draw => evRegion P call ops draw t s
    | .seq a b => evThen (evCode P E call f n a t s) (evCode P E call f n b)
    | .cond c a b => evIf (evCode P E call f n) (evCond P c t s) a b t
    | .block id a => evBlock E (evCode P E call f n) f id a t s
    | .scope a => evCode P E call f n a t s
    | .loop a => evThen (evCode P E call f n a t s) (evCode P E call f n (.loop a))
    | _ => none

abbrev CHnd := Program → Env → CallFn → FuncId → CodeFn → Tr → St → Option (AExit × Tr × St)
def codeH (c : Code) : CHnd := Code.rec (motive := fun _ => CHnd)
  (fun _ _ _ _ _ t s => some (.normal, t, s))
  (fun _ ops draw P _ call _ _ t s => evRegion P call ops draw t s)
  (fun a b _ _ _ _ _ _ go t s => evThen (go a t s) (go b))
  (fun c a b _ _ P _ _ _ go t s => evIf go (evCond P c t s) a b t)
  (fun id a _ _ E _ f go t s => evBlock E go f id a t s)
  (fun a _ _ _ _ _ go t s => evThen (go a t s) (go (.loop a)))
  (fun _ _ _ _ _ _ _ _ _ _ _ _ _ => none)
  (fun id _ _ _ _ _ t s => some (.exit id, t, s))
  (fun a _ _ _ _ _ go t s => go a t s)
  (fun _ _ _ _ _ _ t s => some (.normal, t, s))
  (fun _ _ _ _ _ _ _ _ => none)
  (fun _ _ _ _ _ t s => some (.ret, t, s))
  (fun _ _ _ _ _ _ _ _ => none)
  c
def evCodeF (P : Program) (E : Env) (call : CallFn) (f : FuncId) (n : Nat) : CodeFn :=
  Nat.rec (motive := fun _ => CodeFn) (fun _ _ _ => none) (fun _ go c t s => codeH c P E call f go t s) n
theorem evCodeF_eq (P : Program) (E : Env) (call : CallFn) (f : FuncId) (n : Nat) : evCodeF P E call f n = evCode P E call f n := by
  induction n with
  | zero => funext c t s; rfl
  | succ n ih =>
    funext c t s
    have h1 : evCodeF P E call f (n + 1) c t s = codeH c P E call f (evCodeF P E call f n) t s := rfl
    rw [h1, ih]
    cases c <;> rfl

def evResult (P : Program) (t : Tr) (s : St) : ResultVar → Option (Value × St)
  | .tmp i => match asSome (t.get i) with
    | some v => some (v, s)
    | none => none
  | .cell i ty => match asSome (t.get i) with
    | some v => evLoad P ty v s
    | none => none
def evResults (P : Program) (t : Tr) : List ResultVar → St → Option (List Value × St)
  | [], s => some ([], s)
  | r :: rs, s => match evResult P t s r with
    | some (v, s) => match evResults P t rs s with
      | some (vs, s) => some (v :: vs, s)
      | none => none
    | none => none

/-- Behind a call whose result has no address in it, and that laid none of its own into old memory, what it made is nobody's. -/
def finish (s0 : St) (v : Value) (s : St) : Value × St :=
  if flat v && decide (lenQ s0.heap ≤ s.low) then (v, { s with heap := ⟨s.heap.toList.take (lenQ s0.heap)⟩, low := s0.low })
  else (v, { s with low := min s0.low s.low })

def evReturn (P : Program) (fn : Func) (s0 : St) (t : Tr) (s1 : St) : Option (Value × St) :=
  match evResults P t fn.results.toList s1 with
  | some ([v], s2) => some (finish s0 v s2)
  | some (vs, s2) => some (finish s0 (.tuple vs.toArray) s2)
  | none => none
def evLeft (P : Program) (fn : Func) (s0 : St) (r : Option (AExit × Tr × St)) : Option (Value × St) :=
  match r with
  | some (.normal, t, s1) => evReturn P fn s0 t s1
  | some (.ret, t, s1) => evReturn P fn s0 t s1
  | _ => none
def argAt : List Value → Nat → Value
  | [], _ => undef
  | v :: _, 0 => v
  | _ :: r, i + 1 => argAt r i
def evBody (P : Program) (go : Code → Tr → St → Option (AExit × Tr × St)) (fn : Func) (args : Array Value) (s : St) : Option (Value × St) :=
  match fn.body with
  | none => none
  | some c => if fn.ntmps ≤ 8190 ∧ args.size ≤ fn.ntmps then evLeft P fn s (go c (Tr.mk fn.ntmps (argAt args.toList) 13 1 0) { s with low := s.heap.size }) else none

def evCall (P : Program) (E : Env) : Nat → CallFn
  | 0, _, _, _ => none
  | n + 1, f, args, s =>
    match E.call f with
    | some σ => σ args s
    | none =>
      match getQ P.funcs f with
      | none => none
      | some fn => evBody P (evCodeF P E (evCall P E n) f n) fn args s

end
end Go.Ev
