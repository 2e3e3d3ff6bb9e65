/- A FASTER RUN OF CLOSED CODE: the code is compiled once (types, places and orders are looked up then), and run over a tree of objects, each step by a table of closed handlers. Nothing here is trusted: EvQ2 proves that what it answers is what 'evCode' answers. Its definitions. -/
import Derived.Test.YtmnnnickodfibaaEvO
namespace Go.Ev
open Go.RowKit
noncomputable section

/-- A way down a tree. -/
inductive Pth where
  | here
  | l (p : Pth)
  | r (p : Pth)
def pthF : Nat → Nat → Pth
  | 0, _ => .here
  | d + 1, i => match i with
    | 0 => .here
    | i + 1 => bif Nat.beq (i % 2) 0 then .l (pthF d (i / 2)) else .r (pthF d (i / 2))
def pth (i : Nat) : Pth := pthF i i
def unpth : Pth → Nat
  | .here => 0
  | .l p => 2 * unpth p + 1
  | .r p => 2 * unpth p + 2
theorem unpth_pthF : ∀ (d i : Nat), i ≤ d → unpth (pthF d i) = i
  | 0, i, h => by simp [pthF, unpth]; omega
  | d + 1, 0, _ => rfl
  | d + 1, i + 1, h => by
    simp only [pthF]
    cases hb : Nat.beq (i % 2) 0 with
    | true =>
      have := Nat.eq_of_beq_eq_true hb
      simp only [cond, unpth]
      rw [unpth_pthF d (i / 2) (by omega)]; omega
    | false =>
      have : i % 2 ≠ 0 := Nat.ne_of_beq_eq_false hb
      simp only [cond, unpth]
      rw [unpth_pthF d (i / 2) (by omega)]; omega
theorem unpth_pth (i : Nat) : unpth (pth i) = i := unpth_pthF i i (Nat.le_refl i)
theorem pth_inj {i j : Nat} (h : pth i = pth j) : i = j := by rw [← unpth_pth i, h, unpth_pth]

/-- Objects, by their numbers. -/
inductive HT where
  | leaf
  | node (l : HT) (o : AObj) (r : HT)
inductive FR where
  | bad
  | ok (e : AExit) (t : Tr) (h : HT) (n low : Nat)

def htG (p : Pth) : HT → AObj := Pth.rec (motive := fun _ => HT → AObj)
  (fun h => HT.rec (motive := fun _ => AObj) objDead (fun _ o _ _ _ => o) h)
  (fun _ ih h => HT.rec (motive := fun _ => AObj) objDead (fun l _ _ _ _ => ih l) h)
  (fun _ ih h => HT.rec (motive := fun _ => AObj) objDead (fun _ _ r _ _ => ih r) h) p
def htP (p : Pth) : HT → AObj → (HT → FR) → FR := Pth.rec (motive := fun _ => HT → AObj → (HT → FR) → FR)
  (fun h o k => HT.rec (motive := fun _ => FR) (k (.node .leaf o .leaf)) (fun l _ r _ _ => k (.node l o r)) h)
  (fun _ ih h o k => HT.rec (motive := fun _ => FR) (ih .leaf o fun l => k (.node l objDead .leaf)) (fun l v r _ _ => ih l o fun l => k (.node l v r)) h)
  (fun _ ih h o k => HT.rec (motive := fun _ => FR) (ih .leaf o fun r => k (.node .leaf objDead r)) (fun l v r _ _ => ih r o fun r => k (.node l v r)) h) p
def trG (p : Pth) : Tr → Value := Pth.rec (motive := fun _ => Tr → Value)
  (fun t => Tr.rec (motive := fun _ => Value) gone (fun _ v _ _ _ => v) t)
  (fun _ ih t => Tr.rec (motive := fun _ => Value) gone (fun l _ _ _ _ => ih l) t)
  (fun _ ih t => Tr.rec (motive := fun _ => Value) gone (fun _ _ r _ _ => ih r) t) p
def trP (p : Pth) : Tr → Value → (Tr → FR) → FR := Pth.rec (motive := fun _ => Tr → Value → (Tr → FR) → FR)
  (fun t u k => Tr.rec (motive := fun _ => FR) (k .leaf) (fun l _ r _ _ => k (.node l u r)) t)
  (fun _ ih t u k => Tr.rec (motive := fun _ => FR) (k .leaf) (fun l v r _ _ => ih l u fun l => k (.node l v r)) t)
  (fun _ ih t u k => Tr.rec (motive := fun _ => FR) (k .leaf) (fun l v r _ _ => ih r u fun r => k (.node l v r)) t) p

/-- The number as it stands. -/
def litK (m : Nat) (k : Nat → FR) : FR := Nat.rec (motive := fun _ => FR) .bad (fun x _ => k x) (Nat.succ m)
def intLK (z : Int) (k : Int → FR) : FR := Int.rec (motive := fun _ => (Int → FR) → FR) (fun m k => litK m fun m => k (.ofNat m)) (fun m k => litK m fun m => k (.negSucc m)) z k

/-- What stands in 'v' whole: an integer, a pointer into an object, a slice of one, a truth. -/
abbrev VTab (α : Type) := Value → α
def intVK (v : Value) (k : IntKind → Int → FR) (d : FR) : FR :=
  Value.rec (motive_1 := fun _ => (IntKind → Int → FR) → FR → FR) (motive_2 := fun _ => PUnit) (motive_3 := fun _ => PUnit)
    (fun _ _ d => d) (fun kd n k _ => k kd n) (fun _ _ _ d => d) (fun _ _ _ _ d => d) (fun _ _ d => d) (fun _ _ d => d) (fun _ _ _ _ d => d) (fun _ _ d => d) (fun _ _ d => d)
    (fun _ _ _ _ _ _ d => d) (fun _ d => d) (fun _ _ _ _ d => d) (fun _ d => d) (fun _ _ _ d => d) (fun _ _ _ d => d) (fun _ _ => ⟨⟩) ⟨⟩ (fun _ _ _ _ => ⟨⟩) v k d
def boolVK (v : Value) (a b : FR) : FR :=
  Value.rec (motive_1 := fun _ => FR → FR → FR) (motive_2 := fun _ => PUnit) (motive_3 := fun _ => PUnit)
    (fun c a b => Bool.rec (motive := fun _ => FR) b a c) (fun _ _ _ _ => .bad) (fun _ _ _ _ => .bad) (fun _ _ _ _ _ => .bad) (fun _ _ _ => .bad) (fun _ _ _ => .bad) (fun _ _ _ _ _ => .bad) (fun _ _ _ => .bad) (fun _ _ _ => .bad)
    (fun _ _ _ _ _ _ _ => .bad) (fun _ _ => .bad) (fun _ _ _ _ _ => .bad) (fun _ _ => .bad) (fun _ _ _ _ => .bad) (fun _ _ _ _ => .bad) (fun _ _ => ⟨⟩) ⟨⟩ (fun _ _ _ _ => ⟨⟩) v a b
def addrK (a : Option Addr) (k : Nat → Nat → FR) (d : FR) : FR :=
  Option.rec (motive := fun _ => (Nat → Nat → FR) → FR → FR) (fun _ d => d) (fun a k d => Addr.rec (motive := fun _ => (Nat → Nat → FR) → FR → FR) (fun b off spot k d => Option.rec (motive := fun _ => (Nat → Nat → FR) → Nat → Nat → FR → FR) (fun k b off _ => k b off) (fun _ _ _ _ d => d) spot k b off d) a k d) a k d
def ptrVK (v : Value) (k : Nat → Nat → FR) (d : FR) : FR :=
  Value.rec (motive_1 := fun _ => (Nat → Nat → FR) → FR → FR) (motive_2 := fun _ => PUnit) (motive_3 := fun _ => PUnit)
    (fun _ _ d => d) (fun _ _ _ d => d) (fun _ _ _ d => d) (fun _ _ _ _ d => d) (fun _ _ d => d) (fun a k d => addrK a k d) (fun _ _ _ _ d => d) (fun _ _ d => d) (fun _ _ d => d)
    (fun _ _ _ _ _ _ d => d) (fun _ d => d) (fun _ _ _ _ d => d) (fun _ d => d) (fun _ _ _ d => d) (fun _ _ _ d => d) (fun _ _ => ⟨⟩) ⟨⟩ (fun _ _ _ _ => ⟨⟩) v k d
/-- A slice: of an object; or of none (then how long, and its room). -/
def sliceVK (v : Value) (k : Nat → Nat → Nat → Nat → FR) (z : Nat → Nat → FR) (d : FR) : FR :=
  Value.rec (motive_1 := fun _ => (Nat → Nat → Nat → Nat → FR) → (Nat → Nat → FR) → FR → FR) (motive_2 := fun _ => PUnit) (motive_3 := fun _ => PUnit)
    (fun _ _ _ d => d) (fun _ _ _ _ d => d) (fun _ _ _ _ d => d) (fun _ _ _ _ _ d => d) (fun _ _ _ d => d) (fun _ _ _ d => d)
    (fun a len cap k z d => Option.rec (motive := fun _ => (Nat → Nat → Nat → Nat → FR) → (Nat → Nat → FR) → FR → Nat → Nat → FR) (fun _ z _ len cap => z len cap)
      (fun a k _ d len cap => Addr.rec (motive := fun _ => (Nat → Nat → Nat → Nat → FR) → FR → Nat → Nat → FR) (fun b off spot k d len cap => Option.rec (motive := fun _ => (Nat → Nat → Nat → Nat → FR) → Nat → Nat → FR → Nat → Nat → FR) (fun k b off _ len cap => k b off len cap) (fun _ _ _ _ d _ _ => d) spot k b off d len cap) a k d len cap) a k z d len cap)
    (fun _ _ _ d => d) (fun _ _ _ d => d) (fun _ _ _ _ _ _ _ d => d) (fun _ _ d => d) (fun _ _ _ _ _ d => d) (fun _ _ d => d) (fun _ _ _ _ d => d) (fun _ _ _ _ d => d) (fun _ _ => ⟨⟩) ⟨⟩ (fun _ _ _ _ => ⟨⟩) v k z d
/-- The cells of a struct's value, the values of a tuple. -/
def aggVK (v : Value) (k : List Value → FR) (d : FR) : FR :=
  Value.rec (motive_1 := fun _ => (List Value → FR) → FR → FR) (motive_2 := fun _ => PUnit) (motive_3 := fun _ => PUnit)
    (fun _ _ d => d) (fun _ _ _ d => d) (fun _ _ _ d => d) (fun _ _ _ _ d => d) (fun _ _ d => d) (fun _ _ d => d) (fun _ _ _ _ d => d) (fun _ _ d => d) (fun _ _ d => d)
    (fun _ _ _ _ _ _ d => d) (fun _ d => d) (fun _ _ _ _ d => d) (fun _ d => d) (fun cs _ k _ => Array.rec (motive := fun _ => (List Value → FR) → FR) (fun l k => k l) cs k) (fun _ _ _ d => d) (fun _ _ => ⟨⟩) ⟨⟩ (fun _ _ _ _ => ⟨⟩) v k d
def tupVK (v : Value) (k : List Value → FR) (d : FR) : FR :=
  Value.rec (motive_1 := fun _ => (List Value → FR) → FR → FR) (motive_2 := fun _ => PUnit) (motive_3 := fun _ => PUnit)
    (fun _ _ d => d) (fun _ _ _ d => d) (fun _ _ _ d => d) (fun _ _ _ _ d => d) (fun _ _ d => d) (fun _ _ d => d) (fun _ _ _ _ d => d) (fun _ _ d => d) (fun _ _ d => d)
    (fun _ _ _ _ _ _ d => d) (fun _ d => d) (fun _ _ _ _ d => d) (fun _ d => d) (fun _ _ _ d => d) (fun cs _ k _ => Array.rec (motive := fun _ => (List Value → FR) → FR) (fun l k => k l) cs k) (fun _ _ => ⟨⟩) ⟨⟩ (fun _ _ _ _ => ⟨⟩) v k d
def fnVK (v : Value) (k : FuncId → List Value → List Value → FR) (d : FR) : FR :=
  Value.rec (motive_1 := fun _ => (FuncId → List Value → List Value → FR) → FR → FR) (motive_2 := fun _ => PUnit) (motive_3 := fun _ => PUnit)
    (fun _ _ d => d) (fun _ _ _ d => d) (fun _ _ _ d => d) (fun _ _ _ _ d => d) (fun _ _ d => d) (fun _ _ d => d) (fun _ _ _ _ d => d) (fun _ _ d => d) (fun _ _ d => d)
    (fun fn a c _ _ k d => Fn.rec (motive := fun _ => FR) (fun f => k f a.toList c.toList) (fun _ => d) (fun _ _ => d) (fun _ _ _ _ => d) (fun _ => d) fn) (fun _ d => d) (fun _ _ _ _ d => d) (fun _ d => d) (fun _ _ _ d => d) (fun _ _ _ d => d) (fun _ _ => ⟨⟩) ⟨⟩ (fun _ _ _ _ => ⟨⟩) v k d
/-- The value, as it stands; nothing for one of which nothing is known. -/
def valK (v : Value) (k : Value → FR) : FR :=
  Value.rec (motive_1 := fun _ => (Value → FR) → FR) (motive_2 := fun _ => PUnit) (motive_3 := fun _ => PUnit)
    (fun b k => Bool.rec (motive := fun _ => FR) (k (.bool false)) (k (.bool true)) b) (fun kd n k => k (.int kd n)) (fun kd n k => k (.float kd n)) (fun kd n m k => k (.complex kd n m)) (fun s k => k (.string s)) (fun a k => k (.pointer a)) (fun a l c k => k (.slice a l c)) (fun r k => k (.map r)) (fun r k => k (.chan r))
    (fun fn a c _ _ k => Fn.rec (motive := fun _ => FR) (fun f => k (.func (.func f) a c)) (fun s => k (.func (.method s) a c)) (fun t s => k (.func (.methodOf t s) a c)) (fun t p f q => k (.func (.via t p f q) a c)) (fun _ => .bad) fn) (fun k => k .nilFunc) (fun t v _ k => k (.iface t v)) (fun k => k .nilIface) (fun cs _ k => k (.agg cs)) (fun cs _ k => k (.tuple cs)) (fun _ _ => ⟨⟩) ⟨⟩ (fun _ _ _ _ => ⟨⟩) v k
/-- 'flat', reckoned fast. -/
def flatQ (v : Value) : Bool :=
  Value.rec (motive_1 := fun _ => Bool) (motive_2 := fun _ => Bool) (motive_3 := fun _ => Bool)
    (fun _ => true) (fun _ _ => true) (fun _ _ => true) (fun _ _ _ => true) (fun _ => true) (fun a => Option.rec (motive := fun _ => Bool) true (fun _ => false) a)
    (fun a l c => Option.rec (motive := fun _ => Bool) (Nat.beq l 0 && Nat.beq c 0) (fun _ => false) a)
    (fun r => Option.rec (motive := fun _ => Bool) true (fun _ => false) r) (fun _ => false)
    (fun _ _ _ _ _ => false) true (fun _ _ b => b) true (fun _ b => b) (fun _ b => b) (fun _ b => b) true (fun _ _ a b => Bool.rec (motive := fun _ => Bool) false b a) v
def scalarQ (v : Value) : Bool :=
  Value.rec (motive_1 := fun _ => Bool) (motive_2 := fun _ => PUnit) (motive_3 := fun _ => PUnit)
    (fun _ => true) (fun _ _ => true) (fun _ _ => true) (fun _ _ _ => true) (fun _ => true) (fun _ => true) (fun _ _ _ => true) (fun _ => true) (fun _ => true)
    (fun _ _ _ _ _ => true) true (fun _ _ _ => true) true (fun _ _ => false) (fun _ _ => false) (fun _ _ => ⟨⟩) ⟨⟩ (fun _ _ _ _ => ⟨⟩) v
def allQ (f : Value → Bool) (l : List Value) : Bool := List.rec (motive := fun _ => Bool) true (fun v _ ih => Bool.rec (motive := fun _ => Bool) false ih (f v)) l

/-! Lists. -/
def cellK (l : List Value) (i : Nat) (k : Value → FR) : FR :=
  List.rec (motive := fun _ => Nat → (Value → FR) → FR) (fun _ _ => .bad) (fun a _ ih i k => Nat.rec (motive := fun _ => FR) (k a) (fun j _ => ih j k) i) l i k
/-- What stands behind so many. -/
def dropK (l : List Value) (i : Nat) (k : List Value → FR) : FR :=
  List.rec (motive := fun _ => Nat → (List Value → FR) → FR) (fun i k => Nat.rec (motive := fun _ => FR) (k []) (fun _ _ => .bad) i) (fun a r ih i k => Nat.rec (motive := fun _ => FR) (k (a :: r)) (fun j _ => ih j k) i) l i k
/-- The first so many: there must be as many. -/
def takeK (l : List Value) (i : Nat) (k : List Value → FR) : FR :=
  List.rec (motive := fun _ => Nat → (List Value → FR) → FR) (fun i k => Nat.rec (motive := fun _ => FR) (k []) (fun _ _ => .bad) i) (fun a _ ih i k => Nat.rec (motive := fun _ => FR) (k []) (fun j _ => ih j fun r => k (a :: r)) i) l i k
/-- 'v' in the place of the i-th: there must be one. -/
def setK (l : List Value) (i : Nat) (v : Value) (k : List Value → FR) : FR :=
  List.rec (motive := fun _ => Nat → Value → (List Value → FR) → FR) (fun _ _ _ => .bad) (fun a r ih i v k => Nat.rec (motive := fun _ => FR) (k (v :: r)) (fun j _ => ih j v fun r => k (a :: r)) i) l i v k
/-- New ones in the places of the first. -/
def overK (vs : List Value) (l : List Value) (k : List Value → FR) : FR :=
  List.rec (motive := fun _ => List Value → (List Value → FR) → FR) (fun l k => k l) (fun v _ ih l k => List.rec (motive := fun _ => FR) .bad (fun _ r _ => ih r fun r => k (v :: r)) l) vs l k
/-- From the i-th place on. -/
def putsK (l : List Value) (i : Nat) (vs : List Value) (k : List Value → FR) : FR :=
  List.rec (motive := fun _ => Nat → List Value → (List Value → FR) → FR) (fun i vs k => Nat.rec (motive := fun _ => FR) (overK vs [] k) (fun _ _ => .bad) i) (fun a r ih i vs k => Nat.rec (motive := fun _ => FR) (overK vs (a :: r) k) (fun j _ => ih j vs fun r => k (a :: r)) i) l i vs k
def appK (l m : List Value) (k : List Value → FR) : FR :=
  List.rec (motive := fun _ => (List Value → FR) → FR) (fun k => k m) (fun a _ ih k => ih fun r => k (a :: r)) l k
def lenK (l : List Value) (k : Nat → FR) : FR :=
  List.rec (motive := fun _ => Nat → (Nat → FR) → FR) (fun n k => k n) (fun _ _ ih n k => litK (Nat.succ n) fun n => ih n k) l 0 k

/-! Numbers. -/
def maxQ (kd : IntKind) : Nat := IntKind.rec (motive := fun _ => Nat) 127 32767 2147483647 9223372036854775807 255 65535 4294967295 18446744073709551615 kd
def ikQ (kd : IntKind) : Nat := IntKind.rec (motive := fun _ => Nat) 0 1 2 3 4 5 6 7 kd
def bitsQ (kd : IntKind) : Nat := IntKind.rec (motive := fun _ => Nat) 8 16 32 64 8 16 32 64 kd
/-- A number no less than zero, in its kind. -/
def natIn (kd : IntKind) (m : Nat) (k : Value → FR) : FR :=
  Bool.rec (motive := fun _ => FR) (intLK (wrapF kd (.ofNat m)) fun z => k (.int kd z)) (litK m fun m => k (.int kd (.ofNat m))) (Nat.ble m (maxQ kd))
def intIn (kd : IntKind) (z : Int) (k : Value → FR) : FR := intLK (wrapF kd z) fun z => k (.int kd z)
def boolK (b : Bool) (k : Value → FR) : FR := Bool.rec (motive := fun _ => FR) (k (.bool false)) (k (.bool true)) b
/-- Two numbers of one kind: by whether each is below zero. -/
abbrev IOp := IntKind → Int → Int → (Value → FR) → FR → FR
def on2 (pp pn np nn : IntKind → Nat → Nat → (Value → FR) → FR → FR) : IOp := fun kd a b k d =>
  Int.rec (motive := fun _ => Int → IntKind → (Value → FR) → FR → FR)
    (fun x b kd k d => Int.rec (motive := fun _ => FR) (fun y => pp kd x y k d) (fun y => pn kd x y k d) b)
    (fun x b kd k d => Int.rec (motive := fun _ => FR) (fun y => np kd x y k d) (fun y => nn kd x y k d) b) a b kd k d
def oAdd : IOp := on2 (fun kd x y k _ => natIn kd (Nat.add x y) k) (fun kd x y k _ => intIn kd (.ofNat x + .negSucc y) k) (fun kd x y k _ => intIn kd (.negSucc x + .ofNat y) k) (fun kd x y k _ => intIn kd (.negSucc x + .negSucc y) k)
def oSub : IOp := on2 (fun kd x y k _ => Bool.rec (motive := fun _ => FR) (intIn kd (.ofNat x - .ofNat y) k) (natIn kd (Nat.sub x y) k) (Nat.ble y x)) (fun kd x y k _ => intIn kd (.ofNat x - .negSucc y) k) (fun kd x y k _ => intIn kd (.negSucc x - .ofNat y) k) (fun kd x y k _ => intIn kd (.negSucc x - .negSucc y) k)
def oMul : IOp := on2 (fun kd x y k _ => natIn kd (Nat.mul x y) k) (fun kd x y k _ => intIn kd (.ofNat x * .negSucc y) k) (fun kd x y k _ => intIn kd (.negSucc x * .ofNat y) k) (fun kd x y k _ => intIn kd (.negSucc x * .negSucc y) k)
def oEql : IOp := on2 (fun _ x y k _ => boolK (Nat.beq x y) k) (fun _ _ _ k _ => k (.bool false)) (fun _ _ _ k _ => k (.bool false)) (fun _ x y k _ => boolK (Nat.beq x y) k)
def oNeq : IOp := on2 (fun _ x y k _ => boolK (!Nat.beq x y) k) (fun _ _ _ k _ => k (.bool true)) (fun _ _ _ k _ => k (.bool true)) (fun _ x y k _ => boolK (!Nat.beq x y) k)
def oLss : IOp := on2 (fun _ x y k _ => boolK (Nat.ble (Nat.succ x) y) k) (fun _ _ _ k _ => k (.bool false)) (fun _ _ _ k _ => k (.bool true)) (fun _ x y k _ => boolK (Nat.ble (Nat.succ y) x) k)
def oLeq : IOp := on2 (fun _ x y k _ => boolK (Nat.ble x y) k) (fun _ _ _ k _ => k (.bool false)) (fun _ _ _ k _ => k (.bool true)) (fun _ x y k _ => boolK (Nat.ble y x) k)
def oGtr : IOp := fun kd a b k d => oLss kd b a k d
def oGeq : IOp := fun kd a b k d => oLeq kd b a k d
def fits2 (kd : IntKind) (x y : Nat) : Bool := Bool.rec (motive := fun _ => Bool) false (Nat.ble y (maxQ kd)) (Nat.ble x (maxQ kd))
def oBit (f : Nat → Nat → Nat) : IOp := on2 (fun kd x y k d => Bool.rec (motive := fun _ => FR) d (litK (f x y) fun m => k (.int kd (.ofNat m))) (fits2 kd x y)) (fun _ _ _ _ d => d) (fun _ _ _ _ d => d) (fun _ _ _ _ d => d)
def oAnd : IOp := oBit Nat.land
def oOr : IOp := oBit Nat.lor
def oXor : IOp := oBit Nat.xor
def oShl : IOp := on2 (fun kd x y k _ => litK (Nat.mul x (Nat.pow 2 (min y (bitsQ kd)))) fun m => natIn kd m k) (fun _ _ _ _ d => d) (fun _ _ _ _ d => d) (fun _ _ _ _ d => d)
def oShr : IOp := on2 (fun kd x y k _ => litK (Nat.div x (Nat.pow 2 (min y (bitsQ kd)))) fun m => k (.int kd (.ofNat m))) (fun _ _ _ _ d => d) (fun _ _ _ _ d => d) (fun _ _ _ _ d => d)
def isShift (op : BinOp) : Bool := match op with
  | .shl => true
  | .shr => true
  | _ => false
def iop (op : BinOp) : Option IOp := match op with
  | .add => some oAdd
  | .sub => some oSub
  | .mul => some oMul
  | .eql => some oEql
  | .neq => some oNeq
  | .lss => some oLss
  | .leq => some oLeq
  | .gtr => some oGtr
  | .geq => some oGeq
  | .and => some oAnd
  | .or => some oOr
  | .xor => some oXor
  | .shl => some oShl
  | .shr => some oShr
  | _ => none

/-! The code, compiled. -/
inductive FOpd where
  | t (p : Pth)
  | c (v : Value)
  | bad
inductive FCore where
  | mov (x : FOpd)
  | flat (o : Oper)
  | fresh (o : Oper)
  | slow (o : Oper)
  | int2 (g : IOp) (sh : Bool) (x y : FOpd) (o : Oper)
  | conv (kd : IntKind) (x : FOpd) (o : Oper)
  | load1 (x : FOpd)
  | loadN (n : Nat) (x : FOpd)
  | store1 (x y : FOpd)
  | storeN (n : Nat) (x y : FOpd)
  | faddr (off : Nat) (x : FOpd)
  | iaddrS (esz : Nat) (x y : FOpd) (o : Oper)
  | iaddrA (esz len : Nat) (x y : FOpd) (o : Oper)
  | field1 (off : Nat) (x : FOpd)
  | fieldN (off n : Nat) (x : FOpd)
  | extr (i : Nat) (x : FOpd)
  | nilc (x : FOpd)
  | pick (c a b : FOpd)
  | lenS (x : FOpd) (o : Oper)
  | app (esz : Nat) (x y : FOpd) (o : Oper)
  | sliceS (esz : Nat) (x : FOpd) (lo hi : Option FOpd) (o : Oper)
  | sum (g : PFun) (xs : List FOpd)
  | call (f : FuncId) (xs : List FOpd)
  | callV (x : FOpd) (xs : List FOpd)
  | sliceA (n esz : Nat) (x hi : FOpd)
inductive FGuard where
  | none
  | dead
  | on (p : Pth) (want : Bool)
structure FOp where
  dst : Option Pth
  guard : FGuard
  core : FCore
inductive FStep where
  | early (o : FOp) (i : Nat) (w : Option FOpd)
  | late (o : FOp) (mask : Nat)
inductive FC where
  | bad
  | skip
  | ops (l : List FOp)
  | draw (l : List FStep)
  | drawS (ops : Array Oper)
  | seq (a b : FC)
  | cond (c : FOpd) (a b : FC)
  | block (id : Nat) (a : FC)
  | loop (a : FC)
  | exit (id : Nat)
  | scope (a : FC)
  | ret
inductive FRes where
  | tmp (p : Pth)
  | cell1 (p : Pth)
  | cellN (n : Nat) (p : Pth)
  | bad
inductive FF where
  | bad
  | mk (n : Nat) (c : FC) (res : List FRes)

def cOpd (P : Program) (x : Operand) : FOpd := match x with
  | .tmp i => .t (pth i)
  | .const v => bif flatQ v then .c v else .bad
  | .global g => if g < P.globals.size then .c (.pointer (some ⟨g, 0, none⟩)) else .bad
  | .func f => .c (.func (.func f) #[] #[])
def cLoad (P : Program) (ty : TypeId) (x : FOpd) : Option FCore := match isAggT P ty, P.info? ty with
  | some true, some i => some (.loadN i.size x)
  | some false, some _ => some (.load1 x)
  | _, _ => none
def cStore (P : Program) (ty : TypeId) (x y : FOpd) : Option FCore := match P.info? ty with
  | some i => some (if i.size = 1 then .store1 x y else .storeN i.size x y)
  | none => none
def cFaddr (P : Program) (ty : TypeId) (x : FOpd) (f : Nat) : Option FCore := match P.underlying ty with
  | some (.struct fields) => match fields[f]? with
    | some fd => match P.info? fd.type with
      | some i => if i.size = 0 then none else some (.faddr fd.offset x)
      | none => none
    | none => none
  | _ => none
def cIaddr (P : Program) (ty : TypeId) (x y : FOpd) (o : Oper) : Option FCore := match P.underlying ty with
  | some (.slice elem) => match P.info? elem with
    | some e => some (.iaddrS e.size x y o)
    | none => none
  | some (.array len elem) => match P.info? elem with
    | some e => some (.iaddrA e.size len x y o)
    | none => none
  | _ => none
def cField (P : Program) (ty : TypeId) (x : FOpd) (f : Nat) : Option FCore := match P.underlying ty with
  | some (.struct fields) => match fields[f]? with
    | some fd => match P.info? fd.type, isAggT P fd.type with
      | some i, some true => some (.fieldN fd.offset i.size x)
      | some _, some false => some (.field1 fd.offset x)
      | _, _ => none
    | none => none
  | _ => none
def cSlice (P : Program) (ty : TypeId) (x : FOpd) (lo hi : Option FOpd) (o : Oper) : Option FCore := match P.underlying ty with
  | some (.slice elem) => match P.info? elem with
    | some e => some (bif Nat.beq e.size 0 then .slow o else .sliceS e.size x lo hi o)
    | none => none
  | some (.array n elem) => match P.info? elem, lo, hi with
    | some e, none, some h => some (bif Nat.beq e.size 0 then .slow o else .sliceA n e.size x h)
    | _, _, _ => none
  | _ => none
def cConv (P : Program) (src dst : TypeId) (x : FOpd) (o : Oper) : FCore := match P.underlying src, P.underlying dst with
  | some (.slice _), some .string => .slow o
  | some .string, some (.slice _) => .fresh o
  | some _, some (.int k) => .conv k x o
  | _, _ => .flat o
def cLen (P : Program) (ts : Array TypeId) (x : FOpd) (o : Oper) : FCore := match ts[0]? with
  | some t => match P.underlying t with
    | some (.slice _) => .lenS x o
    | _ => .flat o
  | none => .slow o
def isRow (d : TypeDesc) : Bool := match d with
  | .slice _ => true
  | .string => true
  | _ => false
def cApp (P : Program) (ts : Array TypeId) (x y : FOpd) (o : Oper) : FCore := match ts[0]?, ts[1]? with
  | some sT, some yT => match P.underlying sT, P.underlying yT with
    | some (.slice elem), some yd => match isRow yd, P.info? elem with
      | true, some e => match e.zero with
        | some z => if 0 < e.size ∧ z.cells.size = e.size ∧ e.bytes ≤ 65536 then .app e.size x y o else .slow o
        | none => .slow o
      | _, _ => .slow o
    | _, _ => .slow o
  | _, _ => .slow o
def cCall (P : Program) (l : List (FuncId × PFun)) (c : Call) (o : Oper) : FCore := match c.callee with
  | .value (.func f) => match lookF l f with
    | some g => .sum g (c.args.toList.map (cOpd P))
    | none => .call f (c.args.toList.map (cOpd P))
  | .value x => .callV (cOpd P x) (c.args.toList.map (cOpd P))
  | .builtin .len => match c.args.toList with
    | [x] => cLen P c.argTypes (cOpd P x) o
    | _ => .slow o
  | .builtin .append => match c.args.toList with
    | [x, y] => cApp P c.argTypes (cOpd P x) (cOpd P y) o
    | _ => .slow o
  | .builtin .min => .flat o
  | .builtin .max => .flat o
  | _ => .slow o
def cCore (P : Program) (l : List (FuncId × PFun)) (o : Oper) : FCore := match o.op with
  | .move x => .mov (cOpd P x)
  | .assign x => .mov (cOpd P x)
  | .pick c a b => .pick (cOpd P c) (cOpd P a) (cOpd P b)
  | .alloc _ => .fresh o
  | .box _ _ => .fresh o
  | .build _ _ => .flat o
  | .buildSlice _ _ _ => .fresh o
  | .makeSlice _ _ _ => .fresh o
  | .load ty a => (cLoad P ty (cOpd P a)).getD (.slow o)
  | .store ty a v => (cStore P ty (cOpd P a) (cOpd P v)).getD (.slow o)
  | .nilCheck x => .nilc (cOpd P x)
  | .binOp op _ x y _ => match iop op with
    | some g => .int2 g (isShift op) (cOpd P x) (cOpd P y) o
    | none => .flat o
  | .unOp _ _ _ => .flat o
  | .convert src dst x => cConv P src dst (cOpd P x) o
  | .makeFunc _ _ _ => .flat o
  | .fieldAddr ty x f => (cFaddr P ty (cOpd P x) f).getD (.slow o)
  | .field ty x f => (cField P ty (cOpd P x) f).getD (.slow o)
  | .indexAddr ty x y => (cIaddr P ty (cOpd P x) (cOpd P y) o).getD (.slow o)
  | .index _ _ _ => .flat o
  | .slice ty x lo hi none => (cSlice P ty (cOpd P x) (lo.map (cOpd P)) (hi.map (cOpd P)) o).getD (.slow o)
  | .extract x i => .extr i (cOpd P x)
  | .call c => cCall P l c o
  | _ => .slow o
def cGuard (ops : Array Oper) (o : Oper) : FGuard := match o.guard with
  | none => .none
  | some (j, want) => match (ops[j]?).bind (·.dst) with
    | none => .dead
    | some d => .on (pth d) want
def cOp (P : Program) (l : List (FuncId × PFun)) (ops : Array Oper) (o : Oper) : FOp := ⟨o.dst.map pth, cGuard ops o, cCore P l o⟩
def cWatch (P : Program) (o : Oper) : Option FOpd := match o.op with
  | .load _ x => some (cOpd P x)
  | .convert _ _ x => some (cOpd P x)
  | _ => none
/-- An order that was found beforehand: each operation's number; of those that may not be made early, whom it waits for. -/
abbrev Plan := List (Nat × Option Nat)
abbrev Plans := List (Nat × Plan)
def planE (P : Program) (ops : Array Oper) (b : Array Nat) (i : Nat) : Nat × Option Nat := match getQ ops i with
  | none => (i, some 0)
  | some o => match isEarly P o with
    | true => (i, none)
    | false => (i, some (b.getD i 0))
def planL (P : Program) (ops : Array Oper) : Option Plan := match planOf P ops with
  | some pl => some (pl.map (planE P ops (befs ops)))
  | none => none
def samePlan : Plan → Plan → Bool
  | [], [] => true
  | (i, none) :: r, (j, none) :: q => match Nat.beq i j with
    | true => samePlan r q
    | false => false
  | (i, some a) :: r, (j, some b) :: q => match Nat.beq i j, Nat.beq a b with
    | true, true => samePlan r q
    | _, _ => false
  | _, _ => false
def chkPlan (P : Program) (ops : Array Oper) (pl : Plan) : Bool := match planL P ops with
  | some q => samePlan pl q
  | none => false
def lookN (t : Plans) (id : Nat) : Option Plan := match t with
  | [] => none
  | (i, p) :: r => match Nat.beq i id with
    | true => some p
    | false => lookN r id
def chkCode (P : Program) (t : Plans) : Code → Bool
  | .region id ops draw => match draw, lookN t id with
    | true, some pl => chkPlan P ops pl
    | _, _ => true
  | .seq a b => chkCode P t a && chkCode P t b
  | .cond _ a b => chkCode P t a && chkCode P t b
  | .block _ a => chkCode P t a
  | .loop a => chkCode P t a
  | .scope a => chkCode P t a
  | _ => true
def cStep (P : Program) (l : List (FuncId × PFun)) (ops : Array Oper) (s : Nat × Option Nat) : FStep := match s with
  | (i, m) => match getQ ops i with
    | none => .late ⟨none, .none, .extr 0 .bad⟩ 0
    | some o => match m with
      | none => .early (cOp P l ops o) i (cWatch P o)
      | some b => .late (cOp P l ops o) b
def cRegion (P : Program) (l : List (FuncId × PFun)) (t : Plans) (id : Nat) (ops : Array Oper) (draw : Bool) : FC :=
  if draw then (match lookN t id with
    | some pl => .draw (pl.map (cStep P l ops))
    | none => .drawS ops) else .ops (ops.toList.map (cOp P l ops))
def cCode (P : Program) (l : List (FuncId × PFun)) (t : Plans) (c : Code) : FC := Code.rec (motive := fun _ => FC)
  .skip
  (fun id ops draw => cRegion P l t id ops draw)
  (fun _ _ a b => .seq a b)
  (fun c _ _ a b => .cond (cOpd P c) a b)
  (fun id _ a => .block id a)
  (fun _ a => .loop a)
  (fun _ _ _ _ _ _ => .bad)
  (fun id => .exit id)
  (fun _ a => .scope a)
  (fun _ => .skip)
  (fun _ => .bad)
  .ret
  (fun _ => .bad) c
def cRes (P : Program) (r : ResultVar) : FRes := match r with
  | .tmp i => .tmp (pth i)
  | .cell i ty => match isAggT P ty, P.info? ty with
    | some true, some x => .cellN x.size (pth i)
    | some false, some _ => .cell1 (pth i)
    | _, _ => .bad
abbrev AllPlans := List (FuncId × Plans)
def lookP (t : AllPlans) (f : FuncId) : Plans := match t with
  | [] => []
  | (i, p) :: r => match Nat.beq i f with
    | true => p
    | false => lookP r f
def cFunc (P : Program) (l : List (FuncId × PFun)) (pts : AllPlans) (f : FuncId) : FF := match getQ P.funcs f with
  | none => .bad
  | some fn => match fn.body with
    | none => .bad
    | some c => if fn.ntmps ≤ 8190 then .mk fn.ntmps (cCode P l (lookP pts f) c) (fn.results.toList.map (cRes P)) else .bad

/-! The run. -/
def arrL (h : HT) (n : Nat) : List AObj := (List.range n).map fun i => htG (pth i) h
def toS (h : HT) (n low : Nat) : St := ⟨⟨arrL h n⟩, low, none, []⟩
def htOfK (l : List AObj) (i : Nat) (h : HT) (k : HT → Nat → FR) : FR :=
  List.rec (motive := fun _ => Nat → HT → (HT → Nat → FR) → FR) (fun i h k => k h i) (fun o _ ih i h k => htP (pth i) h o fun h => litK (Nat.succ i) fun i => ih i h k) l i h k
/-- A state of the slow run, again as a tree. -/
def ofS (s : St) (k : HT → Nat → Nat → FR) : FR := match s.path, s.cons with
  | none, [] => htOfK s.heap.toList 0 .leaf fun h n => litK s.low fun low => k h n low
  | _, _ => .bad
abbrev FCall := FuncId → List Value → HT → Nat → Nat → (Value → HT → Nat → Nat → FR) → FR
abbrev FK := Value → HT → Nat → Nat → FR
def noCall : CallFn := fun _ _ _ => none
def sNil : St := ⟨#[], 0, none, []⟩
def flatR (P : Program) (o : Oper) (t : Tr) (k : Value → FR) : FR := match evOp P noCall o t sNil with
  | some (v, _) => k v
  | none => .bad
def shiftV (n : Nat) (v : Value) : Value := match v with
  | .pointer (some ⟨b, off, none⟩) => .pointer (some ⟨n + b, off, none⟩)
  | .slice (some ⟨b, off, none⟩) l c => .slice (some ⟨n + b, off, none⟩) l c
  | v => v
def valsK (l : List Value) (k : List Value → FR) : FR :=
  List.rec (motive := fun _ => (List Value → FR) → FR) (fun k => k []) (fun v _ ih k => valK v fun v => ih fun r => k (v :: r)) l k
/-- An operation that makes one object, or none. -/
def freshR (P : Program) (o : Oper) (t : Tr) (h : HT) (n low : Nat) (k : FK) : FR := match evOp P noCall o t sNil with
  | some (v, s) => match s.heap.toList with
    | [] => k v h n low
    | [ob] => valsK ob.cells.toList fun cs => litK ob.esz fun esz => litK (n + 1) fun n1 => match v with
      | .pointer (some ⟨_, off, none⟩) => htP (pth n) h { cells := ⟨cs⟩, esz, st := 1, prev := [] } fun h => k (.pointer (some ⟨n, off, none⟩)) h n1 low
      | .slice (some ⟨_, off, none⟩) len _ => litK len fun len => htP (pth n) h { cells := ⟨cs⟩, esz, st := 1, prev := [] } fun h => k (.slice (some ⟨n, off, none⟩) len 0) h n1 low
      | _ => .bad
    | _ => .bad
  | none => .bad
def slowR (P : Program) (cs : CallFn) (o : Oper) (t : Tr) (h : HT) (n low : Nat) (k : FK) : FR := match evOp P cs o t (toS h n low) with
  | some (v, s) => ofS s fun h n low => k v h n low
  | none => .bad
def opdK (x : FOpd) (t : Tr) (k : Value → FR) : FR := FOpd.rec (motive := fun _ => Tr → (Value → FR) → FR) (fun p t k => k (trG p t)) (fun v _ k => k v) (fun _ _ => .bad) x t k
def opdsK (xs : List FOpd) (t : Tr) (k : List Value → FR) : FR :=
  List.rec (motive := fun _ => Tr → (List Value → FR) → FR) (fun _ k => k []) (fun x _ ih t k => opdK x t fun v => valK v fun v => ih t fun r => k (v :: r)) xs t k
/-- An object that is not dead: its cells, and how it is. -/
def objK (h : HT) (b : Nat) (k : List Value → Nat → Nat → List Nat → Bool → Nat → FR) : FR :=
  AObj.rec (motive := fun _ => (List Value → Nat → Nat → List Nat → Bool → Nat → FR) → FR) (fun cells esz st prev sym ver k => Array.rec (motive := fun _ => FR) (fun l => k l esz st prev sym ver) cells) (htG (pth b) h) k
def ifK (b : Bool) (k : FR) : FR := Bool.rec (motive := fun _ => FR) .bad k b
def idxK (i : Int) (len : Nat) (k : Nat → FR) : FR := Int.rec (motive := fun _ => FR) (fun m => ifK (Nat.ble (Nat.succ m) len) (k m)) (fun _ => .bad) i
/-- The rows out of which this one grew are no longer known. -/
def killK (prev : List Nat) (h : HT) (k : HT → FR) : FR :=
  List.rec (motive := fun _ => HT → (HT → FR) → FR) (fun h k => k h) (fun b _ ih h k => objK h b fun cs esz _ prev sym ver => htP (pth b) h { cells := ⟨cs⟩, esz, st := 3, prev, sym, ver } fun h => ih h k) prev h k
def storeR (b off : Nat) (vs : List Value) (h : HT) (n low : Nat) (k : FK) : FR :=
  ifK (Nat.blt b n) (objK h b fun cs esz st prev sym ver => ifK (Nat.beq st 1) (ifK (allQ scalarQ vs) (putsK cs off vs fun cs => litK (Nat.succ ver) fun ver =>
    killK prev h fun h => htP (pth b) h { cells := ⟨cs⟩, esz, st := 1, prev := [], sym, ver } fun h =>
      Bool.rec (motive := fun _ => FR) (litK (min low b) fun low => k undef h n low) (k undef h n low) (allQ flatQ vs))))
/-- How long what is appended is, and its cells. -/
def tailR (esz : Nat) (y : Value) (h : HT) (n : Nat) (k : Nat → List Value → FR) (d : FR) : FR :=
  sliceVK y (fun b off len _ => ifK (Nat.blt b n) (objK h b fun cs es st _ sym _ => ifK (!sym) (ifK (Nat.blt st 3) (ifK (Nat.beq es esz) (dropK cs off fun cs => takeK cs (Nat.mul len esz) fun cs => k len cs)))))
    (fun len cap => ifK (Nat.beq len 0) (ifK (Nat.ble cap 1) (k 0 []))) d
def appR (esz : Nat) (x y : Value) (h : HT) (n low : Nat) (k : FK) (d : FR) : FR :=
  tailR esz y h n (fun m new => sliceVK x
    (fun b off len _ => ifK (Nat.blt b n) (objK h b fun cs es st prev sym ver => ifK (Nat.beq st 1) (ifK (Nat.beq es esz) (Nat.rec (motive := fun _ => FR) (k x h n low)
      (fun m0 _ => lenK cs fun size => Bool.rec (motive := fun _ => FR) d (ifK (Nat.ble (Nat.add len m) 1073741824) (dropK cs off fun cs1 => appK cs1 new fun cs1 =>
        htP (pth b) h { cells := ⟨cs⟩, esz := es, st := 2, prev := [], sym, ver } fun h => htP (pth n) h { cells := ⟨cs1⟩, esz, st := 1, prev := b :: prev, sym } fun h =>
          litK (Nat.add len m) fun len => litK (Nat.succ n) fun n1 => k (.slice (some ⟨n, 0, none⟩) len 0) h n1 low)) (Nat.beq (Nat.add off (Nat.mul len esz)) size)) m))))
    (fun len cap => ifK (Nat.beq len 0) (ifK (Nat.ble cap 1) (Nat.rec (motive := fun _ => FR) (k x h n low) (fun _ _ => ifK (Nat.ble m 1073741824)
      (htP (pth n) h { cells := ⟨new⟩, esz, st := 1, prev := [] } fun h => litK (Nat.succ n) fun n1 => k (.slice (some ⟨n, 0, none⟩) m 0) h n1 low)) m))) .bad) d
/-- The bounds of a slice expression. -/
def hiK (hi : Option FOpd) (t : Tr) (len cap : Nat) (k : Nat → FR) : FR :=
  Option.rec (motive := fun _ => FR) (k len) (fun x => opdK x t fun v => intVK v (fun _ z => Int.rec (motive := fun _ => FR) (fun m => ifK (Nat.ble m cap) (k m)) (fun _ => .bad) z) .bad) hi
def loK (lo : Option FOpd) (t : Tr) (hi : Nat) (k : Nat → FR) : FR :=
  Option.rec (motive := fun _ => FR) (k 0) (fun x => opdK x t fun v => intVK v (fun _ z => Int.rec (motive := fun _ => FR) (fun m => ifK (Nat.ble m hi) (k m)) (fun _ => .bad) z) .bad) lo

abbrev Hd := Program → FCall → CallFn → Tr → HT → Nat → Nat → FK → FR
def coreH (c : FCore) : Hd := FCore.rec (motive := fun _ => Hd)
  (fun x _ _ _ t h n low k => opdK x t fun v => valK v fun v => k v h n low)
  (fun o P _ _ t h n low k => flatR P o t fun v => k v h n low)
  (fun o P _ _ t h n low k => freshR P o t h n low k)
  (fun o P _ cs t h n low k => slowR P cs o t h n low k)
  (fun g sh x y o P _ _ t h n low k => opdK x t fun v => opdK y t fun u => intVK v (fun kd a => intVK u (fun kd' b =>
    Bool.rec (motive := fun _ => FR) (flatR P o t fun v => k v h n low) (g kd a b (fun v => k v h n low) (flatR P o t fun v => k v h n low)) (sh || Nat.beq (ikQ kd) (ikQ kd')))
    (flatR P o t fun v => k v h n low)) (flatR P o t fun v => k v h n low))
  (fun kd x o P _ _ t h n low k => opdK x t fun v => intVK v (fun _ a => Int.rec (motive := fun _ => FR) (fun m => natIn kd m fun v => k v h n low) (fun m => intIn kd (.negSucc m) fun v => k v h n low) a) (flatR P o t fun v => k v h n low))
  (fun x _ _ _ t h n low k => opdK x t fun v => ptrVK v (fun b off => ifK (Nat.blt b n) (objK h b fun cs _ st _ _ _ => ifK (Nat.blt st 3) (cellK cs off fun v => k v h n low))) .bad)
  (fun m x _ _ _ t h n low k => opdK x t fun v => ptrVK v (fun b off => ifK (Nat.blt b n) (objK h b fun cs _ st _ _ _ => ifK (Nat.blt st 3) (dropK cs off fun cs => takeK cs m fun cs => k (.agg ⟨cs⟩) h n low))) .bad)
  (fun x y _ _ _ t h n low k => opdK x t fun v => opdK y t fun u => ptrVK v (fun b off => valK u fun u => ifK (scalarQ u) (storeR b off [u] h n low k)) .bad)
  (fun m x y _ _ _ t h n low k => opdK x t fun v => opdK y t fun u => ptrVK v (fun b off => aggVK u (fun l => lenK l fun m' => ifK (Nat.beq m' m) (storeR b off l h n low k)) .bad) .bad)
  (fun d x _ _ _ t h n low k => opdK x t fun v => ptrVK v (fun b off => litK (Nat.add off d) fun off => k (.pointer (some ⟨b, off, none⟩)) h n low) .bad)
  (fun esz x y _ _ _ _ t h n low k => opdK x t fun v => opdK y t fun u => intVK u (fun _ i => sliceVK v (fun b off len _ => idxK i len fun i => litK (Nat.add off (Nat.mul i esz)) fun off => k (.pointer (some ⟨b, off, none⟩)) h n low) (fun _ _ => .bad) .bad) .bad)
  (fun esz len x y _ _ _ _ t h n low k => opdK x t fun v => opdK y t fun u => intVK u (fun _ i => ptrVK v (fun b off => idxK i len fun i => litK (Nat.add off (Nat.mul i esz)) fun off => k (.pointer (some ⟨b, off, none⟩)) h n low) .bad) .bad)
  (fun d x _ _ _ t h n low k => opdK x t fun v => aggVK v (fun l => cellK l d fun v => k v h n low) .bad)
  (fun d m x _ _ _ t h n low k => opdK x t fun v => aggVK v (fun l => dropK l d fun l => takeK l m fun l => k (.agg ⟨l⟩) h n low) .bad)
  (fun i x _ _ _ t h n low k => opdK x t fun v => tupVK v (fun l => cellK l i fun v => k v h n low) .bad)
  (fun x _ _ _ t h n low k => opdK x t fun v => valK v fun v => Value.rec (motive_1 := fun _ => FR → FR) (motive_2 := fun _ => PUnit) (motive_3 := fun _ => PUnit)
    (fun _ _ => .bad) (fun _ _ _ => .bad) (fun _ _ _ => .bad) (fun _ _ _ _ => .bad) (fun _ _ => .bad) (fun a r => Option.rec (motive := fun _ => FR) .bad (fun _ => r) a) (fun _ _ _ _ => .bad) (fun _ _ => .bad) (fun _ _ => .bad)
    (fun _ _ _ _ _ _ => .bad) (fun _ => .bad) (fun _ _ _ _ => .bad) (fun _ => .bad) (fun _ _ _ => .bad) (fun _ _ _ => .bad) (fun _ _ => ⟨⟩) ⟨⟩ (fun _ _ _ _ => ⟨⟩) v (k v h n low))
  (fun c a b _ _ _ t h n low k => opdK c t fun v => boolVK v (opdK a t fun v => valK v fun v => k v h n low) (opdK b t fun v => valK v fun v => k v h n low))
  (fun x _ _ _ _ t h n low k => opdK x t fun v => sliceVK v (fun _ _ len _ => k (.int .i64 (.ofNat len)) h n low) (fun len _ => k (.int .i64 (.ofNat len)) h n low) .bad)
  (fun esz x y o P _ cs t h n low k => opdK x t fun v => opdK y t fun u => appR esz v u h n low k (slowR P cs o t h n low k))
  (fun esz x lo hi o P _ cs t h n low k => opdK x t fun v => sliceVK v (fun b off len _ => ifK (Nat.blt b n) (objK h b fun cl es st _ _ _ => ifK (Nat.blt st 3) (ifK (Nat.beq es esz) (lenK cl fun size =>
      hiK hi t len (Nat.div (Nat.sub size off) esz) fun hi => loK lo t hi fun lo => litK (Nat.add off (Nat.mul lo esz)) fun off => litK (Nat.sub hi lo) fun len => k (.slice (some ⟨b, off, none⟩) len 0) h n low))))
    (fun _ _ => slowR P cs o t h n low k) .bad)
  (fun g xs _ _ _ t h n low k => opdsK xs t fun l => match g l with
    | some (p, v) => ifK (allQ flatQ l) (match p with
      | none => valK v fun v => k v h n low
      | some b => ifK b (valK v fun v => k v h n low))
    | none => .bad)
  (fun f xs _ cf _ t h n low k => opdsK xs t fun l => cf f l h n low k)
  (fun x xs _ cf _ t h n low k => opdK x t fun v => opdsK xs t fun l => fnVK v (fun f a c => cf f (a ++ l ++ c) h n low k) .bad)
  (fun len esz x hi _ _ _ t h n low k => opdK x t fun v => opdK hi t fun u => ptrVK v (fun b off => intVK u (fun _ z => Int.rec (motive := fun _ => FR) (fun m => ifK (Nat.ble m len) (ifK (Nat.blt b n) (objK h b fun cs es st prev sym ver => ifK (Nat.beq st 1)
    (dropK cs off fun cs1 => takeK cs1 (Nat.mul len esz) fun cs1 => htP (pth b) h { cells := ⟨cs⟩, esz := es, st := 3, prev, sym, ver } fun h => htP (pth n) h { cells := ⟨cs1⟩, esz, st := 0, prev := [], sym } fun h => litK (Nat.succ n) fun n1 => k (.slice (some ⟨n, 0, none⟩) m 0) h n1 low)))) (fun _ => .bad) z) .bad) .bad)
  c
def putDK (d : Option Pth) (t : Tr) (v : Value) (k : Tr → FR) : FR := Option.rec (motive := fun _ => Tr → Value → (Tr → FR) → FR) (fun t _ k => k t) (fun p t v k => trP p t v k) d t v k
abbrev FT := Tr → HT → Nat → Nat → FR
def guardH (g : FGuard) (t : Tr) (yes no : FR) : FR := FGuard.rec (motive := fun _ => Tr → FR → FR → FR) (fun _ yes _ => yes) (fun _ _ no => no)
  (fun p want t yes no => valK (trG p t) fun v => Value.rec (motive_1 := fun _ => FR → FR → FR) (motive_2 := fun _ => PUnit) (motive_3 := fun _ => PUnit)
    (fun b yes no => Bool.rec (motive := fun _ => FR) (Bool.rec (motive := fun _ => FR) yes no want) (Bool.rec (motive := fun _ => FR) no yes want) b) (fun _ _ _ no => no) (fun _ _ _ no => no) (fun _ _ _ _ no => no) (fun _ _ no => no) (fun _ _ no => no) (fun _ _ _ _ no => no) (fun _ _ no => no) (fun _ _ no => no)
    (fun _ _ _ _ _ _ no => no) (fun _ no => no) (fun _ _ _ _ no => no) (fun _ no => no) (fun _ _ _ no => no) (fun _ _ _ no => no) (fun _ _ => ⟨⟩) ⟨⟩ (fun _ _ _ _ => ⟨⟩) v yes no) g t yes no
/-- One operation: what it gives is put where it belongs. -/
def opK (o : FOp) (P : Program) (cf : FCall) (cs : CallFn) (t : Tr) (h : HT) (n low : Nat) (k : FT) : FR :=
  FOp.rec (motive := fun _ => FR) (fun d g c => guardH g t (coreH c P cf cs t h n low fun v h n low => putDK d t v fun t => k t h n low) (putDK d t undef fun t => k t h n low)) o
def opsK (l : List FOp) (P : Program) (cf : FCall) (cs : CallFn) (t : Tr) (h : HT) (n low : Nat) : FR :=
  List.rec (motive := fun _ => Program → FCall → CallFn → FT) (fun _ _ _ t h n low => .ok .normal t h n low) (fun o _ ih P cf cs t h n low => opK o P cf cs t h n low fun t h n low => ih P cf cs t h n low) l P cf cs t h n low
def blkK (v : Value) (k : Nat → FR) (d : FR) : FR :=
  Value.rec (motive_1 := fun _ => (Nat → FR) → FR → FR) (motive_2 := fun _ => PUnit) (motive_3 := fun _ => PUnit)
    (fun _ _ d => d) (fun _ _ _ d => d) (fun _ _ _ d => d) (fun _ _ _ _ d => d) (fun _ _ d => d) (fun a k d => Option.rec (motive := fun _ => FR) d (fun a => k a.block) a) (fun a _ _ k d => Option.rec (motive := fun _ => FR) d (fun a => k a.block) a) (fun _ _ d => d) (fun _ _ d => d)
    (fun _ _ _ _ _ _ d => d) (fun _ d => d) (fun _ _ _ _ d => d) (fun _ d => d) (fun _ _ _ d => d) (fun _ _ _ d => d) (fun _ _ => ⟨⟩) ⟨⟩ (fun _ _ _ _ => ⟨⟩) v k d
/-- What is looked at early is noted. -/
def noteK (w : Option FOpd) (i : Nat) (t : Tr) (h : HT) (n : Nat) (wt : Watch) (k : Watch → FR) : FR :=
  Option.rec (motive := fun _ => FR) (k wt) (fun x => opdK x t fun v => blkK v (fun b => Bool.rec (motive := fun _ => FR) (k wt) (objK h b fun _ _ _ _ _ ver => k ((i, b, ver) :: wt)) (Nat.blt b n)) (k wt)) w
def keepK (mask : Nat) (h : HT) (n : Nat) (wt : Watch) (k : Watch → FR) : FR :=
  List.rec (motive := fun _ => (Watch → FR) → FR) (fun k => k []) (fun e _ ih k => Prod.rec (motive := fun _ => FR) (fun i p => Prod.rec (motive := fun _ => FR) (fun b ver =>
    Bool.rec (motive := fun _ => FR) (ifK (Nat.blt b n) (objK h b fun _ _ st _ _ v => ifK (Nat.blt st 3) (ifK (Nat.beq v ver) (ih fun r => k ((i, b, ver) :: r))))) (ih k) (mask.testBit i)) p) e) wt k
def stepsK (l : List FStep) (P : Program) (cf : FCall) (cs : CallFn) (t : Tr) (h : HT) (n low : Nat) (wt : Watch) : FR :=
  List.rec (motive := fun _ => Program → FCall → CallFn → Tr → HT → Nat → Nat → Watch → FR) (fun _ _ _ t h n low _ => .ok .normal t h n low)
    (fun s _ ih P cf cs t h n low wt => FStep.rec (motive := fun _ => FR)
      (fun o i w => noteK w i t h n wt fun wt => opK o P cf cs t h n low fun t h n low => ih P cf cs t h n low wt)
      (fun o mask => opK o P cf cs t h n low fun t h n low => keepK mask h n wt fun wt => ih P cf cs t h n low wt) s) l P cf cs t h n low wt
abbrev FGo := FC → Tr → HT → Nat → Nat → FR
abbrev CH := Program → FCall → CallFn → FGo → Tr → HT → Nat → Nat → FR
def thenR (r : FR) (k : Tr → HT → Nat → Nat → FR) : FR := FR.rec (motive := fun _ => (Tr → HT → Nat → Nat → FR) → FR) (fun _ => .bad) (fun e t h n low k => AExit.rec (motive := fun _ => FR) (k t h n low) (fun id => .ok (.exit id) t h n low) (.ok .ret t h n low) e) r k
def leaveR (id : Nat) (r : FR) : FR := FR.rec (motive := fun _ => FR) .bad (fun e t h n low => AExit.rec (motive := fun _ => FR) (.ok .normal t h n low) (fun id' => Bool.rec (motive := fun _ => FR) (.ok (.exit id') t h n low) (.ok .normal t h n low) (Nat.beq id' id)) (.ok .ret t h n low) e) r
def fcH (c : FC) : CH := FC.rec (motive := fun _ => CH)
  (fun _ _ _ _ _ _ _ _ => .bad)
  (fun _ _ _ _ t h n low => .ok .normal t h n low)
  (fun l P cf cs _ t h n low => opsK l P cf cs t h n low)
  (fun l P cf cs _ t h n low => stepsK l P cf cs t h n low [])
  (fun ops P _ cs _ t h n low => match evDraw P cs ops t (toS h n low) with
    | some (t, s) => ofS s fun h n low => .ok .normal t h n low
    | none => .bad)
  (fun a b _ _ _ _ _ go t h n low => thenR (go a t h n low) (go b))
  (fun c a b _ _ _ _ _ go t h n low => opdK c t fun v => boolVK v (go a t h n low) (go b t h n low))
  (fun id a _ _ _ _ go t h n low => leaveR id (go a t h n low))
  (fun a _ _ _ _ go t h n low => thenR (go a t h n low) (go (.loop a)))
  (fun id _ _ _ _ t h n low => .ok (.exit id) t h n low)
  (fun a _ _ _ _ go t h n low => go a t h n low)
  (fun _ _ _ _ t h n low => .ok .ret t h n low)
  c
def fRun (P : Program) (cf : FCall) (cs : CallFn) (n : Nat) : FGo := Nat.rec (motive := fun _ => FGo) (fun _ _ _ _ _ => .bad) (fun _ go c t h n low => fcH c P cf cs go t h n low) n
/-- What stands at an address. -/
def ldK (v : Value) (h : HT) (n : Nat) (k : Value → FR) : FR := ptrVK v (fun b off => ifK (Nat.blt b n) (objK h b fun cs _ st _ _ _ => ifK (Nat.blt st 3) (cellK cs off k))) .bad
def ldNK (m : Nat) (v : Value) (h : HT) (n : Nat) (k : Value → FR) : FR := ptrVK v (fun b off => ifK (Nat.blt b n) (objK h b fun cs _ st _ _ _ => ifK (Nat.blt st 3) (dropK cs off fun cs => takeK cs m fun cs => k (.agg ⟨cs⟩)))) .bad
def resK (l : List FRes) (t : Tr) (h : HT) (n : Nat) (k : List Value → FR) : FR :=
  List.rec (motive := fun _ => (List Value → FR) → FR) (fun k => k []) (fun r _ ih k => FRes.rec (motive := fun _ => FR) (fun p => valK (trG p t) fun v => ih fun r => k (v :: r))
    (fun p => ldK (trG p t) h n fun v => ih fun r => k (v :: r)) (fun m p => ldNK m (trG p t) h n fun v => ih fun r => k (v :: r)) .bad r) l k
def oneK (l : List Value) (k : Value → FR) : FR := match l with
  | [v] => k v
  | vs => k (.tuple ⟨vs⟩)
/-- What is left of a call. -/
def endK (v : Value) (n0 low0 : Nat) (h : HT) (n low : Nat) (k : FK) : FR :=
  Bool.rec (motive := fun _ => FR) (litK (min low0 low) fun low => k v h n low) (Bool.rec (motive := fun _ => FR) (litK (min low0 low) fun low => k v h n low) (ifK (Nat.ble n0 n) (k v h n0 low0)) (Nat.ble n0 low)) (flatQ v)
def bodyR (go : FGo) (F : FF) (args : List Value) (h : HT) (n low : Nat) (k : FK) : FR :=
  FF.rec (motive := fun _ => FR) .bad (fun nt c res => lenK args fun m => ifK (Nat.ble m nt) (FR.rec (motive := fun _ => FR) .bad
    (fun e t h n1 low1 => AExit.rec (motive := fun _ => FR) (resK res t h n1 fun vs => oneK vs fun v => endK v n low h n1 low1 k) (fun _ => .bad) (resK res t h n1 fun vs => oneK vs fun v => endK v n low h n1 low1 k) e)
    (go c (Tr.mk nt (argAt args) 13 1 0) h n n))) F
def fCall (P : Program) (l : List (FuncId × PFun)) (pts : AllPlans) (n : Nat) : FCall := Nat.rec (motive := fun _ => FCall) (fun _ _ _ _ _ _ => .bad)
  (fun m cf f args h n low k => match lookF l f with
    | some _ => .bad
    | none => Nat.rec (motive := fun _ => FR) .bad (fun _ _ => bodyR (fRun P cf (evCall P (pureEnv l) m) m) (cFunc P l pts f) args h n low k) m) n
/-- What is kept of the objects. -/
def keepF (g : Nat) (m : List Nat) (h : HT) (n : Nat) : List Nat → Option (List AObj)
  | [] => some []
  | b :: r => match Nat.blt b n with
    | true => match renO g m (htG (pth b) h), keepF g m h n r with
      | some o, some os => some (o :: os)
      | _, _ => none
    | false => none
def viewF (g : Nat) (m ks : List Nat) (nt : Nat) (h : HT) (n : Nat) (t : Tr) : Option (List AObj × List (Nat × Value)) :=
  match freshM g m && (t.has (nt - 1) && !t.has nt) && Nat.ble nt 8190 && Nat.blt 0 nt, keepF g m h n m, keepV g m t ks with
  | true, some L, some K => some (L, K)
  | _, _, _ => none
/-- So many dead ones, and the objects. -/
def pieceF (P : Program) (l : List (FuncId × PFun)) (pts : AllPlans) (f : FuncId) (fuel g : Nat) (c : Code) (nt : Nat) (m ks : List Nat) (L : List AObj) (K : List (Nat × Value)) : Option (AExit × List AObj × List (Nat × Value)) :=
  FR.rec (motive := fun _ => Option (AExit × List AObj × List (Nat × Value))) none (fun e t h n _ => match viewF g m ks nt h n t with
    | some (L', K') => some (e, L', K')
    | none => none)
  (htOfK (List.replicate g objDead ++ L) 0 .leaf fun h n => fRun P (fCall P l pts (fuel + 1)) (evCall P (pureEnv l) (fuel + 1)) fuel (cCode P l (lookP pts f) c) (tk nt K) h n 0)
end
end Go.Ev
