/- Chapter 1's functions by summaries, on. -/
import Derived.Test.YtdgdojlhncbggaaDoorSa
namespace Go.Proofs.YtdgdojlhncbggaaDoor
open Go Go.Ev Go.RowKit
set_option maxRecDepth 100000
def coversG : PFun := on2 fun a n b m => .bool (coversB a n b m)
def upV (a n : Int) : Value := if rightB a n && !decide (n = 0) then .tuple #[pfx ((a.toNat &&& maskN (n - 1) : Nat) : Int) (n - 1), .bool true] else .tuple #[pfx 0 0, .bool false]
def upG : PFun := on1 upV
def halfA (a n : Int) (h : Bool) : Int := if h then ((a.toNat ||| 2 ^ (31 - n).toNat : Nat) : Int) else a
def halfV (a n : Int) (h : Bool) : Value := if rightB a n && !decide (n = 32) then .tuple #[pfx (halfA a n h) (n + 1), .bool true] else .tuple #[pfx 0 0, .bool false]
def halfG : PFun
  | [.agg ⟨[.int .u32 a, .int .i64 n]⟩, .bool h] => some (some (inU a), halfV a n h)
  | _ => none
def anyV (a n : Int) : Value := pfx ((a.toNat &&& maskN (n % 33) : Nat) : Int) (n % 33)
def anyG : PFun
  | [.int .u32 a, .int .i64 n] => some (some (inU a), anyV a n)
  | _ => none
def meetK (x : Nat) : Nat → Nat
  | 0 => 0
  | k + 1 => if x &&& maskN ((k + 1 : Nat) : Int) = 0 then k + 1 else meetK x k
def meetV (a n b m : Int) : Value :=
  if rightB a n && rightB b m then pfx ((a.toNat &&& maskN ((meetK (a.toNat ^^^ b.toNat) (min n m).toNat : Nat) : Int) : Nat) : Int) (meetK (a.toNat ^^^ b.toNat) (min n m).toNat : Nat) else pfx 0 0
def meetG : PFun := on2 meetV
theorem halfG_args {args : List Value} {p : Option Bool} {v : Value} (h : halfG args = some (p, v)) : ∃ a n hi, args = [pfx a n, .bool hi] ∧ p = some (inU a) ∧ v = halfV a n hi := by
  unfold halfG at h
  split at h
  · rename_i a n hi
    simp only [Option.some.injEq, Prod.mk.injEq] at h
    exact ⟨a, n, hi, rfl, h.1.symm, h.2.symm⟩
  · cases h
theorem anyG_args {args : List Value} {p : Option Bool} {v : Value} (h : anyG args = some (p, v)) : ∃ a n, args = [.int .u32 a, .int .i64 n] ∧ p = some (inU a) ∧ v = anyV a n := by
  unfold anyG at h
  split at h
  · rename_i a n
    simp only [Option.some.injEq, Prod.mk.injEq] at h
    exact ⟨a, n, rfl, h.1.symm, h.2.symm⟩
  · cases h
theorem rightB_spec {a n : Int} : rightB a n = true ↔ 0 ≤ n ∧ n ≤ 32 ∧ (a.toNat ^^^ a.toNat &&& maskN n) = 0 := by
  simp [rightB, and_assoc]

def E2 : Env := pureEnv [(11, maskG), (12, maskG), (13, ofG), (14, ofG), (28, rightG), (31, rightG), (22, lessG), (32, lessG), (23, hasG), (33, hasG)]
theorem E2_sound : E2.Sound Tryd.prog := pureEnv_sound ⟨mask_sum, rmask_sum, of_sum, rof_sum, right_sum, rright_sum, less_sum, rless_sum, has_sum, rhas_sum, trivial⟩
def coversT (a : Int) (n : Int) (b : Int) (m : Int) : Go.Ev.PT :=
  Go.Ev.PT.need (Go.Proofs.YtdgdojlhncbggaaDoor.inU b) Bool.true
  (Go.Ev.PT.test (Go.Proofs.YtdgdojlhncbggaaDoor.rightB b m)
    (Go.Ev.PT.need (Go.Proofs.YtdgdojlhncbggaaDoor.rightB b m) Bool.true
      (Go.Ev.PT.need (Go.Proofs.YtdgdojlhncbggaaDoor.rightB b m) Bool.true
        (Go.Ev.PT.need (Go.Proofs.YtdgdojlhncbggaaDoor.rightB b m) Bool.true
          (Go.Ev.PT.need (Go.Proofs.YtdgdojlhncbggaaDoor.rightB b m) Bool.true
            (Go.Ev.PT.need (Go.Proofs.YtdgdojlhncbggaaDoor.rightB b m) Bool.true
              (Go.Ev.PT.test (Decidable.decide (n ≤ m))
                (Go.Ev.PT.need (Decidable.decide (n ≤ m)) Bool.true
                  (Go.Ev.PT.need (Decidable.decide (n ≤ m)) Bool.true
                    (Go.Ev.PT.need (Decidable.decide (n ≤ m)) Bool.true
                      (Go.Ev.PT.need (Go.Proofs.YtdgdojlhncbggaaDoor.inU a && Go.Proofs.YtdgdojlhncbggaaDoor.inU b)
                        Bool.true
                        (Go.Ev.PT.need (Decidable.decide (n ≤ m)) Bool.true
                          (Go.Ev.PT.leaf (Go.Value.bool (Go.Proofs.YtdgdojlhncbggaaDoor.hasB a n b))))))))
                (Go.Ev.PT.need (Decidable.decide (n ≤ m)) Bool.false
                  (Go.Ev.PT.need (Decidable.decide (n ≤ m)) Bool.false
                    (Go.Ev.PT.need (Decidable.decide (n ≤ m)) Bool.false
                      (Go.Ev.PT.need (Decidable.decide (n ≤ m)) Bool.false
                        (Go.Ev.PT.leaf (Go.Value.bool Bool.false))))))))))))
    (Go.Ev.PT.need (Go.Proofs.YtdgdojlhncbggaaDoor.rightB b m) Bool.false
      (Go.Ev.PT.need (Go.Proofs.YtdgdojlhncbggaaDoor.rightB b m) Bool.false
        (Go.Ev.PT.need (Go.Proofs.YtdgdojlhncbggaaDoor.rightB b m) Bool.false
          (Go.Ev.PT.need (Go.Proofs.YtdgdojlhncbggaaDoor.rightB b m) Bool.false
            (Go.Ev.PT.need (Go.Proofs.YtdgdojlhncbggaaDoor.rightB b m) Bool.false
              (Go.Ev.PT.reck 4 (Go.Ev.PT.leaf (Go.Value.bool Bool.false)))))))))
def rcoversT (a : Int) (n : Int) (b : Int) (m : Int) : Go.Ev.PT :=
  Go.Ev.PT.need (Go.Proofs.YtdgdojlhncbggaaDoor.inU b) Bool.true
  (Go.Ev.PT.test (Go.Proofs.YtdgdojlhncbggaaDoor.rightB b m)
    (Go.Ev.PT.need (Go.Proofs.YtdgdojlhncbggaaDoor.rightB b m) Bool.true
      (Go.Ev.PT.need (Go.Proofs.YtdgdojlhncbggaaDoor.rightB b m) Bool.true
        (Go.Ev.PT.need (Go.Proofs.YtdgdojlhncbggaaDoor.rightB b m) Bool.true
          (Go.Ev.PT.need (Go.Proofs.YtdgdojlhncbggaaDoor.rightB b m) Bool.true
            (Go.Ev.PT.need (Go.Proofs.YtdgdojlhncbggaaDoor.rightB b m) Bool.true
              (Go.Ev.PT.test (Decidable.decide (n ≤ m))
                (Go.Ev.PT.need (Decidable.decide (n ≤ m)) Bool.true
                  (Go.Ev.PT.need (Decidable.decide (n ≤ m)) Bool.true
                    (Go.Ev.PT.need (Decidable.decide (n ≤ m)) Bool.true
                      (Go.Ev.PT.need (Go.Proofs.YtdgdojlhncbggaaDoor.inU a && Go.Proofs.YtdgdojlhncbggaaDoor.inU b)
                        Bool.true
                        (Go.Ev.PT.need (Decidable.decide (n ≤ m)) Bool.true
                          (Go.Ev.PT.leaf (Go.Value.bool (Go.Proofs.YtdgdojlhncbggaaDoor.hasB a n b))))))))
                (Go.Ev.PT.need (Decidable.decide (n ≤ m)) Bool.false
                  (Go.Ev.PT.need (Decidable.decide (n ≤ m)) Bool.false
                    (Go.Ev.PT.need (Decidable.decide (n ≤ m)) Bool.false
                      (Go.Ev.PT.need (Decidable.decide (n ≤ m)) Bool.false
                        (Go.Ev.PT.leaf (Go.Value.bool Bool.false))))))))))))
    (Go.Ev.PT.need (Go.Proofs.YtdgdojlhncbggaaDoor.rightB b m) Bool.false
      (Go.Ev.PT.need (Go.Proofs.YtdgdojlhncbggaaDoor.rightB b m) Bool.false
        (Go.Ev.PT.need (Go.Proofs.YtdgdojlhncbggaaDoor.rightB b m) Bool.false
          (Go.Ev.PT.need (Go.Proofs.YtdgdojlhncbggaaDoor.rightB b m) Bool.false
            (Go.Ev.PT.need (Go.Proofs.YtdgdojlhncbggaaDoor.rightB b m) Bool.false
              (Go.Ev.PT.reck 4 (Go.Ev.PT.leaf (Go.Value.bool Bool.false)))))))))
def upT (a : Int) (n : Int) : Go.Ev.PT :=
  Go.Ev.PT.need (Go.Proofs.YtdgdojlhncbggaaDoor.inU a) Bool.true
  (Go.Ev.PT.test (!Go.Proofs.YtdgdojlhncbggaaDoor.rightB a n)
    (Go.Ev.PT.need (!Go.Proofs.YtdgdojlhncbggaaDoor.rightB a n) Bool.true
      (Go.Ev.PT.need (!Go.Proofs.YtdgdojlhncbggaaDoor.rightB a n) Bool.true
        (Go.Ev.PT.need (!Go.Proofs.YtdgdojlhncbggaaDoor.rightB a n) Bool.true
          (Go.Ev.PT.reck 1
            (Go.Ev.PT.leaf
              (Go.Value.tuple
                #[Go.Value.agg #[Go.Value.int Go.IntKind.u32 (Int.ofNat 0), Go.Value.int Go.IntKind.i64 (Int.ofNat 0)],
                  Go.Value.bool Bool.false]))))))
    (Go.Ev.PT.need (!Go.Proofs.YtdgdojlhncbggaaDoor.rightB a n) Bool.false
      (Go.Ev.PT.need (!Go.Proofs.YtdgdojlhncbggaaDoor.rightB a n) Bool.false
        (Go.Ev.PT.need (!Go.Proofs.YtdgdojlhncbggaaDoor.rightB a n) Bool.false
          (Go.Ev.PT.test (Decidable.decide (n = 0))
            (Go.Ev.PT.reck 0
              (Go.Ev.PT.leaf
                (Go.Value.tuple
                  #[Go.Value.agg
                      #[Go.Value.int Go.IntKind.u32 (Int.ofNat 0), Go.Value.int Go.IntKind.i64 (Int.ofNat 0)],
                    Go.Value.bool Bool.false])))
            (Go.Ev.PT.need (Go.Proofs.YtdgdojlhncbggaaDoor.inU a) Bool.true
              (Go.Ev.PT.reck 0
                (Go.Ev.PT.leaf
                  (Go.Value.tuple
                    #[Go.Value.agg
                        #[Go.Value.int Go.IntKind.u32
                            (↑(a.toNat &&&
                                  Go.Proofs.YtdgdojlhncbggaaDoor.maskN
                                    (Go.Proofs.YtdgdojlhncbggaaDoor.clN (Go.Ev.wrapF Go.IntKind.i64 (n - 1)))) :
                              Int),
                          Go.Value.int Go.IntKind.i64
                            (Go.Proofs.YtdgdojlhncbggaaDoor.clN (Go.Ev.wrapF Go.IntKind.i64 (n - 1)))],
                      Go.Value.bool Bool.true])))))))))
def rupT (a : Int) (n : Int) : Go.Ev.PT :=
  Go.Ev.PT.need (Go.Proofs.YtdgdojlhncbggaaDoor.inU a) Bool.true
  (Go.Ev.PT.test (!Go.Proofs.YtdgdojlhncbggaaDoor.rightB a n)
    (Go.Ev.PT.need (!Go.Proofs.YtdgdojlhncbggaaDoor.rightB a n) Bool.true
      (Go.Ev.PT.need (!Go.Proofs.YtdgdojlhncbggaaDoor.rightB a n) Bool.true
        (Go.Ev.PT.need (!Go.Proofs.YtdgdojlhncbggaaDoor.rightB a n) Bool.true
          (Go.Ev.PT.reck 1
            (Go.Ev.PT.leaf
              (Go.Value.tuple
                #[Go.Value.agg #[Go.Value.int Go.IntKind.u32 (Int.ofNat 0), Go.Value.int Go.IntKind.i64 (Int.ofNat 0)],
                  Go.Value.bool Bool.false]))))))
    (Go.Ev.PT.need (!Go.Proofs.YtdgdojlhncbggaaDoor.rightB a n) Bool.false
      (Go.Ev.PT.need (!Go.Proofs.YtdgdojlhncbggaaDoor.rightB a n) Bool.false
        (Go.Ev.PT.need (!Go.Proofs.YtdgdojlhncbggaaDoor.rightB a n) Bool.false
          (Go.Ev.PT.test (Decidable.decide (n = 0))
            (Go.Ev.PT.reck 0
              (Go.Ev.PT.leaf
                (Go.Value.tuple
                  #[Go.Value.agg
                      #[Go.Value.int Go.IntKind.u32 (Int.ofNat 0), Go.Value.int Go.IntKind.i64 (Int.ofNat 0)],
                    Go.Value.bool Bool.false])))
            (Go.Ev.PT.need (Go.Proofs.YtdgdojlhncbggaaDoor.inU a) Bool.true
              (Go.Ev.PT.reck 0
                (Go.Ev.PT.leaf
                  (Go.Value.tuple
                    #[Go.Value.agg
                        #[Go.Value.int Go.IntKind.u32
                            (↑(a.toNat &&&
                                  Go.Proofs.YtdgdojlhncbggaaDoor.maskN
                                    (Go.Proofs.YtdgdojlhncbggaaDoor.clN (Go.Ev.wrapF Go.IntKind.i64 (n - 1)))) :
                              Int),
                          Go.Value.int Go.IntKind.i64
                            (Go.Proofs.YtdgdojlhncbggaaDoor.clN (Go.Ev.wrapF Go.IntKind.i64 (n - 1)))],
                      Go.Value.bool Bool.true])))))))))
def halfT (a : Int) (n : Int) (h : Bool) : Go.Ev.PT :=
  Go.Ev.PT.need (Go.Proofs.YtdgdojlhncbggaaDoor.inU a) Bool.true
  (Go.Ev.PT.test (!Go.Proofs.YtdgdojlhncbggaaDoor.rightB a n)
    (Go.Ev.PT.need (!Go.Proofs.YtdgdojlhncbggaaDoor.rightB a n) Bool.true
      (Go.Ev.PT.need (!Go.Proofs.YtdgdojlhncbggaaDoor.rightB a n) Bool.true
        (Go.Ev.PT.need (!Go.Proofs.YtdgdojlhncbggaaDoor.rightB a n) Bool.true
          (Go.Ev.PT.reck 1
            (Go.Ev.PT.leaf
              (Go.Value.tuple
                #[Go.Value.agg #[Go.Value.int Go.IntKind.u32 (Int.ofNat 0), Go.Value.int Go.IntKind.i64 (Int.ofNat 0)],
                  Go.Value.bool Bool.false]))))))
    (Go.Ev.PT.need (!Go.Proofs.YtdgdojlhncbggaaDoor.rightB a n) Bool.false
      (Go.Ev.PT.need (!Go.Proofs.YtdgdojlhncbggaaDoor.rightB a n) Bool.false
        (Go.Ev.PT.need (!Go.Proofs.YtdgdojlhncbggaaDoor.rightB a n) Bool.false
          (Go.Ev.PT.test (Decidable.decide (n = 32))
            (Go.Ev.PT.reck 0
              (Go.Ev.PT.leaf
                (Go.Value.tuple
                  #[Go.Value.agg
                      #[Go.Value.int Go.IntKind.u32 (Int.ofNat 0), Go.Value.int Go.IntKind.i64 (Int.ofNat 0)],
                    Go.Value.bool Bool.false])))
            (Go.Ev.PT.reck 0
              (Go.Ev.PT.test h
                (Go.Ev.PT.need
                  (Go.Ev.fitsU Go.IntKind.u32
                      (↑(Go.Proofs.YtdgdojlhncbggaaDoor.maskN (Go.Ev.wrapF Go.IntKind.i64 (n + 1))) : Int) &&
                    Go.Ev.fitsU Go.IntKind.u32 (↑(Go.Proofs.YtdgdojlhncbggaaDoor.maskN n) : Int))
                  Bool.true
                  (Go.Ev.PT.need
                    (Go.Ev.fitsU Go.IntKind.u32 a &&
                      Go.Ev.fitsU Go.IntKind.u32
                        (↑((↑(Go.Proofs.YtdgdojlhncbggaaDoor.maskN (Go.Ev.wrapF Go.IntKind.i64 (n + 1))) :
                                  Int).toNat ^^^
                              (↑(Go.Proofs.YtdgdojlhncbggaaDoor.maskN (Go.Ev.wrapF Go.IntKind.i64 (n + 1))) :
                                    Int).toNat &&&
                                (↑(Go.Proofs.YtdgdojlhncbggaaDoor.maskN n) : Int).toNat) :
                          Int))
                    Bool.true
                    (Go.Ev.PT.reck 1
                      (Go.Ev.PT.leaf
                        (Go.Value.tuple
                          #[Go.Value.agg
                              #[Go.Value.int Go.IntKind.u32
                                  (↑(a.toNat |||
                                        (↑((↑(Go.Proofs.YtdgdojlhncbggaaDoor.maskN
                                                        (Go.Ev.wrapF Go.IntKind.i64 (n + 1))) :
                                                    Int).toNat ^^^
                                                (↑(Go.Proofs.YtdgdojlhncbggaaDoor.maskN
                                                          (Go.Ev.wrapF Go.IntKind.i64 (n + 1))) :
                                                      Int).toNat &&&
                                                  (↑(Go.Proofs.YtdgdojlhncbggaaDoor.maskN n) : Int).toNat) :
                                            Int).toNat) :
                                    Int),
                                Go.Value.int Go.IntKind.i64 (Go.Ev.wrapF Go.IntKind.i64 (n + 1))],
                            Go.Value.bool Bool.true])))))
                (Go.Ev.PT.reck 0
                  (Go.Ev.PT.leaf
                    (Go.Value.tuple
                      #[Go.Value.agg
                          #[Go.Value.int Go.IntKind.u32 a,
                            Go.Value.int Go.IntKind.i64 (Go.Ev.wrapF Go.IntKind.i64 (n + 1))],
                        Go.Value.bool Bool.true]))))))))))
def rhalfT (a : Int) (n : Int) (h : Bool) : Go.Ev.PT :=
  Go.Ev.PT.need (Go.Proofs.YtdgdojlhncbggaaDoor.inU a) Bool.true
  (Go.Ev.PT.test (!Go.Proofs.YtdgdojlhncbggaaDoor.rightB a n)
    (Go.Ev.PT.need (!Go.Proofs.YtdgdojlhncbggaaDoor.rightB a n) Bool.true
      (Go.Ev.PT.need (!Go.Proofs.YtdgdojlhncbggaaDoor.rightB a n) Bool.true
        (Go.Ev.PT.need (!Go.Proofs.YtdgdojlhncbggaaDoor.rightB a n) Bool.true
          (Go.Ev.PT.reck 1
            (Go.Ev.PT.leaf
              (Go.Value.tuple
                #[Go.Value.agg #[Go.Value.int Go.IntKind.u32 (Int.ofNat 0), Go.Value.int Go.IntKind.i64 (Int.ofNat 0)],
                  Go.Value.bool Bool.false]))))))
    (Go.Ev.PT.need (!Go.Proofs.YtdgdojlhncbggaaDoor.rightB a n) Bool.false
      (Go.Ev.PT.need (!Go.Proofs.YtdgdojlhncbggaaDoor.rightB a n) Bool.false
        (Go.Ev.PT.need (!Go.Proofs.YtdgdojlhncbggaaDoor.rightB a n) Bool.false
          (Go.Ev.PT.test (Decidable.decide (n = 32))
            (Go.Ev.PT.reck 0
              (Go.Ev.PT.leaf
                (Go.Value.tuple
                  #[Go.Value.agg
                      #[Go.Value.int Go.IntKind.u32 (Int.ofNat 0), Go.Value.int Go.IntKind.i64 (Int.ofNat 0)],
                    Go.Value.bool Bool.false])))
            (Go.Ev.PT.reck 0
              (Go.Ev.PT.test h
                (Go.Ev.PT.need
                  (Decidable.decide
                    (0 ≤
                      Go.Ev.wrapF Go.IntKind.u64
                        (Go.Ev.wrapF Go.IntKind.i64 (32 - Go.Ev.wrapF Go.IntKind.i64 (n + 1)))))
                  Bool.true
                  (Go.Ev.PT.need
                    (Go.Ev.fitsU Go.IntKind.u32 a &&
                      Go.Ev.fitsU Go.IntKind.u32
                        (Go.Ev.wrapF Go.IntKind.u32
                          (1 *
                            (↑(2 ^
                                  Min.min
                                    (Go.Ev.wrapF Go.IntKind.u64
                                        (Go.Ev.wrapF Go.IntKind.i64 (32 - Go.Ev.wrapF Go.IntKind.i64 (n + 1)))).toNat
                                    (Go.Ev.bitsF Go.IntKind.u32)) :
                              Int))))
                    Bool.true
                    (Go.Ev.PT.reck 1
                      (Go.Ev.PT.leaf
                        (Go.Value.tuple
                          #[Go.Value.agg
                              #[Go.Value.int Go.IntKind.u32
                                  (↑(a.toNat |||
                                        (Go.Ev.wrapF Go.IntKind.u32
                                            (1 *
                                              (↑(2 ^
                                                    Min.min
                                                      (Go.Ev.wrapF Go.IntKind.u64
                                                          (Go.Ev.wrapF Go.IntKind.i64
                                                            (32 - Go.Ev.wrapF Go.IntKind.i64 (n + 1)))).toNat
                                                      (Go.Ev.bitsF Go.IntKind.u32)) :
                                                Int))).toNat) :
                                    Int),
                                Go.Value.int Go.IntKind.i64 (Go.Ev.wrapF Go.IntKind.i64 (n + 1))],
                            Go.Value.bool Bool.true])))))
                (Go.Ev.PT.reck 0
                  (Go.Ev.PT.leaf
                    (Go.Value.tuple
                      #[Go.Value.agg
                          #[Go.Value.int Go.IntKind.u32 a,
                            Go.Value.int Go.IntKind.i64 (Go.Ev.wrapF Go.IntKind.i64 (n + 1))],
                        Go.Value.bool Bool.true]))))))))))
def anyT (a : Int) (n : Int) : Go.Ev.PT :=
  Go.Ev.PT.reck 0
  (Go.Ev.PT.test (Decidable.decide (n.tmod (Go.Ev.wrapF Go.IntKind.i64 (Go.Ev.wrapF Go.IntKind.i64 (32 - 0) + 1)) < 0))
    (Go.Ev.PT.need (Go.Proofs.YtdgdojlhncbggaaDoor.inU a) Bool.true
      (Go.Ev.PT.reck 0
        (Go.Ev.PT.leaf
          (Go.Value.agg
            #[Go.Value.int Go.IntKind.u32
                (↑(a.toNat &&&
                      Go.Proofs.YtdgdojlhncbggaaDoor.maskN
                        (Go.Proofs.YtdgdojlhncbggaaDoor.clN
                          (Go.Ev.wrapF Go.IntKind.i64
                            (0 +
                              Go.Ev.wrapF Go.IntKind.i64
                                (Go.Ev.wrapF Go.IntKind.i64
                                    (Go.Ev.wrapF Go.IntKind.i64
                                        (n.tmod (Go.Ev.wrapF Go.IntKind.i64 (Go.Ev.wrapF Go.IntKind.i64 (32 - 0) + 1)) +
                                          32) -
                                      0) +
                                  1))))) :
                  Int),
              Go.Value.int Go.IntKind.i64
                (Go.Proofs.YtdgdojlhncbggaaDoor.clN
                  (Go.Ev.wrapF Go.IntKind.i64
                    (0 +
                      Go.Ev.wrapF Go.IntKind.i64
                        (Go.Ev.wrapF Go.IntKind.i64
                            (Go.Ev.wrapF Go.IntKind.i64
                                (n.tmod (Go.Ev.wrapF Go.IntKind.i64 (Go.Ev.wrapF Go.IntKind.i64 (32 - 0) + 1)) + 32) -
                              0) +
                          1))))]))))
    (Go.Ev.PT.need (Go.Proofs.YtdgdojlhncbggaaDoor.inU a) Bool.true
      (Go.Ev.PT.reck 0
        (Go.Ev.PT.leaf
          (Go.Value.agg
            #[Go.Value.int Go.IntKind.u32
                (↑(a.toNat &&&
                      Go.Proofs.YtdgdojlhncbggaaDoor.maskN
                        (Go.Proofs.YtdgdojlhncbggaaDoor.clN
                          (Go.Ev.wrapF Go.IntKind.i64
                            (0 + n.tmod (Go.Ev.wrapF Go.IntKind.i64 (Go.Ev.wrapF Go.IntKind.i64 (32 - 0) + 1)))))) :
                  Int),
              Go.Value.int Go.IntKind.i64
                (Go.Proofs.YtdgdojlhncbggaaDoor.clN
                  (Go.Ev.wrapF Go.IntKind.i64
                    (0 + n.tmod (Go.Ev.wrapF Go.IntKind.i64 (Go.Ev.wrapF Go.IntKind.i64 (32 - 0) + 1)))))])))))
theorem coversT_fits (a n b m : Int) : (coversT a n b m).Fits fun π => evRun Tryd.prog E2 60 25 [pfx a n, pfx b m] Tryd.prog.globals.size (some π) := by unfold PT.Fits; kernel_rfl
theorem rcoversT_fits (a n b m : Int) : (rcoversT a n b m).Fits fun π => evRun Tryd.prog E2 60 34 [pfx a n, pfx b m] Tryd.prog.globals.size (some π) := by unfold PT.Fits; kernel_rfl
theorem upT_fits (a n : Int) : (upT a n).Fits fun π => evRun Tryd.prog E2 60 21 [pfx a n] Tryd.prog.globals.size (some π) := by unfold PT.Fits; kernel_rfl
theorem rupT_fits (a n : Int) : (rupT a n).Fits fun π => evRun Tryd.prog E2 60 29 [pfx a n] Tryd.prog.globals.size (some π) := by unfold PT.Fits; kernel_rfl
theorem halfT_fits (a n : Int) (h : Bool) : (halfT a n h).Fits fun π => evRun Tryd.prog E2 60 20 [pfx a n, .bool h] Tryd.prog.globals.size (some π) := by unfold PT.Fits; kernel_rfl
theorem rhalfT_fits (a n : Int) (h : Bool) : (rhalfT a n h).Fits fun π => evRun Tryd.prog E2 60 30 [pfx a n, .bool h] Tryd.prog.globals.size (some π) := by unfold PT.Fits; kernel_rfl
theorem anyT_fits (a n : Int) : (anyT a n).Fits fun π => evRun Tryd.prog E2 60 19 [.int .u32 a, .int .i64 n] Tryd.prog.globals.size (some π) := by unfold PT.Fits; kernel_rfl

def meetLoop (a b x : Int) : Nat → Int → PT
  | 0, k => .need (fitsU .u32 a && fitsU .u32 b) true (.need (fitsU .u32 x && fitsU .u32 ((maskN k : Nat) : Int)) true (.need (!decide (((x.toNat &&& ((maskN k : Nat) : Int).toNat : Nat) : Int) = 0)) false
      (.need (inU a) true (.reck 0 (.leaf (pfx ((a.toNat &&& maskN (clN k) : Nat) : Int) (clN k)))))))
  | f + 1, k => .need (fitsU .u32 a && fitsU .u32 b) true (.need (fitsU .u32 x && fitsU .u32 ((maskN k : Nat) : Int)) true (.test (!decide (((x.toNat &&& ((maskN k : Nat) : Int).toNat : Nat) : Int) = 0))
      (meetLoop a b x f (wrapF .i64 (k - 1)))
      (.need (inU a) true (.reck 0 (.leaf (pfx ((a.toNat &&& maskN (clN k) : Nat) : Int) (clN k)))))))
def meetT (a n b m : Int) : PT :=
  .need (inU a) true (.test (!rightB a n)
    (.need (!rightB a n) true (.need (!rightB a n) true (.need (!rightB a n) true (.reck 1 (.leaf (pfx 0 0))))))
    (.need (!rightB a n) false (.need (inU b) true (.need (!rightB a n) false (.need (!rightB a n) false (.test (!rightB b m) (.reck 0 (.leaf (pfx 0 0)))
      (meetLoop a b ((a.toNat ^^^ b.toNat : Nat) : Int) 32 (if m < n then m else n))))))))
theorem meetT_fits (a n b m : Int) : (meetT a n b m).Fits fun π => evRun Tryd.prog E2 60 24 [pfx a n, pfx b m] Tryd.prog.globals.size (some π) := by unfold PT.Fits; kernel_rfl
theorem coversT_val (a n b m : Int) (h : asked (some (inU a && inU b))) : (coversT a n b m).val = some (.bool (coversB a n b m)) := by
  simp only [asked, Bool.and_eq_true] at h
  simp only [coversT, val_test, val_need, val_reck, val_leaf, h.1, h.2, coversB, Bool.and_self]
  cases hs : rightB b m <;> by_cases h1 : n ≤ m <;> simp [h1]
theorem rcoversT_val (a n b m : Int) (h : asked (some (inU a && inU b))) : (rcoversT a n b m).val = some (.bool (coversB a n b m)) := by
  simp only [asked, Bool.and_eq_true] at h
  simp only [rcoversT, val_test, val_need, val_reck, val_leaf, h.1, h.2, coversB, Bool.and_self]
  cases hs : rightB b m <;> by_cases h1 : n ≤ m <;> simp [h1]
theorem wrap_in {x : Int} (h1 : -9223372036854775808 ≤ x) (h2 : x ≤ 9223372036854775807) : wrapF .i64 x = x := by
  simp only [wrapF]; split <;> omega
theorem upT_val (a n : Int) (h : inU a = true) : (upT a n).val = some (upV a n) := by
  simp only [upT, val_test, val_need, val_reck, val_leaf, h, upV]
  cases hr : rightB a n
  · simp; rfl
  · obtain ⟨h1, h2, _⟩ := rightB_spec.1 hr
    by_cases h3 : n = 0
    · simp [h3]; rfl
    · have e1 : wrapF .i64 (n - 1) = n - 1 := wrap_in (by omega) (by omega)
      have e2 : clN (n - 1) = n - 1 := by simp only [clN]; repeat' split
                                          all_goals omega
      simp [h3, e1, e2, pfx]
theorem rupT_val (a n : Int) (h : inU a = true) : (rupT a n).val = some (upV a n) := by
  simp only [rupT, val_test, val_need, val_reck, val_leaf, h, upV]
  cases hr : rightB a n
  · simp; rfl
  · obtain ⟨h1, h2, _⟩ := rightB_spec.1 hr
    by_cases h3 : n = 0
    · simp [h3]; rfl
    · have e1 : wrapF .i64 (n - 1) = n - 1 := wrap_in (by omega) (by omega)
      have e2 : clN (n - 1) = n - 1 := by simp only [clN]; repeat' split
                                          all_goals omega
      simp [h3, e1, e2, pfx]
theorem half_arith : ∀ m : Fin 32, (((maskN (wrapF .i64 ((m.val : Int) + 1)) : Nat) : Int).toNat ^^^ ((maskN (wrapF .i64 ((m.val : Int) + 1)) : Nat) : Int).toNat &&& ((maskN (m.val : Int) : Nat) : Int).toNat) = 2 ^ (31 - (m.val : Int)).toNat ∧
    wrapF .u32 (1 * (↑(2 ^ Min.min (wrapF .u64 (wrapF .i64 (32 - wrapF .i64 ((m.val : Int) + 1)))).toNat (bitsF .u32)) : Int)) = ((2 ^ (31 - (m.val : Int)).toNat : Nat) : Int) ∧
    0 ≤ wrapF .u64 (wrapF .i64 (32 - wrapF .i64 ((m.val : Int) + 1))) ∧ 2 ^ (31 - (m.val : Int)).toNat ≤ 4294967295 := by decide +kernel
theorem halfT_val (a n : Int) (hi : Bool) (h : inU a = true) : (halfT a n hi).val = some (halfV a n hi) := by
  have hfa : fitsU .u32 a = true := by rw [fitsU_in]; exact h
  simp only [halfT, val_test, val_need, val_reck, val_leaf, h, halfV]
  cases hr : rightB a n
  · simp; rfl
  · obtain ⟨h1, h2, _⟩ := rightB_spec.1 hr
    by_cases h3 : n = 32
    · simp [h3]; rfl
    · obtain ⟨m, rfl⟩ : ∃ m : Nat, n = m := ⟨n.toNat, by omega⟩
      have a1 := (half_arith ⟨m, by omega⟩).1
      have a2 := (half_arith ⟨m, by omega⟩).2.1
      have a3 := (half_arith ⟨m, by omega⟩).2.2.1
      have a4 := (half_arith ⟨m, by omega⟩).2.2.2
      simp only at a1 a2 a3 a4
      have e1 : wrapF .i64 ((m : Int) + 1) = m + 1 := wrap_in (by omega) (by omega)
      have h4 : ¬ (m : Int) = 32 := h3
      have f1 : fitsU .u32 ((2 ^ (31 - (m : Int)).toNat : Nat) : Int) = true := by simp only [fitsU]; exact Nat.ble_eq_true_of_le a4
      cases hi
      · simp [h4, e1, pfx, halfA]
      · simp only [a1, f1, fitsU_mask, hfa, Bool.and_self, if_true, halfA]
        simp only [Int.toNat_natCast, e1]
        simp [h4, pfx]
theorem rhalfT_val (a n : Int) (hi : Bool) (h : inU a = true) : (rhalfT a n hi).val = some (halfV a n hi) := by
  have hfa : fitsU .u32 a = true := by rw [fitsU_in]; exact h
  simp only [rhalfT, val_test, val_need, val_reck, val_leaf, h, halfV]
  cases hr : rightB a n
  · simp; rfl
  · obtain ⟨h1, h2, _⟩ := rightB_spec.1 hr
    by_cases h3 : n = 32
    · simp [h3]; rfl
    · obtain ⟨m, rfl⟩ : ∃ m : Nat, n = m := ⟨n.toNat, by omega⟩
      have a1 := (half_arith ⟨m, by omega⟩).1
      have a2 := (half_arith ⟨m, by omega⟩).2.1
      have a3 := (half_arith ⟨m, by omega⟩).2.2.1
      have a4 := (half_arith ⟨m, by omega⟩).2.2.2
      simp only at a1 a2 a3 a4
      have e1 : wrapF .i64 ((m : Int) + 1) = m + 1 := wrap_in (by omega) (by omega)
      have h4 : ¬ (m : Int) = 32 := h3
      have f1 : fitsU .u32 ((2 ^ (31 - (m : Int)).toNat : Nat) : Int) = true := by simp only [fitsU]; exact Nat.ble_eq_true_of_le a4
      cases hi
      · simp [h4, e1, pfx, halfA]
      · simp only [a2, a3, decide_true, f1, fitsU_mask, hfa, Bool.and_self, if_true, halfA]
        simp only [Int.toNat_natCast, e1]
        simp [h4, pfx]
theorem any_mod : wrapF .i64 (wrapF .i64 (32 - 0) + 1) = 33 := by decide
theorem anyT_val (a n : Int) (h : inU a = true) : (anyT a n).val = some (anyV a n) := by
  simp only [anyT, val_test, val_need, val_reck, val_leaf, h, anyV, any_mod, decide_eq_true_eq, pfx]
  have h33 : n.tmod 33 = n % 33 ∨ n.tmod 33 = n % 33 - 33 := by
    rw [Int.tmod_eq_emod]
    by_cases hd : 0 ≤ n ∨ (33 : Int) ∣ n
    · left; rw [if_pos hd]; simp
    · right; rw [if_neg hd]; rfl
  have b1 := Int.emod_nonneg n (show (33 : Int) ≠ 0 by decide)
  have b2 := Int.emod_lt_of_pos n (show (0 : Int) < 33 by decide)
  have cl : ∀ k : Int, 0 ≤ k → k ≤ 32 → clN k = k := by intro k k1 k2; simp only [clN]; repeat' split
                                                        all_goals omega
  rcases h33 with e | e
  · rw [e, if_neg (by omega)]
    rw [show wrapF .i64 (0 + n % 33) = n % 33 by rw [wrap_in] <;> omega, cl _ (by omega) (by omega)]
    simp
  · rw [e, if_pos (by omega)]
    rw [show wrapF .i64 (n % 33 - 33 + 32) = n % 33 - 1 by rw [wrap_in] <;> omega, show wrapF .i64 (n % 33 - 1 - 0) = n % 33 - 1 by rw [wrap_in] <;> omega, show wrapF .i64 (n % 33 - 1 + 1) = n % 33 by rw [wrap_in] <;> omega, show wrapF .i64 (0 + n % 33) = n % 33 by rw [wrap_in] <;> omega, cl _ (by omega) (by omega)]
    simp
theorem clN_nat {k : Nat} (h : k ≤ 32) : clN (k : Int) = k := by
  simp only [clN]; repeat' split
  all_goals omega
theorem cast_zero (n : Nat) : decide (((n : Nat) : Int) = 0) = decide (n = 0) := by
  rw [Bool.eq_iff_iff]; simp
theorem meetLoop_val (a b : Int) (ha : inU a = true) (hb : inU b = true) (X : Nat) (hX : X ≤ 4294967295) : ∀ (f k : Nat), k ≤ f → k ≤ 32 →
    (meetLoop a b ((X : Nat) : Int) f ((k : Nat) : Int)).val = some (pfx ((a.toNat &&& maskN ((meetK X k : Nat) : Int) : Nat) : Int) (meetK X k : Nat)) := by
  have hx : fitsU .u32 ((X : Nat) : Int) = true := by simp only [fitsU]; exact Nat.ble_eq_true_of_le hX
  have hfa : fitsU .u32 a = true := by rw [fitsU_in]; exact ha
  have hfb : fitsU .u32 b = true := by rw [fitsU_in]; exact hb
  intro f
  induction f with
  | zero =>
    intro k hk _
    obtain rfl : k = 0 := by omega
    have h0 : maskN ((0 : Nat) : Int) = 0 := by decide
    simp only [meetLoop, val_need, val_reck, val_leaf, hfa, hfb, ha, hx, fitsU_mask, Int.toNat_natCast, cast_zero, h0, Nat.and_zero, show fitsU .u32 ((0 : Nat) : Int) = true by decide, meetK, Bool.and_self, if_true, decide_true, Bool.not_true, show clN ((0 : Nat) : Int) = ((0 : Nat) : Int) by decide]
  | succ f ih =>
    intro k hk h32
    simp only [meetLoop, val_need, val_test, val_reck, val_leaf, fitsU_mask, hfa, hfb, ha, hx, Bool.and_self, if_true, Int.toNat_natCast, cast_zero]
    cases k with
    | zero =>
      have h0 : maskN ((0 : Nat) : Int) = 0 := by decide
      simp only [h0, Nat.and_zero, meetK, decide_true, Bool.not_true, Bool.false_eq_true, if_false, show clN ((0 : Nat) : Int) = ((0 : Nat) : Int) by decide]
    | succ k =>
      simp only [meetK]
      by_cases h0 : X &&& maskN ((k + 1 : Nat) : Int) = 0
      · simp only [h0, decide_true, Bool.not_true, Bool.false_eq_true, if_false, if_true, clN_nat h32]
      · have e : wrapF .i64 (((k + 1 : Nat) : Int) - 1) = ((k : Nat) : Int) := by rw [wrap_in (by omega) (by omega)]; omega
        simp only [h0, decide_false, Bool.not_false, if_true, if_false, e]
        exact ih k (by omega) (by omega)
theorem xor_le {a b : Nat} (ha : a ≤ 4294967295) (hb : b ≤ 4294967295) : a ^^^ b ≤ 4294967295 := by
  have := Nat.xor_lt_two_pow (n := 32) (show a < 2 ^ 32 by omega) (show b < 2 ^ 32 by omega)
  omega
theorem meetT_val (a n b m : Int) (h : asked (some (inU a && inU b))) : (meetT a n b m).val = some (meetV a n b m) := by
  simp only [asked, Bool.and_eq_true] at h
  obtain ⟨ha, hb⟩ := h
  simp only [meetT, val_test, val_need, val_reck, val_leaf, ha, hb, meetV]
  cases hr : rightB a n
  · simp
  · cases hs : rightB b m
    · simp
    · obtain ⟨h1, h2, _⟩ := rightB_spec.1 hr
      obtain ⟨h3, h4, _⟩ := rightB_spec.1 hs
      have e : (if m < n then m else n) = (((min n m).toNat : Nat) : Int) := by
        rw [Int.min_def]; split <;> split <;> omega
      have := meetLoop_val a b ha hb (a.toNat ^^^ b.toNat) (xor_le (by have := inU_spec.1 ha; omega) (by have := inU_spec.1 hb; omega)) 32 (min n m).toNat (by omega) (by omega)
      rw [e]
      simp only [Bool.not_true, Bool.false_eq_true, if_false, if_true, Bool.and_self, Bool.not_false]
      exact this
theorem covers_sum : PureSum Tryd.prog 25 coversG := .of_tree E2_sound good Tryd.func25 (by kernel_rfl) rfl fun args p v h hp ha => by
  obtain ⟨a, n, b, m, rfl, rfl, rfl⟩ := on2_args h
  exact ⟨by first | rfl | (unfold meetV; split <;> rfl), _, coversT_fits a n b m, coversT_val a n b m hp⟩
theorem rcovers_sum : PureSum Tryd.prog 34 coversG := .of_tree E2_sound good Tryd.func34 (by kernel_rfl) rfl fun args p v h hp ha => by
  obtain ⟨a, n, b, m, rfl, rfl, rfl⟩ := on2_args h
  exact ⟨by first | rfl | (unfold meetV; split <;> rfl), _, rcoversT_fits a n b m, rcoversT_val a n b m hp⟩
theorem meet_sum : PureSum Tryd.prog 24 meetG := .of_tree E2_sound good Tryd.func24 (by kernel_rfl) rfl fun args p v h hp ha => by
  obtain ⟨a, n, b, m, rfl, rfl, rfl⟩ := on2_args h
  exact ⟨by first | rfl | (unfold meetV; split <;> rfl), _, meetT_fits a n b m, meetT_val a n b m hp⟩
theorem up_sum : PureSum Tryd.prog 21 upG := .of_tree E2_sound good Tryd.func21 (by kernel_rfl) rfl fun args p v h hp ha => by
  obtain ⟨a, n, rfl, rfl, rfl⟩ := on1_args h
  exact ⟨by unfold upV; split <;> rfl, _, upT_fits a n, upT_val a n hp⟩
theorem rup_sum : PureSum Tryd.prog 29 upG := .of_tree E2_sound good Tryd.func29 (by kernel_rfl) rfl fun args p v h hp ha => by
  obtain ⟨a, n, rfl, rfl, rfl⟩ := on1_args h
  exact ⟨by unfold upV; split <;> rfl, _, rupT_fits a n, rupT_val a n hp⟩
theorem half_sum : PureSum Tryd.prog 20 halfG := .of_tree E2_sound good Tryd.func20 (by kernel_rfl) rfl fun args p v h hp ha => by
  obtain ⟨a, n, hi, rfl, rfl, rfl⟩ := halfG_args h
  exact ⟨by unfold halfV; split <;> rfl, _, halfT_fits a n hi, halfT_val a n hi hp⟩
theorem rhalf_sum : PureSum Tryd.prog 30 halfG := .of_tree E2_sound good Tryd.func30 (by kernel_rfl) rfl fun args p v h hp ha => by
  obtain ⟨a, n, hi, rfl, rfl, rfl⟩ := halfG_args h
  exact ⟨by unfold halfV; split <;> rfl, _, rhalfT_fits a n hi, rhalfT_val a n hi hp⟩
theorem any_sum : PureSum Tryd.prog 19 anyG := .of_tree E2_sound good Tryd.func19 (by kernel_rfl) rfl fun args p v h hp ha => by
  obtain ⟨a, n, rfl, rfl, rfl⟩ := anyG_args h
  exact ⟨rfl, _, anyT_fits a n, anyT_val a n hp⟩
end Go.Proofs.YtdgdojlhncbggaaDoor
