/- P1.1: halves part a prefix; what is above covers it; what meets covers both, and nothing longer does. -/
import Derived.Test.YtdgdojlhncbggaaDoorSc
namespace Go.Proofs.YtdgdojlhncbggaaDoor
open Go Go.Ev Go.RowKit
set_option maxRecDepth 100000
/-- So many times the same. -/
def needs : Nat → Bool → Bool → PT → PT
  | 0, _, _, t => t
  | k + 1, b, d, t => .need b d (needs k b d t)
theorem val_needs (k : Nat) (b d : Bool) (t : PT) : (needs (k + 1) b d t).val = if b = d then t.val else none := by
  induction k with
  | zero => simp only [needs, PT.val_need]
  | succ k ih =>
    rw [needs, PT.val_need, ih]
    by_cases h : b = d
    · rw [if_pos h]
    · rw [if_neg h, if_neg h]
def rulesT (a : Int) (b : Int) (n : Int) (m : Int) (pa : Int) (pn : Int) (qa : Int) (qn : Int) (la : Int) (ln : Int) (ha : Int) (hn : Int) (ok : Bool) (is : Bool) : PT := (needs 4 (!ok == decide (pn < 32)) false (needs 1 (!is == ok) false (PT.test ok (needs 1 (inU la) true (PT.reck 0 (needs 1 (inU ha) true (PT.reck 0 (needs 3 (!upB la ln) false (needs 4 (!upB ha hn) false (needs 4 (!(upA la ln == pa && (upN la ln == pn && true))) false (needs 3 (!(upA ha hn == pa && (upN ha hn == pn && true))) false (needs 1 (inU pa && inU la) true (needs 2 (!(upA ha hn == pa && (upN ha hn == pn && true))) false (needs 3 (!lessB pa pn la ln) false (needs 1 (inU la && inU ha) true (needs 2 (!lessB pa pn la ln) false (needs 3 (!lessB la ln ha hn) false (needs 1 (inU la && inU b) true (needs 1 (!lessB la ln ha hn) false (PT.test (hasB la ln b) (needs 2 (hasB la ln b) true (needs 1 (inU ha && inU b) true (needs 1 (!lessB la ln ha hn) false (needs 1 (hasB la ln b) true (needs 1 (!lessB la ln ha hn) false (needs 5 (hasB ha hn b) false (needs 1 (inU pa && inU b) true (needs 1 (hasB ha hn b) false (needs 1 (inU la && inU b) true (needs 1 (hasB ha hn b) false (needs 3 (hasB la ln b) true (needs 1 (hasB ha hn b) false (needs 1 (hasB la ln b) true (needs 2 (hasB ha hn b) false (needs 1 (!hasB pa pn b == true) false (needs 1 (inU pa && inU qa) true (PT.reck 0 (needs 1 (inU (meetA pa pn qa qn) && inU pa) true (needs 3 (!coversB (meetA pa pn qa qn) (meetN pa pn qa qn) pa pn) false (needs 1 (inU (meetA pa pn qa qn) && inU qa) true (needs 2 (!coversB (meetA pa pn qa qn) (meetN pa pn qa qn) pa pn) false (needs 4 (!coversB (meetA pa pn qa qn) (meetN pa pn qa qn) qa qn) false (needs 1 (inU qa && inU pa) true (needs 2 (!coversB (meetA pa pn qa qn) (meetN pa pn qa qn) qa qn) false (needs 3 (!(meetA pa pn qa qn == meetA qa qn pa pn && (meetN pa pn qa qn == meetN qa qn pa pn && true))) false (needs 1 (inU pa && inU qa) true (needs 5 (!(meetA pa pn qa qn == meetA qa qn pa pn && (meetN pa pn qa qn == meetN qa qn pa pn && true))) false (needs 1 (!coversB pa pn qa qn == (meetA pa pn qa qn == pa && (meetN pa pn qa qn == pn && true))) false (PT.reck 0 (needs 1 (inU (meetA pa pn qa qn)) true (PT.reck 0 (needs 3 (halfB (meetA pa pn qa qn) (meetN pa pn qa qn)) true (needs 1 (inU (halfA2 (meetA pa pn qa qn) (meetN pa pn qa qn) (decide (0 = 1))) && inU pa) true (needs 1 (halfB (meetA pa pn qa qn) (meetN pa pn qa qn)) true (PT.test (coversB (halfA2 (meetA pa pn qa qn) (meetN pa pn qa qn) (decide (0 = 1))) (halfN (meetA pa pn qa qn) (meetN pa pn qa qn)) pa pn) (needs 2 (coversB (halfA2 (meetA pa pn qa qn) (meetN pa pn qa qn) (decide (0 = 1))) (halfN (meetA pa pn qa qn) (meetN pa pn qa qn)) pa pn) true (needs 1 (inU (halfA2 (meetA pa pn qa qn) (meetN pa pn qa qn) (decide (0 = 1))) && inU qa) true (needs 1 (coversB (halfA2 (meetA pa pn qa qn) (meetN pa pn qa qn) (decide (0 = 1))) (halfN (meetA pa pn qa qn) (meetN pa pn qa qn)) pa pn) true (needs 1 (coversB (halfA2 (meetA pa pn qa qn) (meetN pa pn qa qn) (decide (0 = 1))) (halfN (meetA pa pn qa qn) (meetN pa pn qa qn)) qa qn) false (PT.reck 0 (needs 1 (inU (meetA pa pn qa qn)) true (PT.reck 0 (needs 3 (halfB (meetA pa pn qa qn) (meetN pa pn qa qn)) true (needs 1 (inU (halfA2 (meetA pa pn qa qn) (meetN pa pn qa qn) (decide (wrapF IntKind.i64 (0 + 1) = 1))) && inU pa) true (needs 1 (halfB (meetA pa pn qa qn) (meetN pa pn qa qn)) true (needs 4 (coversB (halfA2 (meetA pa pn qa qn) (meetN pa pn qa qn) (decide (wrapF IntKind.i64 (0 + 1) = 1))) (halfN (meetA pa pn qa qn) (meetN pa pn qa qn)) pa pn) false (PT.reck 1 (needs 1 (inU pa && inU qa) true (needs 3 (coversB pa pn qa qn) false (needs 1 (inU qa && inU pa) true (needs 1 (coversB pa pn qa qn) false (PT.test (coversB qa qn pa pn) (needs 7 (coversB qa qn pa pn) true (PT.reck 1 (PT.leaf (Value.bool true)))) (needs 3 (coversB qa qn pa pn) false (needs 1 (inU pa && inU qa) true (needs 1 (coversB qa qn pa pn) false (needs 4 (hasB pa pn qa) false (needs 1 (inU qa && inU pa) true (needs 1 (coversB qa qn pa pn) false (needs 1 (hasB pa pn qa) false (needs 2 (coversB qa qn pa pn) false (needs 2 (!hasB qa qn pa) true (PT.leaf (Value.bool true)))))))))))))))))))))))))))) (needs 3 (coversB (halfA2 (meetA pa pn qa qn) (meetN pa pn qa qn) (decide (0 = 1))) (halfN (meetA pa pn qa qn) (meetN pa pn qa qn)) pa pn) false (PT.reck 1 (needs 1 (inU (meetA pa pn qa qn)) true (PT.reck 0 (needs 3 (halfB (meetA pa pn qa qn) (meetN pa pn qa qn)) true (needs 1 (inU (halfA2 (meetA pa pn qa qn) (meetN pa pn qa qn) (decide (wrapF IntKind.i64 (0 + 1) = 1))) && inU pa) true (needs 1 (halfB (meetA pa pn qa qn) (meetN pa pn qa qn)) true (PT.test (coversB (halfA2 (meetA pa pn qa qn) (meetN pa pn qa qn) (decide (wrapF IntKind.i64 (0 + 1) = 1))) (halfN (meetA pa pn qa qn) (meetN pa pn qa qn)) pa pn) (needs 2 (coversB (halfA2 (meetA pa pn qa qn) (meetN pa pn qa qn) (decide (wrapF IntKind.i64 (0 + 1) = 1))) (halfN (meetA pa pn qa qn) (meetN pa pn qa qn)) pa pn) true (needs 1 (inU (halfA2 (meetA pa pn qa qn) (meetN pa pn qa qn) (decide (wrapF IntKind.i64 (0 + 1) = 1))) && inU qa) true (needs 1 (coversB (halfA2 (meetA pa pn qa qn) (meetN pa pn qa qn) (decide (wrapF IntKind.i64 (0 + 1) = 1))) (halfN (meetA pa pn qa qn) (meetN pa pn qa qn)) pa pn) true (needs 1 (coversB (halfA2 (meetA pa pn qa qn) (meetN pa pn qa qn) (decide (wrapF IntKind.i64 (0 + 1) = 1))) (halfN (meetA pa pn qa qn) (meetN pa pn qa qn)) qa qn) false (PT.reck 0 (needs 1 (inU pa && inU qa) true (needs 3 (coversB pa pn qa qn) false (needs 1 (inU qa && inU pa) true (needs 1 (coversB pa pn qa qn) false (PT.test (coversB qa qn pa pn) (needs 7 (coversB qa qn pa pn) true (PT.reck 1 (PT.leaf (Value.bool true)))) (needs 3 (coversB qa qn pa pn) false (needs 1 (inU pa && inU qa) true (needs 1 (coversB qa qn pa pn) false (needs 4 (hasB pa pn qa) false (needs 1 (inU qa && inU pa) true (needs 1 (coversB qa qn pa pn) false (needs 1 (hasB pa pn qa) false (needs 2 (coversB qa qn pa pn) false (needs 2 (!hasB qa qn pa) true (PT.leaf (Value.bool true))))))))))))))))))))) (needs 3 (coversB (halfA2 (meetA pa pn qa qn) (meetN pa pn qa qn) (decide (wrapF IntKind.i64 (0 + 1) = 1))) (halfN (meetA pa pn qa qn) (meetN pa pn qa qn)) pa pn) false (PT.reck 1 (needs 1 (inU pa && inU qa) true (needs 4 (coversB pa pn qa qn) true (PT.reck 9 (PT.leaf (Value.bool true)))))))))))))))))))))))))))))))))))))))))))))))))) (needs 2 (hasB la ln b) false (needs 1 (!lessB la ln ha hn) false (needs 1 (hasB la ln b) false (needs 1 (!lessB la ln ha hn) false (PT.reck 4 (needs 1 (inU pa && inU b) true (PT.reck 0 (needs 1 (inU la && inU b) true (PT.reck 0 (needs 3 (hasB la ln b) false (needs 1 (inU ha && inU b) true (PT.reck 0 (needs 1 (hasB la ln b) false (PT.reck 1 (needs 1 (!hasB pa pn b == hasB ha hn b) false (needs 1 (inU pa && inU qa) true (PT.reck 0 (needs 1 (inU (meetA pa pn qa qn) && inU pa) true (needs 3 (!coversB (meetA pa pn qa qn) (meetN pa pn qa qn) pa pn) false (needs 1 (inU (meetA pa pn qa qn) && inU qa) true (needs 2 (!coversB (meetA pa pn qa qn) (meetN pa pn qa qn) pa pn) false (needs 4 (!coversB (meetA pa pn qa qn) (meetN pa pn qa qn) qa qn) false (needs 1 (inU qa && inU pa) true (needs 2 (!coversB (meetA pa pn qa qn) (meetN pa pn qa qn) qa qn) false (needs 3 (!(meetA pa pn qa qn == meetA qa qn pa pn && (meetN pa pn qa qn == meetN qa qn pa pn && true))) false (needs 1 (inU pa && inU qa) true (needs 5 (!(meetA pa pn qa qn == meetA qa qn pa pn && (meetN pa pn qa qn == meetN qa qn pa pn && true))) false (needs 1 (!coversB pa pn qa qn == (meetA pa pn qa qn == pa && (meetN pa pn qa qn == pn && true))) false (PT.reck 0 (needs 1 (inU (meetA pa pn qa qn)) true (PT.reck 0 (needs 3 (halfB (meetA pa pn qa qn) (meetN pa pn qa qn)) true (needs 1 (inU (halfA2 (meetA pa pn qa qn) (meetN pa pn qa qn) (decide (0 = 1))) && inU pa) true (needs 1 (halfB (meetA pa pn qa qn) (meetN pa pn qa qn)) true (PT.test (coversB (halfA2 (meetA pa pn qa qn) (meetN pa pn qa qn) (decide (0 = 1))) (halfN (meetA pa pn qa qn) (meetN pa pn qa qn)) pa pn) (needs 2 (coversB (halfA2 (meetA pa pn qa qn) (meetN pa pn qa qn) (decide (0 = 1))) (halfN (meetA pa pn qa qn) (meetN pa pn qa qn)) pa pn) true (needs 1 (inU (halfA2 (meetA pa pn qa qn) (meetN pa pn qa qn) (decide (0 = 1))) && inU qa) true (needs 1 (coversB (halfA2 (meetA pa pn qa qn) (meetN pa pn qa qn) (decide (0 = 1))) (halfN (meetA pa pn qa qn) (meetN pa pn qa qn)) pa pn) true (needs 1 (coversB (halfA2 (meetA pa pn qa qn) (meetN pa pn qa qn) (decide (0 = 1))) (halfN (meetA pa pn qa qn) (meetN pa pn qa qn)) qa qn) false (PT.reck 0 (needs 1 (inU (meetA pa pn qa qn)) true (PT.reck 0 (needs 3 (halfB (meetA pa pn qa qn) (meetN pa pn qa qn)) true (needs 1 (inU (halfA2 (meetA pa pn qa qn) (meetN pa pn qa qn) (decide (wrapF IntKind.i64 (0 + 1) = 1))) && inU pa) true (needs 1 (halfB (meetA pa pn qa qn) (meetN pa pn qa qn)) true (needs 4 (coversB (halfA2 (meetA pa pn qa qn) (meetN pa pn qa qn) (decide (wrapF IntKind.i64 (0 + 1) = 1))) (halfN (meetA pa pn qa qn) (meetN pa pn qa qn)) pa pn) false (PT.reck 1 (needs 1 (inU pa && inU qa) true (needs 3 (coversB pa pn qa qn) false (needs 1 (inU qa && inU pa) true (needs 1 (coversB pa pn qa qn) false (PT.test (coversB qa qn pa pn) (needs 7 (coversB qa qn pa pn) true (PT.reck 1 (PT.leaf (Value.bool true)))) (needs 3 (coversB qa qn pa pn) false (needs 1 (inU pa && inU qa) true (needs 1 (coversB qa qn pa pn) false (needs 4 (hasB pa pn qa) false (needs 1 (inU qa && inU pa) true (needs 1 (coversB qa qn pa pn) false (needs 1 (hasB pa pn qa) false (needs 2 (coversB qa qn pa pn) false (needs 2 (!hasB qa qn pa) true (PT.leaf (Value.bool true)))))))))))))))))))))))))))) (needs 3 (coversB (halfA2 (meetA pa pn qa qn) (meetN pa pn qa qn) (decide (0 = 1))) (halfN (meetA pa pn qa qn) (meetN pa pn qa qn)) pa pn) false (PT.reck 1 (needs 1 (inU (meetA pa pn qa qn)) true (PT.reck 0 (needs 3 (halfB (meetA pa pn qa qn) (meetN pa pn qa qn)) true (needs 1 (inU (halfA2 (meetA pa pn qa qn) (meetN pa pn qa qn) (decide (wrapF IntKind.i64 (0 + 1) = 1))) && inU pa) true (needs 1 (halfB (meetA pa pn qa qn) (meetN pa pn qa qn)) true (PT.test (coversB (halfA2 (meetA pa pn qa qn) (meetN pa pn qa qn) (decide (wrapF IntKind.i64 (0 + 1) = 1))) (halfN (meetA pa pn qa qn) (meetN pa pn qa qn)) pa pn) (needs 2 (coversB (halfA2 (meetA pa pn qa qn) (meetN pa pn qa qn) (decide (wrapF IntKind.i64 (0 + 1) = 1))) (halfN (meetA pa pn qa qn) (meetN pa pn qa qn)) pa pn) true (needs 1 (inU (halfA2 (meetA pa pn qa qn) (meetN pa pn qa qn) (decide (wrapF IntKind.i64 (0 + 1) = 1))) && inU qa) true (needs 1 (coversB (halfA2 (meetA pa pn qa qn) (meetN pa pn qa qn) (decide (wrapF IntKind.i64 (0 + 1) = 1))) (halfN (meetA pa pn qa qn) (meetN pa pn qa qn)) pa pn) true (needs 1 (coversB (halfA2 (meetA pa pn qa qn) (meetN pa pn qa qn) (decide (wrapF IntKind.i64 (0 + 1) = 1))) (halfN (meetA pa pn qa qn) (meetN pa pn qa qn)) qa qn) false (PT.reck 0 (needs 1 (inU pa && inU qa) true (needs 3 (coversB pa pn qa qn) false (needs 1 (inU qa && inU pa) true (needs 1 (coversB pa pn qa qn) false (PT.test (coversB qa qn pa pn) (needs 7 (coversB qa qn pa pn) true (PT.reck 1 (PT.leaf (Value.bool true)))) (needs 3 (coversB qa qn pa pn) false (needs 1 (inU pa && inU qa) true (needs 1 (coversB qa qn pa pn) false (needs 4 (hasB pa pn qa) false (needs 1 (inU qa && inU pa) true (needs 1 (coversB qa qn pa pn) false (needs 1 (hasB pa pn qa) false (needs 2 (coversB qa qn pa pn) false (needs 2 (!hasB qa qn pa) true (PT.leaf (Value.bool true))))))))))))))))))))) (needs 3 (coversB (halfA2 (meetA pa pn qa qn) (meetN pa pn qa qn) (decide (wrapF IntKind.i64 (0 + 1) = 1))) (halfN (meetA pa pn qa qn) (meetN pa pn qa qn)) pa pn) false (PT.reck 1 (needs 1 (inU pa && inU qa) true (needs 4 (coversB pa pn qa qn) true (PT.reck 9 (PT.leaf (Value.bool true))))))))))))))))))))))))))))))))))))))))))))))))))))))))))))))))))) (needs 1 (inU pa && inU qa) true (PT.reck 0 (needs 1 (inU (meetA pa pn qa qn) && inU pa) true (needs 3 (!coversB (meetA pa pn qa qn) (meetN pa pn qa qn) pa pn) false (needs 1 (inU (meetA pa pn qa qn) && inU qa) true (needs 2 (!coversB (meetA pa pn qa qn) (meetN pa pn qa qn) pa pn) false (needs 4 (!coversB (meetA pa pn qa qn) (meetN pa pn qa qn) qa qn) false (needs 1 (inU qa && inU pa) true (needs 2 (!coversB (meetA pa pn qa qn) (meetN pa pn qa qn) qa qn) false (needs 3 (!(meetA pa pn qa qn == meetA qa qn pa pn && (meetN pa pn qa qn == meetN qa qn pa pn && true))) false (needs 1 (inU pa && inU qa) true (needs 5 (!(meetA pa pn qa qn == meetA qa qn pa pn && (meetN pa pn qa qn == meetN qa qn pa pn && true))) false (needs 1 (!coversB pa pn qa qn == (meetA pa pn qa qn == pa && (meetN pa pn qa qn == pn && true))) false (PT.reck 0 (needs 1 (inU (meetA pa pn qa qn)) true (PT.reck 0 (PT.test (halfB (meetA pa pn qa qn) (meetN pa pn qa qn)) (needs 2 (halfB (meetA pa pn qa qn) (meetN pa pn qa qn)) true (needs 1 (inU (halfA2 (meetA pa pn qa qn) (meetN pa pn qa qn) (decide (0 = 1))) && inU pa) true (needs 1 (halfB (meetA pa pn qa qn) (meetN pa pn qa qn)) true (PT.test (coversB (halfA2 (meetA pa pn qa qn) (meetN pa pn qa qn) (decide (0 = 1))) (halfN (meetA pa pn qa qn) (meetN pa pn qa qn)) pa pn) (needs 2 (coversB (halfA2 (meetA pa pn qa qn) (meetN pa pn qa qn) (decide (0 = 1))) (halfN (meetA pa pn qa qn) (meetN pa pn qa qn)) pa pn) true (needs 1 (inU (halfA2 (meetA pa pn qa qn) (meetN pa pn qa qn) (decide (0 = 1))) && inU qa) true (needs 1 (coversB (halfA2 (meetA pa pn qa qn) (meetN pa pn qa qn) (decide (0 = 1))) (halfN (meetA pa pn qa qn) (meetN pa pn qa qn)) pa pn) true (needs 1 (coversB (halfA2 (meetA pa pn qa qn) (meetN pa pn qa qn) (decide (0 = 1))) (halfN (meetA pa pn qa qn) (meetN pa pn qa qn)) qa qn) false (PT.reck 0 (needs 1 (inU (meetA pa pn qa qn)) true (PT.reck 0 (needs 3 (halfB (meetA pa pn qa qn) (meetN pa pn qa qn)) true (needs 1 (inU (halfA2 (meetA pa pn qa qn) (meetN pa pn qa qn) (decide (wrapF IntKind.i64 (0 + 1) = 1))) && inU pa) true (needs 1 (halfB (meetA pa pn qa qn) (meetN pa pn qa qn)) true (needs 4 (coversB (halfA2 (meetA pa pn qa qn) (meetN pa pn qa qn) (decide (wrapF IntKind.i64 (0 + 1) = 1))) (halfN (meetA pa pn qa qn) (meetN pa pn qa qn)) pa pn) false (PT.reck 1 (needs 1 (inU pa && inU qa) true (needs 3 (coversB pa pn qa qn) false (needs 1 (inU qa && inU pa) true (needs 1 (coversB pa pn qa qn) false (PT.test (coversB qa qn pa pn) (needs 7 (coversB qa qn pa pn) true (PT.reck 1 (PT.leaf (Value.bool true)))) (needs 3 (coversB qa qn pa pn) false (needs 1 (inU pa && inU qa) true (needs 1 (coversB qa qn pa pn) false (needs 4 (hasB pa pn qa) false (needs 1 (inU qa && inU pa) true (needs 1 (coversB qa qn pa pn) false (needs 1 (hasB pa pn qa) false (needs 2 (coversB qa qn pa pn) false (needs 2 (!hasB qa qn pa) true (PT.leaf (Value.bool true)))))))))))))))))))))))))))) (needs 3 (coversB (halfA2 (meetA pa pn qa qn) (meetN pa pn qa qn) (decide (0 = 1))) (halfN (meetA pa pn qa qn) (meetN pa pn qa qn)) pa pn) false (PT.reck 1 (needs 1 (inU (meetA pa pn qa qn)) true (PT.reck 0 (needs 3 (halfB (meetA pa pn qa qn) (meetN pa pn qa qn)) true (needs 1 (inU (halfA2 (meetA pa pn qa qn) (meetN pa pn qa qn) (decide (wrapF IntKind.i64 (0 + 1) = 1))) && inU pa) true (needs 1 (halfB (meetA pa pn qa qn) (meetN pa pn qa qn)) true (needs 3 (coversB (halfA2 (meetA pa pn qa qn) (meetN pa pn qa qn) (decide (wrapF IntKind.i64 (0 + 1) = 1))) (halfN (meetA pa pn qa qn) (meetN pa pn qa qn)) pa pn) true (needs 1 (inU (halfA2 (meetA pa pn qa qn) (meetN pa pn qa qn) (decide (wrapF IntKind.i64 (0 + 1) = 1))) && inU qa) true (needs 1 (coversB (halfA2 (meetA pa pn qa qn) (meetN pa pn qa qn) (decide (wrapF IntKind.i64 (0 + 1) = 1))) (halfN (meetA pa pn qa qn) (meetN pa pn qa qn)) pa pn) true (needs 1 (coversB (halfA2 (meetA pa pn qa qn) (meetN pa pn qa qn) (decide (wrapF IntKind.i64 (0 + 1) = 1))) (halfN (meetA pa pn qa qn) (meetN pa pn qa qn)) qa qn) false (PT.reck 0 (needs 1 (inU pa && inU qa) true (needs 3 (coversB pa pn qa qn) false (needs 1 (inU qa && inU pa) true (needs 1 (coversB pa pn qa qn) false (PT.test (coversB qa qn pa pn) (needs 7 (coversB qa qn pa pn) true (PT.reck 1 (PT.leaf (Value.bool true)))) (needs 3 (coversB qa qn pa pn) false (needs 1 (inU pa && inU qa) true (needs 1 (coversB qa qn pa pn) false (needs 4 (hasB pa pn qa) false (needs 1 (inU qa && inU pa) true (needs 1 (coversB qa qn pa pn) false (needs 1 (hasB pa pn qa) false (needs 2 (coversB qa qn pa pn) false (needs 2 (!hasB qa qn pa) true (PT.leaf (Value.bool true)))))))))))))))))))))))))))))))) (needs 3 (halfB (meetA pa pn qa qn) (meetN pa pn qa qn)) false (PT.reck 5 (needs 1 (inU (meetA pa pn qa qn)) true (PT.reck 0 (needs 4 (halfB (meetA pa pn qa qn) (meetN pa pn qa qn)) false (PT.reck 5 (needs 1 (inU pa && inU qa) true (needs 4 (coversB pa pn qa qn) true (PT.reck 9 (PT.leaf (Value.bool true)))))))))))))))))))))))))))))))

theorem vn {k : Nat} {b d : Bool} {t : PT} {v : Option Value} (h : b = d) (g : t.val = v) : (needs (k + 1) b d t).val = v := by rw [val_needs, if_pos h, g]
theorem vt {b : Bool} {t e : PT} {v : Option Value} (h : b = true) (g : t.val = v) : (PT.test b t e).val = v := by rw [PT.val_test, if_pos h, g]
theorem ve {b : Bool} {t e : PT} {v : Option Value} (h : b = false) (g : e.val = v) : (PT.test b t e).val = v := by rw [PT.val_test, if_neg (by rw [h]; decide), g]
theorem vr {n : Nat} {t : PT} {v : Option Value} (g : t.val = v) : (PT.reck n t).val = v := g
def rulesC (a b n m pa pn qa qn la ln ha hn : Int) (ok is : Bool) : List Prop := [halfV2 pa pn true = .tuple #[pfx ha hn, .bool is], inU pa = true, halfV2 pa pn false = .tuple #[pfx la ln, .bool ok], inU pa = true, anyV2 b m = pfx qa qn, inU b = true, anyV2 a n = pfx pa pn, inU a = true]
theorem rulesT_fits (a b n m pa pn qa qn la ln ha hn : Int) (ok is : Bool) : (rulesT a b n m pa pn qa qn la ln ha hn ok is).FitsFrom (fun π => evRun Tryd.prog E3 60 5 (rArgs a b n m).toList Tryd.prog.globals.size (some (rulesPre pa pn qa qn la ln ha hn ok is ++ π))) (rulesC a b n m pa pn qa qn la ln ha hn ok is) := by unfold PT.FitsFrom; kernel_rfl
def hi (a n : Nat) : Nat := a ||| 2 ^ (31 - n)
theorem fl_succ {x n : Nat} (h : n < 32) : fl x (n + 1) = if x.testBit (31 - n) then fl x n ||| 2 ^ (31 - n) else fl x n := by
  apply Nat.eq_of_testBit_eq
  intro i
  split
  · rename_i hb
    rw [Nat.testBit_or, fl_bit, fl_bit, Nat.testBit_two_pow]
    by_cases hi : i = 31 - n
    · subst hi; simp [hb, show 32 - (n + 1) ≤ 31 - n by omega]
    · have : decide (32 - (n + 1) ≤ i) = decide (32 - n ≤ i) := by rw [Bool.eq_iff_iff, decide_eq_true_eq, decide_eq_true_eq]; omega
      rw [this]; simp [Ne.symm hi]
  · rename_i hb
    rw [fl_bit, fl_bit]
    by_cases hi : i = 31 - n
    · subst hi; simp [hb]
    · have : decide (32 - (n + 1) ≤ i) = decide (32 - n ≤ i) := by rw [Bool.eq_iff_iff, decide_eq_true_eq, decide_eq_true_eq]; omega
      rw [this]
theorem pf_low_bit {a n i : Nat} (h : Pf a n) (hi : i < 32 - n) : a.testBit i = false := by
  rw [← h.2.2, fl_bit]; simp; omega
theorem pf_low {a n : Nat} (h : Pf a n) (hn : n < 32) : Pf a (n + 1) :=
  ⟨h.1, hn, by rw [fl_succ hn, pf_low_bit h (by omega)]; simp [h.2.2]⟩
theorem hi_fl {a n : Nat} (h : Pf a n) (hn : n < 32) : fl (hi a n) n = a := by
  apply Nat.eq_of_testBit_eq
  intro i
  unfold hi
  rw [fl_bit, Nat.testBit_or, Nat.testBit_two_pow]
  by_cases hi : 32 - n ≤ i
  · simp [hi, show ¬ 31 - n = i by omega]
  · rw [pf_low_bit h (by omega)]; simp [hi]
theorem hi_bit {a n : Nat} : (hi a n).testBit (31 - n) = true := by unfold hi; rw [Nat.testBit_or, Nat.testBit_two_pow]; simp
theorem pf_hi {a n : Nat} (h : Pf a n) (hn : n < 32) : Pf (hi a n) (n + 1) := by
  refine ⟨?_, hn, by rw [fl_succ hn, hi_bit, hi_fl h hn]; rfl⟩
  have : 2 ^ (31 - n) < 2 ^ 32 := Nat.pow_lt_pow_right (by decide) (by omega)
  exact Nat.or_lt_two_pow (n := 32) h.1 this
theorem hi_gt {a n : Nat} (h : Pf a n) (hn : n < 32) : a < hi a n := by
  have h1 : a ≤ hi a n := Nat.left_le_or
  have h2 : a ≠ hi a n := fun e => by
    have := hi_bit (a := a) (n := n)
    rw [← e, pf_low_bit h (by omega)] at this; cases this
  omega
theorem has_low {a n x : Nat} (h : Pf a n) (hn : n < 32) : fl x (n + 1) = a ↔ fl x n = a ∧ x.testBit (31 - n) = false := by
  constructor
  · intro e
    have e2 : fl x n = a := by rw [← fl_fl (show n ≤ n + 1 by omega), e, h.2.2]
    refine ⟨e2, ?_⟩
    rw [fl_succ hn] at e
    cases hb : x.testBit (31 - n) with
    | false => rfl
    | true =>
      rw [hb, if_pos rfl, e2] at e
      have := hi_gt h hn
      unfold hi at this; omega
  · rintro ⟨e1, e2⟩
    rw [fl_succ hn, e2]; simpa using e1
theorem has_high {a n x : Nat} (h : Pf a n) (hn : n < 32) : fl x (n + 1) = hi a n ↔ fl x n = a ∧ x.testBit (31 - n) = true := by
  constructor
  · intro e
    have e2 : fl x n = a := by rw [← fl_fl (show n ≤ n + 1 by omega), e, hi_fl h hn]
    refine ⟨e2, ?_⟩
    rw [fl_succ hn] at e
    cases hb : x.testBit (31 - n) with
    | true => rfl
    | false =>
      rw [hb] at e
      have := hi_gt h hn
      simp at e; omega
  · rintro ⟨e1, e2⟩
    rw [fl_succ hn, e2, if_pos rfl, e1]; rfl
theorem halfB_eq {a n : Nat} (h : Pf a n) : halfB (a : Int) (n : Int) = decide (n < 32) := by
  unfold halfB
  rw [(right_iff h.1).2 h, Bool.true_and, Bool.eq_iff_iff]
  have := h.2.1
  simp; omega
theorem halfA_eq {a n : Nat} (h : Pf a n) (hn : n < 32) (t : Bool) : halfA2 (a : Int) (n : Int) t = ((if t then hi a n else a : Nat) : Int) ∧ halfN (a : Int) (n : Int) = ((n + 1 : Nat) : Int) := by
  have hB : halfB (a : Int) (n : Int) = true := by rw [halfB_eq h]; simpa using hn
  unfold halfA2 halfN
  rw [if_pos hB, if_pos hB]
  refine ⟨?_, rfl⟩
  unfold halfA hi
  cases t
  · rfl
  · simp only [if_true, Int.toNat_natCast]
    rw [show ((31 : Int) - (n : Int)).toNat = 31 - n by omega]
theorem half_in {a n : Nat} (h : Pf a n) (t : Bool) : inU (halfA2 (a : Int) (n : Int) t) = true := by
  by_cases hn : n < 32
  · rw [(halfA_eq h hn t).1]
    cases t
    · exact pf_in h
    · exact pf_in (pf_hi h hn)
  · have hB : ¬ halfB (a : Int) (n : Int) = true := by rw [halfB_eq h]; simpa using hn
    unfold halfA2; rw [if_neg hB]; decide
theorem up_eq {a n b : Nat} (h : Pf b (n + 1)) (e : fl b n = a) : upB (b : Int) ((n + 1 : Nat) : Int) = true ∧ upA (b : Int) ((n + 1 : Nat) : Int) = (a : Int) ∧ upN (b : Int) ((n + 1 : Nat) : Int) = (n : Int) := by
  have hB : upB (b : Int) ((n + 1 : Nat) : Int) = true := by
    unfold upB; rw [(right_iff h.1).2 h]; simp; omega
  refine ⟨hB, ?_, ?_⟩
  · unfold upA
    rw [if_pos hB, Int.toNat_natCast, show ((n + 1 : Nat) : Int) - 1 = (n : Int) by omega, and_mask h.1 (by have := h.2.1; omega), e]
  · unfold upN; rw [if_pos hB]; omega
/-- What two prefixes share: one of them covers the other, or neither has the other's first address. -/
theorem apart {a n b m : Nat} (h : Pf a n) (g : Pf b m) (e : fl b n = a) : Cov a n b m ∨ Cov b m a n := by
  rcases Nat.le_total n m with hl | hl
  · exact .inl ⟨hl, e⟩
  · refine .inr ⟨hl, ?_⟩
    rw [← e, fl_fl hl, g.2.2]
set_option maxHeartbeats 2000000 in
theorem rules_tail (a b n m : Int) {pa pn qa qn la ln ha hn : Nat} {ok is : Bool} {bb : Nat} (hp : Pf pa pn) (hq : Pf qa qn) (hb : bb < 4294967296) (hok : ok = decide (pn < 32)) (his : is = ok)
    (hlo : pn < 32 → la = pa ∧ ln = pn + 1 ∧ ha = hi pa pn ∧ hn = pn + 1) : (rulesT a (bb : Int) n m pa pn qa qn la ln ha hn ok is).val = some (.bool true) := by
  obtain ⟨xa, xn, m1, m2, m3, m4, hx, cx⟩ : ∃ xa xn : Nat, meetN (pa : Int) pn qa qn = (xn : Int) ∧ meetA (pa : Int) pn qa qn = (xa : Int) ∧ meetN (qa : Int) qn pa pn = (xn : Int) ∧ meetA (qa : Int) qn pa pn = (xa : Int) ∧ Pf xa xn ∧ ∀ z k, Cov z k xa xn ↔ Cov z k pa pn ∧ Cov z k qa qn := by
    obtain ⟨a1, a2⟩ := meet_eq hp hq
    obtain ⟨a3, a4⟩ := meet_eq hq hp
    have h1 := meet_pf hp hq
    have h2 := meet_pf hq hp
    obtain ⟨e1, e2⟩ := Cov.antisymm h1 ((cov_meet hq hp).2 ((cov_meet hp hq).1 (.refl h1)).symm) ((cov_meet hp hq).2 ((cov_meet hq hp).1 (.refl h2)).symm)
    exact ⟨_, _, a1, a2, by rw [a3, e2], by rw [a4, e1], h1, fun z k => cov_meet hp hq⟩
  have xp := (cx xa xn).1 (.refl hx)
  have c1 := (covers_iff hx hp).2 xp.1
  have c2 := (covers_iff hx hq).2 xp.2
  have hE : ((xa : Int) == (pa : Int) && ((xn : Int) == (pn : Int) && true)) = coversB (pa : Int) pn qa qn := by
    rw [Bool.eq_iff_iff, covers_iff hp hq]
    constructor
    · intro h
      have h' : xa = pa ∧ xn = pn := by simp at h; omega
      obtain ⟨rfl, rfl⟩ := h'
      exact xp.2
    · intro h
      obtain ⟨rfl, rfl⟩ := Cov.antisymm hx xp.1 ((cx pa pn).2 ⟨.refl hp, h⟩)
      simp
  have hXX : ((xa : Int) == (xa : Int) && ((xn : Int) == (xn : Int) && true)) = true := by simp
  have hHX := halfB_eq hx
  have ex : ∀ t : Bool, halfB (xa : Int) xn = true → coversB (halfA2 (xa : Int) xn t) (halfN (xa : Int) xn) pa pn = true → coversB (halfA2 (xa : Int) xn t) (halfN (xa : Int) xn) qa qn = false := by
    intro t h1 h2
    rw [hHX, decide_eq_true_eq] at h1
    obtain ⟨e1, e2⟩ := halfA_eq hx h1 t
    have hh : Pf (if t then hi xa xn else xa) (xn + 1) := by cases t; exact pf_low hx h1; exact pf_hi hx h1
    rw [e1, e2] at h2 ⊢
    cases hc : coversB (((if t then hi xa xn else xa : Nat) : Nat) : Int) ((xn + 1 : Nat) : Int) qa qn with
    | false => rfl
    | true =>
      have := (cx _ _).2 ⟨(covers_iff hh hp).1 h2, (covers_iff hh hq).1 hc⟩
      have := this.1; omega
  have hX1 : pn < 32 → halfB (xa : Int) xn = true := fun h => by rw [hHX]; have := xp.1.1; simp; omega
  have hX2 : halfB (xa : Int) xn = false → coversB (pa : Int) pn qa qn = true := fun h => by
    rw [hHX] at h
    have h1 := xp.1.1
    have h2 := hp.2.1
    have h3 : xn = pn := by simp at h; omega
    subst h3
    have h4 := xp.1.2
    rw [hp.2.2] at h4
    rw [← hE, h4]; simp
  have q0 : decide ((0 : Nat) = 1) = false := rfl
  have q1 : decide (wrapF IntKind.i64 (0 + 1) = 1) = true := by decide
  have exA : halfB (xa : Int) xn = true → (coversB (halfA2 (xa : Int) xn false) (halfN (xa : Int) xn) pa pn = true ↔ xn + 1 ≤ pn ∧ pa.testBit (31 - xn) = false) ∧ (coversB (halfA2 (xa : Int) xn true) (halfN (xa : Int) xn) pa pn = true ↔ xn + 1 ≤ pn ∧ pa.testBit (31 - xn) = true) := by
    intro h1
    rw [hHX, decide_eq_true_eq] at h1
    obtain ⟨e1, e2⟩ := halfA_eq hx h1 false
    obtain ⟨e3, e4⟩ := halfA_eq hx h1 true
    rw [e1, e2, e3]
    simp only [if_true, Bool.false_eq_true, if_false]
    rw [covers_iff (pf_low hx h1) hp, covers_iff (pf_hi hx h1) hp]
    unfold Cov
    rw [has_low hx h1, has_high hx h1]
    have := xp.1.2
    constructor
    · constructor
      · rintro ⟨a1, a2, a3⟩; exact ⟨a1, a3⟩
      · rintro ⟨a1, a3⟩; exact ⟨a1, this, a3⟩
    · constructor
      · rintro ⟨a1, a2, a3⟩; exact ⟨a1, a3⟩
      · rintro ⟨a1, a3⟩; exact ⟨a1, this, a3⟩
  have hCx : coversB (pa : Int) pn qa qn = true ↔ xn = pn := by
    rw [← hE]
    have h1 := xp.1
    have h2 := hp.2.2
    constructor
    · intro h; simp at h; omega
    · intro h
      subst h
      have h4 := h1.2
      rw [h2] at h4
      rw [h4]; simp
  have exN : halfB (xa : Int) xn = true → ¬ (coversB (halfA2 (xa : Int) xn false) (halfN (xa : Int) xn) pa pn = true ∧ coversB (halfA2 (xa : Int) xn true) (halfN (xa : Int) xn) pa pn = true) := by
    intro h1
    rw [(exA h1).1, (exA h1).2]
    rintro ⟨⟨_, a⟩, _, b⟩
    rw [a] at b; cases b
  have exC : halfB (xa : Int) xn = true → (coversB (pa : Int) pn qa qn = true ↔ coversB (halfA2 (xa : Int) xn false) (halfN (xa : Int) xn) pa pn = false ∧ coversB (halfA2 (xa : Int) xn true) (halfN (xa : Int) xn) pa pn = false) := by
    intro h1
    rw [hCx, ← Bool.not_eq_true, ← Bool.not_eq_true, (exA h1).1, (exA h1).2]
    have := xp.1.1
    cases pa.testBit (31 - xn) <;> simp <;> omega
  have hX4 : ¬ pn < 32 → halfB (xa : Int) xn = true → coversB (pa : Int) pn qa qn = false := fun h1 h2 => by
    rw [hHX, decide_eq_true_eq] at h2
    rw [← Bool.not_eq_true, hCx]; omega
  clear exA hCx
  have ex0 := ex false
  have ex1 := ex true
  have iX0 := half_in hx false
  have iX1 := half_in hx true
  have d1 : coversB (pa : Int) pn qa qn = false → coversB (qa : Int) qn pa pn = false → hasB (pa : Int) pn qa = false ∧ hasB (qa : Int) qn pa = false := by
    intro h1 h2
    constructor
    · cases hc : hasB (pa : Int) pn qa with
      | false => rfl
      | true =>
        rcases apart hp hq ((has_iff hp hq.1).1 hc) with h | h
        · rw [(covers_iff hp hq).2 h] at h1; cases h1
        · rw [(covers_iff hq hp).2 h] at h2; cases h2
    · cases hc : hasB (qa : Int) qn pa with
      | false => rfl
      | true =>
        rcases apart hq hp ((has_iff hq hp.1).1 hc) with h | h
        · rw [(covers_iff hq hp).2 h] at h2; cases h2
        · rw [(covers_iff hp hq).2 h] at h1; cases h1
  have up := pf_in hp
  have uq := pf_in hq
  have ux := pf_in hx
  have ub : inU (bb : Int) = true := inU_nat.2 hb
  subst his
  by_cases hn32 : pn < 32
  · obtain ⟨rfl, rfl, rfl, rfl⟩ := hlo hn32
    have hL := pf_low hp hn32
    have hH := pf_hi hp hn32
    have hok' : is = true := by rw [hok]; simpa using hn32
    subst hok'
    have g1 : decide ((pn : Int) < 32) = true := by simp; omega
    have hX3 := hX1 hn32
    obtain ⟨u1, u2, u3⟩ := up_eq hL hp.2.2
    obtain ⟨u4, u5, u6⟩ := up_eq hH (hi_fl hp hn32)
    have l1 := (less_iff hp hL).2 (.inr ⟨rfl, by omega⟩)
    have l2 := (less_iff hL hH).2 (.inl (hi_gt hp hn32))
    have uL := pf_in hL
    have uH := pf_in hH
    have hPP : ((la : Int) == (la : Int) && ((pn : Int) == (pn : Int) && true)) = true := by simp
    have hs : hasB (la : Int) pn bb = (hasB (la : Int) ((pn + 1 : Nat) : Int) bb || hasB ((hi la pn : Nat) : Int) ((pn + 1 : Nat) : Int) bb) ∧ ¬ (hasB (la : Int) ((pn + 1 : Nat) : Int) bb = true ∧ hasB ((hi la pn : Nat) : Int) ((pn + 1 : Nat) : Int) bb = true) := by
      rw [Bool.eq_iff_iff, Bool.or_eq_true, has_iff hp hb, has_iff hL hb, has_iff hH hb, has_low hp hn32, has_high hp hn32]
      cases Nat.testBit bb (31 - pn) <;> simp
    obtain ⟨hs1, hs2⟩ := hs
    generalize gHL : hasB (la : Int) ((pn + 1 : Nat) : Int) bb = HL at hs1 hs2
    generalize gHH : hasB ((hi la pn : Nat) : Int) ((pn + 1 : Nat) : Int) bb = HH at hs1 hs2
    generalize gA0 : coversB (halfA2 (xa : Int) xn false) (halfN (xa : Int) xn) la pn = A0 at exN exC ex0
    generalize gB0 : coversB (halfA2 (xa : Int) xn false) (halfN (xa : Int) xn) qa qn = B0 at ex0
    generalize gA1 : coversB (halfA2 (xa : Int) xn true) (halfN (xa : Int) xn) la pn = A1 at exN exC ex1
    generalize gB1 : coversB (halfA2 (xa : Int) xn true) (halfN (xa : Int) xn) qa qn = B1 at ex1
    generalize gC : coversB (la : Int) pn qa qn = C at exC d1 hE
    generalize gD : coversB (qa : Int) qn la pn = D at d1
    generalize gP1 : hasB (la : Int) pn qa = P1 at d1
    generalize gP2 : hasB (qa : Int) qn la = P2 at d1
    replace exN := exN hX3
    replace exC := exC hX3
    replace ex0 := ex0 hX3
    replace ex1 := ex1 hX3
    have hc : (C = true ∧ A0 = false ∧ A1 = false) ∨ (C = false ∧ A0 = true ∧ A1 = false ∧ B0 = false) ∨ (C = false ∧ A0 = false ∧ A1 = true ∧ B1 = false) := by
      cases C <;> cases A0 <;> cases A1 <;> simp at exN exC ex0 ex1 ⊢ <;> assumption
    have hl : (HL = true ∧ HH = false) ∨ (HL = false ∧ HH = true) ∨ (HL = false ∧ HH = false) := by
      cases HL <;> cases HH <;> simp at hs2 ⊢
    have hd : C = false → D = true ∨ (D = false ∧ P1 = false ∧ P2 = false) := fun h => by
      cases D with
      | true => exact .inl rfl
      | false => obtain ⟨h1, h2⟩ := d1 h rfl; exact .inr ⟨rfl, h1, h2⟩
    clear exN exC ex0 ex1 hs2 d1 ex cx xp hX1 hX2 hX4 hHX hok hlo
    rcases hl with ⟨rfl, rfl⟩ | ⟨rfl, rfl⟩ | ⟨rfl, rfl⟩ <;> rcases hc with ⟨rfl, rfl, rfl⟩ | ⟨rfl, rfl, rfl, rfl⟩ | ⟨rfl, rfl, rfl, rfl⟩
    all_goals first
      | (rcases hd rfl with rfl | ⟨rfl, rfl, rfl⟩)
      | skip
    all_goals unfold rulesT
    all_goals repeat first
      | with_reducible exact PT.val_leaf _
      | with_reducible refine vr ?_
      | (with_reducible refine vn ?zz1 ?_; case zz1 => (simp only [*, Bool.not_true, Bool.not_false, Bool.and_self, Bool.or_true, Bool.or_false, Bool.true_or, beq_self_eq_true, beq_true, beq_false]; done))
      | (with_reducible refine vt ?zz1 ?_; case zz1 => (simp only [*, Bool.not_true, Bool.not_false, Bool.and_self, Bool.or_true, Bool.or_false, Bool.true_or, beq_self_eq_true, beq_true, beq_false]; done))
      | (with_reducible refine ve ?zz1 ?_; case zz1 => (simp only [*, Bool.not_true, Bool.not_false, Bool.and_self, Bool.or_true, Bool.or_false, Bool.true_or, beq_self_eq_true, beq_true, beq_false]; done))
  · have hok' : is = false := by rw [hok]; simpa using hn32
    subst hok'
    have g1 : decide ((pn : Int) < 32) = false := by simp; omega
    replace hX4 := hX4 hn32
    generalize gA0 : coversB (halfA2 (xa : Int) xn false) (halfN (xa : Int) xn) pa pn = A0 at exN exC ex0
    generalize gB0 : coversB (halfA2 (xa : Int) xn false) (halfN (xa : Int) xn) qa qn = B0 at ex0
    generalize gA1 : coversB (halfA2 (xa : Int) xn true) (halfN (xa : Int) xn) pa pn = A1 at exN exC ex1
    generalize gB1 : coversB (halfA2 (xa : Int) xn true) (halfN (xa : Int) xn) qa qn = B1 at ex1
    generalize gC : coversB (pa : Int) pn qa qn = C at exC d1 hE hX2 hX4
    generalize gD : coversB (qa : Int) qn pa pn = D at d1
    generalize gP1 : hasB (pa : Int) pn qa = P1 at d1
    generalize gP2 : hasB (qa : Int) qn pa = P2 at d1
    generalize gHX : halfB (xa : Int) xn = HX at exN exC ex0 ex1 hX2 hX4
    have hc : (HX = false ∧ C = true) ∨ (HX = true ∧ C = false ∧ A0 = true ∧ A1 = false ∧ B0 = false) ∨ (HX = true ∧ C = false ∧ A0 = false ∧ A1 = true ∧ B1 = false) := by
      cases HX with
      | false => exact .inl ⟨rfl, hX2 rfl⟩
      | true =>
        obtain rfl := hX4 rfl
        right
        replace exN := exN rfl
        replace exC := exC rfl
        replace ex0 := ex0 rfl
        replace ex1 := ex1 rfl
        cases A0 <;> cases A1 <;> simp at exN exC ex0 ex1 ⊢ <;> assumption
    have hd : C = false → D = true ∨ (D = false ∧ P1 = false ∧ P2 = false) := fun h => by
      cases D with
      | true => exact .inl rfl
      | false => obtain ⟨h1, h2⟩ := d1 h rfl; exact .inr ⟨rfl, h1, h2⟩
    clear exN exC ex0 ex1 d1 hX2 hX4 ex cx xp hX1 hHX hok hlo
    rcases hc with ⟨rfl, rfl⟩ | ⟨rfl, rfl, rfl, rfl, rfl⟩ | ⟨rfl, rfl, rfl, rfl, rfl⟩
    all_goals first
      | (rcases hd rfl with rfl | ⟨rfl, rfl, rfl⟩)
      | skip
    all_goals unfold rulesT
    all_goals repeat first
      | with_reducible exact PT.val_leaf _
      | with_reducible refine vr ?_
      | (with_reducible refine vn ?zz1 ?_; case zz1 => (simp only [*, Bool.not_true, Bool.not_false, Bool.and_self, Bool.or_true, Bool.or_false, Bool.true_or, beq_self_eq_true, beq_true, beq_false]; done))
      | (with_reducible refine vt ?zz1 ?_; case zz1 => (simp only [*, Bool.not_true, Bool.not_false, Bool.and_self, Bool.or_true, Bool.or_false, Bool.true_or, beq_self_eq_true, beq_true, beq_false]; done))
      | (with_reducible refine ve ?zz1 ?_; case zz1 => (simp only [*, Bool.not_true, Bool.not_false, Bool.and_self, Bool.or_true, Bool.or_false, Bool.true_or, beq_self_eq_true, beq_true, beq_false]; done))
theorem rules_walk (a b n m : Int) (wa : (Lit.int .u32 a).wf = true) (wb : (Lit.int .u32 b).wf = true) (_ : (Lit.int .i64 n).wf = true) (_ : (Lit.int .i64 m).wf = true) (W : World) :
    Calls Tryd.prog 5 (rArgs a b n m) W fun e W' => e = .returned (.bool true) ∧ Below W.heap.size W W' := by
  have ha := inU_wf wa
  have hb := inU_wf wb
  obtain ⟨pa, pn, e1, hp, _⟩ := any_pf a n ha
  obtain ⟨qa, qn, e2, hq, _⟩ := any_pf b m hb
  have hbu := inU_spec.1 hb
  obtain ⟨bb, rfl⟩ : ∃ bb : Nat, b = bb := ⟨b.toNat, by omega⟩
  have hB := halfB_eq hp
  by_cases hn32 : pn < 32
  · have e3 : ∀ t, halfV2 (pa : Int) pn t = .tuple #[pfx ((if t then hi pa pn else pa : Nat) : Int) ((pn + 1 : Nat) : Int), .bool (decide (pn < 32))] := fun t => by
      unfold halfV2; rw [(halfA_eq hp hn32 t).1, (halfA_eq hp hn32 t).2, hB]
    exact PT.callsFrom E3_sound good Tryd.func5 rfl (rulesT_fits a bb n m pa pn qa qn pa ((pn + 1 : Nat) : Int) ((hi pa pn : Nat) : Int) ((pn + 1 : Nat) : Int) (decide (pn < 32)) (decide (pn < 32)))
      (by simp only [rulesC, List.forall_mem_cons]; exact ⟨e3 true, pf_in hp, e3 false, pf_in hp, e2, hb, e1, ha, by simp⟩)
      (rules_tail a bb n m hp hq (by omega) rfl rfl fun _ => ⟨rfl, rfl, rfl, rfl⟩) rfl rfl W
  · have hB' : ¬ halfB (pa : Int) (pn : Int) = true := by rw [hB]; simpa using hn32
    have e3 : ∀ t, halfV2 (pa : Int) pn t = .tuple #[pfx ((0 : Nat) : Int) ((0 : Nat) : Int), .bool (decide (pn < 32))] := fun t => by
      unfold halfV2 halfA2 halfN; rw [if_neg hB', if_neg hB', hB]; rfl
    exact PT.callsFrom E3_sound good Tryd.func5 rfl (rulesT_fits a bb n m pa pn qa qn ((0 : Nat) : Int) ((0 : Nat) : Int) ((0 : Nat) : Int) ((0 : Nat) : Int) (decide (pn < 32)) (decide (pn < 32)))
      (by simp only [rulesC, List.forall_mem_cons]; exact ⟨e3 true, pf_in hp, e3 false, pf_in hp, e2, hb, e1, ha, by simp⟩)
      (rules_tail a bb n m hp hq (by omega) rfl rfl fun h => absurd h hn32) rfl rfl W
end Go.Proofs.YtdgdojlhncbggaaDoor
