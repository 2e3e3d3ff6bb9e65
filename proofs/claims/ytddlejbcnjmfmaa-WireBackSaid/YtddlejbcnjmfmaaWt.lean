/- P4.1: what is written is read: the ways between the rounds, and behind them. -/
import Derived.Test.YtddlejbcnjmfmaaWw
namespace Go.Proofs.Ytddlejbcnjmfmaa
open Go Go.Ev Go.RowKit
set_option maxRecDepth 100000
set_option linter.unusedVariables false
set_option linter.unusedSimpArgs false
namespace WireBk
noncomputable def pt (k : Nat) : Value := .pointer (some ⟨G + k, 0, none⟩)
noncomputable def rA (n : Nat) : Value := .slice (some ⟨G, 0, none⟩) n 0
noncomputable def rFar (T : Nat) : AObj := { cells := #[.slice (some ⟨G + 5, 0, none⟩) T 0, .int .i64 0, .bool false], esz := 0, st := 1, prev := [] }
def rNil : AObj := { cells := #[.slice none 0 0, .int .i64 0, .bool false], esz := 0, st := 1, prev := [] }
noncomputable def KM (n : Nat) : List (Nat × Value) := [(0, rA n), (3, pt 2)]
noncomputable def KX (n k : Nat) : List (Nat × Value) := [(0, rA n), (3, pt 2), (5, pt k)]
noncomputable def KS (n : Nat) : List (Nat × Value) := [(0, rA n), (5, pt 2)]
noncomputable def KI (n : Nat) (i : Int) : List (Nat × Value) := [(0, rA n), (5, pt 2), (6, .int .i64 i)]
def YY (C : Array Value) (m : Nat) : Array Value := CPY (exQ (CPY (exQ C 0 (m * 1))) 0 ((0 + m) * 1))
def ltN (i n : Nat) (b : Bool) : Prop := decide (Int.ofNat i < ((n : Nat) : Int)) = b
def l30 (i : Nat) (b : Bool) : Prop := decide (Int.ofNat i < 30) = b
def leftC (T : Nat) (q : Int) : Prop := decide (wrapF .i64 ((T : Int) - q) = 0) = true
theorem m_pre0 (n : Nat) (A : Array Value) (B0 : List Value) : RQ [0] [] [0] (A, B0) [] [(0, rA n)] [] (.normal) [] [(0, rA n)] [] [] := by unfold RQ; kernel_rfl
theorem m_pre1 (n : Nat) (A : Array Value) (B0 : List Value) : RQ [1, 0] [(G + 2, false)] [0, 3] (A, B0) [] [(0, rA n)] [] (.normal) [w0Obj] (KM n) [] [] := by unfold RQ; kernel_rfl
theorem m_pre2 (n : Nat) (A : Array Value) (B0 : List Value) : RQ [1, 1, 0] [(G + 2, false)] [0, 3] (A, B0) [w0Obj] (KM n) [.reck 0] (.normal) [w0Obj] (KM n) [] [] := by unfold RQ; kernel_rfl
theorem m_pre3 (n : Nat) (A : Array Value) (B0 : List Value) : RQ [1, 1, 1, 0, 0] [(G + 2, false)] [0, 3, 4] (A, B0) [w0Obj] (KM n) [] (.normal) [w0Obj] (KH n 0) [] [] := by unfold RQ; kernel_rfl
theorem m_read (n m i : Nat) (A C : Array Value) (B0 : List Value) : RQ [1, 1, 1, 1, 0] [(G + 2, false), (G + 3, true), (G + 8, false), (G + 7, true)] [0, 3, 5] (A, B0) [wObj m, cObj C] (KH n i) [.reck 0, .bit true, .bit false, .reck 0, .bit true, .reck 0, .bit true, .bit false, .reck 0, .bit true] (.normal) [wObj m, cObj C, rFar (0 + (0 + m)), cObj (YY C m)] (KX n 4) [leC (0 + (0 + m)), (0 + m == 0) = false, decide (0 + (0 + m) * 1 ≤ (CPY (exQ C 0 (m * 1))).size) = true, leC (0 + m), (m == 0) = false, decide (0 + m * 1 ≤ C.size) = true] [plainC C, plainC (YY C m)] := by unfold RQ; kernel_rfl
theorem m_readn (n i : Nat) (A : Array Value) (B0 : List Value) : RQ [1, 1, 1, 1, 0] [(G + 2, false), (G + 3, false)] [0, 3, 5] (A, B0) [w0Obj] (KH n i) [.reck 1] (.normal) [w0Obj, rNil] (KX n 3) [] [] := by unfold RQ; kernel_rfl
theorem m_same (n m T : Nat) (A C Y : Array Value) (B0 : List Value) : RQ [1, 1, 1, 1, 1, 0] [(G + 4, false), (G + 5, true)] [0, 5] (A, B0) [wObj m, cObj C, rFar T, cObj Y] (KX n 4) [.reck 5, .bit false] (.normal) [rObj T 0, cObj Y] (KS n) [(!decide (wrapF .i64 ((T : Int) - 0) = (m : Int))) = false] [plainC Y] := by unfold RQ; kernel_rfl
theorem m_samen (n : Nat) (A : Array Value) (B0 : List Value) : RQ [1, 1, 1, 1, 1, 0] [(G + 3, false)] [0, 5] (A, B0) [w0Obj, rNil] (KX n 3) [.reck 6] (.normal) [rNil] (KS n) [] [] := by unfold RQ; kernel_rfl
theorem m_i0 (n T : Nat) (A C : Array Value) (B0 : List Value) : RQ [1, 1, 1, 1, 1, 1, 0, 0] [(G + 2, false), (G + 3, true)] [0, 5, 6] (A, B0) [rObj T 0, cObj C] (KS n) [] (.normal) [rObj T 0, cObj C] (KI n 0) [] [plainC C] := by unfold RQ; kernel_rfl
theorem m_i0n (n : Nat) (A : Array Value) (B0 : List Value) : RQ [1, 1, 1, 1, 1, 1, 0, 0] [(G + 2, false)] [0, 5, 6] (A, B0) [rNil] (KS n) [] (.normal) [rNil] (KI n 0) [] [] := by unfold RQ; kernel_rfl
theorem r_go (n T i nb : Nat) (q : Int) (A C : Array Value) (B0 : List Value) : RQ (pR ++ [0]) [(G + 2, false), (G + 3, true)] [0, 5, 6] (A, B0) [rEnd T q, cObj C] (KI n (Int.ofNat i)) [.bit true, .bit true, .bit true, .bit true] (.normal) [rEnd T q, cObj C] (KI n (Int.ofNat i)) [l30 i true, ltN i n true, ltN i n true, ltN i n true] [plainC C] := by unfold RQ; kernel_rfl
theorem r_stop (n T i nb : Nat) (q : Int) (A C : Array Value) (B0 : List Value) : RQ (pR ++ [0]) [(G + 2, false), (G + 3, true)] [0, 5] (A, B0) [rEnd T q, cObj C] (KI n (Int.ofNat i)) [.bit true, .bit true, .bit true, .bit false] (.exit 2) [rEnd T q, cObj C] (KS n) [l30 i false, ltN i n true, ltN i n true, ltN i n true] [plainC C] := by unfold RQ; kernel_rfl
theorem r_out (n T i nb : Nat) (q : Int) (A C : Array Value) (B0 : List Value) : RQ (pR ++ [0]) [(G + 2, false), (G + 3, true)] [0, 5] (A, B0) [rEnd T q, cObj C] (KI n (Int.ofNat i)) [.bit false, .bit false, .bit false, .reck 0] (.exit 2) [rEnd T q, cObj C] (KS n) [ltN i n false, ltN i n false, ltN i n false] [plainC C] := by unfold RQ; kernel_rfl
theorem r_outn (n i : Nat) (A : Array Value) (B0 : List Value) : RQ (pR ++ [0]) [(G + 2, false)] [0, 5] (A, B0) [rNil] (KI n (Int.ofNat i)) [.bit false, .bit false, .bit false, .reck 0] (.exit 2) [rNil] (KS n) [ltN i n false, ltN i n false, ltN i n false] [] := by unfold RQ; kernel_rfl
theorem r_cut (n T i nb : Nat) (q : Int) (A C : Array Value) (B0 : List Value) : RQ (pR ++ [1, 0, 0, 0]) [(G + 2, false), (G + 3, true)] [0, 5, 6, 7] (A, B0) [rEnd T q, cObj C] (KI n (Int.ofNat i)) [.bit true, .row #[bV nb], .bit false] (.normal) [rEnd T q, cObj C] (KR n i (bV nb)) [decide (((nb : Nat) : Int) > 50) = false, bC A i (bV nb), nC n i] [plainC C] := by unfold RQ; kernel_rfl
theorem r_cutb (n T i nb : Nat) (q : Int) (A C : Array Value) (B0 : List Value) : RQ (pR ++ [1, 0, 0, 0]) [(G + 2, false), (G + 3, true)] [0, 5, 6, 7] (A, B0) [rEnd T q, cObj C] (KI n (Int.ofNat i)) [.bit true, .row #[bV nb], .bit true, .bit true] (.normal) [rEnd T q, cObj C] (KR n i (.slice (some ⟨G + 1, 0, none⟩) 50 0)) [decide ((0 : Int) ≤ 50 ∧ (50 : Int) ≤ ((((rowObj B0).cells.size - 0) / 1 : Nat) : Int)) = true, decide (((nb : Nat) : Int) > 50) = true, bC A i (bV nb), nC n i] [plainC C] := by unfold RQ; kernel_rfl
theorem r_cutn (n T i nb : Nat) (q : Int) (A C : Array Value) (B0 : List Value) : RQ (pR ++ [1, 0, 0, 0]) [(G + 2, false), (G + 3, true)] [0, 5, 6, 7] (A, B0) [rEnd T q, cObj C] (KI n (Int.ofNat i)) [.bit true, .row #[.slice none 0 0], .reck 0] (.normal) [rEnd T q, cObj C] (KR n i (.slice none 0 0)) [bC A i (.slice none 0 0), nC n i] [plainC C] := by unfold RQ; kernel_rfl
theorem r_fine (n T i nb : Nat) (q : Int) (A C : Array Value) (B0 : List Value) : RQ (pR ++ [1, 0, 0, 1, 1]) [(G + 2, false), (G + 3, true)] [0, 5, 6] (A, B0) [rEnd T q, cObj C] (KE n i) [.reck 0] (.normal) [rEnd T q, cObj C] (KI n (Int.ofNat i)) [] [plainC C] := by unfold RQ; kernel_rfl
theorem m_end (n T i nb : Nat) (q : Int) (A C : Array Value) (B0 : List Value) : RQ [1, 1, 1, 1, 1, 1, 1] [] [2] (A, B0) [rEnd T q, cObj C] (KS n) [.bit true, .bit true, .bit true, .reck 6, .bit true, .bit true, .reck 58] (.ret) [] [(2, .bool true)] [leftC T q, leftC T q, decide (1 > wrapF .i64 ((T : Int) - q)) = true, leftC T q, leftC T q] [] := by unfold RQ; kernel_rfl
theorem m_endn (n : Nat) (A : Array Value) (B0 : List Value) : RQ [1, 1, 1, 1, 1, 1, 1] [] [2] (A, B0) [rNil] (KS n) [.reck 70] (.ret) [] [(2, .bool true)] [] [] := by unfold RQ; kernel_rfl
theorem r_next (n T i : Nat) (q : Int) (A C A' : Array Value) (B0 B1 : List Value) : RN (pR ++ [1, 1]) [(G + 2, false), (G + 3, true)] [0, 5, 6] (A, B0) (A', B1) [rEnd T q, cObj C] (KI n (Int.ofNat i)) [] .normal [rEnd T q, cObj C] (KI n (wrapF .i64 (Int.ofNat i + 1))) [] [plainC C] := by unfold RN; kernel_rfl
end WireBk
end Go.Proofs.Ytddlejbcnjmfmaa
