/- P4.1: where bytes lack all is zero from then on: the ways of WireLacks. -/
import Derived.Test.YtddlejbcnjmfmaaBa
import Derived.Test.YtddlejbcnjmfmaaEvZ2
namespace Go.Proofs.Ytddlejbcnjmfmaa
open Go Go.Ev Go.RowKit
set_option maxRecDepth 100000
namespace WireLk
noncomputable abbrev G : Nat := Try.prog.globals.size
noncomputable abbrev B : Code := bodyOf Try.f6
noncomputable abbrev NT : Nat := Try.f6.ntmps
noncomputable def pre : List Code := [nav [0] B, nav [1, 0] B, nav [1, 1, 0] B, nav [1, 1, 1, 0] B, nav [1, 1, 1, 1, 0] B, nav [1, 1, 1, 1, 1, 0] B]
abbrev pR : List Nat := [1, 1, 1, 1, 1, 1, 0, 0]
abbrev pB : List Nat := [1, 1, 1, 1, 1, 1, 0, 1, 0, 0]
abbrev pE : List Nat := [1, 1, 1, 1, 1, 1, 1]
def nl : Value := .slice none 0 0
noncomputable def rA (k n : Nat) : Value := .slice (some ⟨G + k, 0, none⟩) n 0
noncomputable def pt (k : Nat) : Value := .pointer (some ⟨G + k, 0, none⟩)
def aObj (A : Array Value) : AObj := { cells := A, esz := 3, st := 0, prev := [] }
noncomputable def rObj (k m : Nat) : AObj := { cells := #[.slice (some ⟨G + k, 0, none⟩) m 0, .int .i64 (Int.ofNat m), .bool true], esz := 0, st := 1, prev := [] }
def nObj : AObj := { cells := #[.slice none 0 0, .int .i64 0, .bool true], esz := 0, st := 1, prev := [] }
def cObj (C : Array Value) : AObj := { cells := C, esz := 1, st := 1, prev := [] }
noncomputable def KH (n i : Nat) : List (Nat × Value) := [(1, rA 0 n), (5, pt 1), (7, .int .i64 (Int.ofNat i))]
def at1 (nb : Nat) : Int := wrapF .i64 (0 + ((nb : Nat) : Int))
def of0 (nb : Nat) : Int := wrapF .i64 (at1 nb - ((nb : Nat) : Int))
def ln1 (nb : Nat) : Nat := (at1 nb).toNat - (of0 nb).toNat
def left1 (nb : Nat) : Int := wrapF .i64 (((0 + nb : Nat) : Int) - at1 nb)
def left0 (nb : Nat) : Int := wrapF .i64 (((0 + nb : Nat) : Int) - 0)
def CB (X : Array Value) : Array Value := apQ (exQ #[] 0 (0 * 1)) X
def X3 (B0 : List Value) (nb : Nat) : Array Value := exQ (rowObj B0).cells 0 (nb * 1)
def X61 (B0 : List Value) : Array Value := exQ (rowObj B0).cells (0 + 0 * 1) (60 * 1)
def notC (l : List UInt8) : Prop := (!((⟨l.toArray⟩ : ByteArray).toList == (⟨l.toArray⟩ : ByteArray).toList)) = false
def bytC (cs : Array Value) (l : List UInt8) : Prop := bytesOf cs.toList = some l
def rowC (A : Array Value) (a n : Nat) (cs : Array Value) : Prop := a + n ≤ A.size ∧ A.extract a (a + n) = cs
def Y (X : Array Value) (nb : Nat) : Array Value := apQ (exQ #[] 0 (0 * 1)) (exQ (CB X) (0 + (of0 nb).toNat * 1) (ln1 nb * 1))
def c3 (B0 : List Value) (nb : Nat) (cs : Array Value) (l : List UInt8) : List Prop := [decide (1 > left1 nb) = true,
  (!decide (left1 nb = 0)) = false, (!decide (left1 nb = 0)) = false, (!decide (left1 nb = 0)) = false, (!decide (left1 nb = 0)) = false,
  notC l, notC l, notC l, notC l, bytC cs l, rowC (rowObj B0).cells 0 nb cs, bytC cs l, rowC (Y (X3 B0 nb) nb) 0 (0 + ln1 nb) cs,
  decide (0 + ln1 nb ≤ 1073741824) = true, (ln1 nb == 0) = false, decide (0 + (of0 nb).toNat * 1 + ln1 nb * 1 ≤ (CB (X3 B0 nb)).size) = true,
  decide (0 ≤ of0 nb ∧ of0 nb ≤ (((at1 nb).toNat : Nat) : Int)) = true, decide (0 ≤ at1 nb ∧ at1 nb ≤ ((((CB (X3 B0 nb)).size - 0) / 1 : Nat) : Int)) = true,
  decide (((nb : Nat) : Int) < 1) = false, decide (((nb : Nat) : Int) > left0 nb) = false,
  (!decide (left0 nb = ((nb : Nat) : Int))) = false, (!decide (left0 nb = ((nb : Nat) : Int))) = false, (!decide (left0 nb = ((nb : Nat) : Int))) = false, (!decide (left0 nb = ((nb : Nat) : Int))) = false,
  decide (0 + nb ≤ 1073741824) = true, (nb == 0) = false, decide (0 + nb * 1 ≤ (rowObj B0).cells.size) = true, decide (((nb : Nat) : Int) > 60) = false]
def c61 (B0 : List Value) (nb : Nat) (cs : Array Value) (l : List UInt8) : List Prop := [notC l, notC l, notC l, notC l, bytC cs l, rowC (rowObj B0).cells (0 + 0 * 1) 60 cs, bytC cs l, rowC (Y (X61 B0) 60) 0 (0 + ln1 60) cs,
  decide (0 + (of0 60).toNat * 1 + ln1 60 * 1 ≤ (CB (X61 B0)).size) = true, decide (0 ≤ at1 60 ∧ at1 60 ≤ ((((CB (X61 B0)).size - 0) / 1 : Nat) : Int)) = true,
  decide (0 + 0 * 1 + 60 * 1 ≤ (rowObj B0).cells.size) = true, decide ((0 : Int) ≤ 60 ∧ (60 : Int) ≤ ((((rowObj B0).cells.size - 0) / 1 : Nat) : Int)) = true, decide (((nb : Nat) : Int) > 60) = true]
def plainC (A : Array Value) : Prop := A.toList.all plainV = true
def p3 (cs : Array Value) (l : List UInt8) : List Ans := [.bit false, .reck 0, .bit true, .bit false, .reck 0, .bit true, .reck 5, .bit false, .bit false, .bit false, .bit false, .reck 0, .bit false, .reck 2, .bit false, .reck 0, .bit true, .bit true, .reck 0, .bit true, .bit false, .reck 0, .bit true, .row cs, .str l, .row cs, .str l, .bit false, .bit false, .bit false, .bit false, .bit false, .bit false, .bit false, .bit false, .reck 0, .bit true, .reck 10]
def p61 (cs : Array Value) (l : List UInt8) : List Ans := [.bit true, .bit true, .reck 0, .bit true, .reck 19, .bit true, .reck 1, .bit true, .reck 2, .row cs, .str l, .row cs, .str l, .bit false, .bit false, .bit false, .bit false, .reck 16]
def PR (m : List (Nat × Bool)) (ks : List Nat) (L : List AObj) (K : List (Nat × Value)) (π : List Ans) (L' : List AObj) (K' : List (Nat × Value)) (cs ds : List Prop) : Prop :=
  piecesS Try.prog noEnv 6 500 G pre NT m ks L K π = some (L', K', cs, ds)
theorem pre_nil_nil  : PR [] [1] [] [(0, nl), (1, nl)] [.reck 39] [] [(1, nl)] [] [] := by unfold PR; kernel_rfl
theorem pre_nil_0  : PR [] [1] [rowObj []] [(0, (rA 0 0)), (1, nl)] [.reck 100] [] [(1, nl)] [] [] := by unfold PR; kernel_rfl
theorem pre_nil_3 (B0 : List Value) (nb : Nat) (cs : Array Value) (l : List UInt8) : PR [] [1] [rowObj B0] [(0, (rA 0 nb)), (1, nl)] (p3 cs l) [] [(1, nl)] (c3 B0 nb cs l) [] := by unfold PR; kernel_rfl
theorem pre_nil_61 (B0 : List Value) (nb : Nat) (cs : Array Value) (l : List UInt8) : PR [] [1] [rowObj B0] [(0, (rA 0 nb)), (1, nl)] (p61 cs l) [] [(1, nl)] (c61 B0 nb cs l) [] := by unfold PR; kernel_rfl
theorem pre_row_nil  (A : Array Value) (n : Nat) : PR [(G + 0, true), (G + 1, false)] [1, 5] [aObj A] [(0, nl), (1, (rA 0 n))] [.reck 39] [aObj A, nObj] [(1, rA 0 n), (5, pt 1)] [] [plainC A] := by unfold PR; kernel_rfl
theorem pre_row_0  (A : Array Value) (n : Nat) : PR [(G + 1, true), (G + 3, false), (G + 2, true)] [1, 5] [rowObj [], aObj A] [(0, (rA 0 0)), (1, (rA 1 n))] [.reck 100] [aObj A, rObj 2 0, cObj (#[])] [(1, rA 0 n), (5, pt 1)] [] [plainC A, plainC (#[])] := by unfold PR; kernel_rfl
theorem pre_row_3 (B0 : List Value) (nb : Nat) (cs : Array Value) (l : List UInt8) (A : Array Value) (n : Nat) : PR [(G + 1, true), (G + 4, false), (G + 3, true)] [1, 5] [rowObj B0, aObj A] [(0, (rA 0 nb)), (1, (rA 1 n))] (p3 cs l) [aObj A, rObj 2 (0 + nb), cObj (CB (X3 B0 nb))] [(1, rA 0 n), (5, pt 1)] (c3 B0 nb cs l) [plainC A, plainC (CB (X3 B0 nb))] := by unfold PR; kernel_rfl
theorem pre_row_61 (B0 : List Value) (nb : Nat) (cs : Array Value) (l : List UInt8) (A : Array Value) (n : Nat) : PR [(G + 1, true), (G + 4, false), (G + 3, true)] [1, 5] [rowObj B0, aObj A] [(0, (rA 0 nb)), (1, (rA 1 n))] (p61 cs l) [aObj A, rObj 2 60, cObj (CB (X61 B0))] [(1, rA 0 n), (5, pt 1)] (c61 B0 nb cs l) [plainC A, plainC (CB (X61 B0))] := by unfold PR; kernel_rfl
def RD (p : List Nat) (m : List (Nat × Bool)) (ks : List Nat) (L : List AObj) (K : List (Nat × Value)) (π : List Ans) (e : AExit) (L' : List AObj) (K' : List (Nat × Value)) (cs ds : List Prop) : Prop :=
  pieceS Try.prog noEnv 6 500 G (nav p B) NT m ks L K π = some (e, L', K', cs, ds)
def leftM (m : Nat) : Int := wrapF .i64 (((m : Nat) : Int) - ((m : Nat) : Int))
def ltC (n i : Nat) (b : Bool) : Prop := decide (Int.ofNat i < ((n : Nat) : Int)) = b
def topC (i : Nat) (b : Bool) : Prop := decide (Int.ofNat i < 20) = b
def inC (n i : Nat) : Prop := decide (0 ≤ Int.ofNat i ∧ Int.ofNat i < ((n : Nat) : Int)) = true
def celC (A : Array Value) (i : Nat) (x : Int) : Prop := 0 + (Int.ofNat i).toNat * 3 + 1 + 1 ≤ A.size ∧ A.extract (0 + (Int.ofNat i).toNat * 3 + 1) (0 + (Int.ofNat i).toNat * 3 + 1 + 1) = #[.int .i64 x]
noncomputable def nx (n i : Nat) : List (Nat × Value) := [(1, rA 0 n), (5, pt 1), (7, .int .i64 (wrapF .i64 (Int.ofNat i + 1)))]
def headC (n i : Nat) : List Prop := [topC i true, ltC n i true, ltC n i true, ltC n i true]
def zeroC (m : Nat) : Prop := (!decide (leftM m = 0)) = false
theorem r_w_pos (n m i : Nat) (x : Int) (A C : Array Value) : RD pB [(G, true), (G + 1, false), (G + 2, true)] [1, 5, 7] [aObj A, rObj 2 m, cObj C] (KH n i) [.bit true, .bit true, .bit true, .bit true, .bit true, .reck 8, .bit true, .reck 10, .bit true, .reck 12, .bit true, .reck 1, .row #[.int .i64 x], .reck 0, .bit true, .reck 13, .bit false, .bit false, .bit false, .reck 0] .normal [aObj A, rObj 2 m, cObj C] (nx n i) ([zeroC m, zeroC m, zeroC m, decide (x > leftM m) = true, celC A i x, inC n i, decide (4 > leftM m) = true, decide (2 > leftM m) = true, decide (1 > leftM m) = true] ++ headC n i) [plainC A, plainC C] := by unfold RD; kernel_rfl
theorem r_w_neg (n m i : Nat) (x : Int) (A C : Array Value) : RD pB [(G, true), (G + 1, false), (G + 2, true)] [1, 5, 7] [aObj A, rObj 2 m, cObj C] (KH n i) [.bit true, .bit true, .bit true, .bit true, .bit true, .reck 8, .bit true, .reck 10, .bit true, .reck 12, .bit true, .reck 1, .row #[.int .i64 x], .reck 0, .bit false, .reck 11, .bit false, .bit false, .bit false, .reck 0] .normal [aObj A, rObj 2 m, cObj C] (nx n i) ([zeroC m, zeroC m, zeroC m, decide (x > leftM m) = false, celC A i x, inC n i, decide (4 > leftM m) = true, decide (2 > leftM m) = true, decide (1 > leftM m) = true] ++ headC n i) [plainC A, plainC C] := by unfold RD; kernel_rfl
theorem r_w_end (n m i : Nat) (A C : Array Value) : RD pB [] [] [aObj A, rObj 2 m, cObj C] (KH n i) [.bit false, .bit false, .bit false, .reck 0] (.exit 0) [] [] [ltC n i false, ltC n i false, ltC n i false] [] := by unfold RD; kernel_rfl
theorem r_w_top (n m i : Nat) (A C : Array Value) : RD pB [] [] [aObj A, rObj 2 m, cObj C] (KH n i) [.bit true, .bit true, .bit true, .bit false] (.exit 0) [] [] [topC i false, ltC n i true, ltC n i true, ltC n i true] [] := by unfold RD; kernel_rfl
theorem r_w_go (n m : Nat) (A C : Array Value) : RD pR [(G, true), (G + 1, false), (G + 2, true)] [1, 5, 7] [aObj A, rObj 2 m, cObj C] [(1, rA 0 n), (5, pt 1)] [] .normal [aObj A, rObj 2 m, cObj C] (KH n 0) [] [plainC A, plainC C] := by unfold RD; kernel_rfl
theorem r_n_pos (n i : Nat) (x : Int) (A : Array Value) : RD pB [(G, true), (G + 1, false)] [1, 5, 7] [aObj A, nObj] (KH n i) [.bit true, .bit true, .bit true, .bit true, .reck 35, .bit true, .reck 1, .row #[.int .i64 x], .reck 0, .bit true, .reck 17] .normal [aObj A, nObj] (nx n i) ([decide (x > leftM 0) = true, celC A i x, inC n i] ++ headC n i) [plainC A] := by unfold RD; kernel_rfl
theorem r_n_neg (n i : Nat) (x : Int) (A : Array Value) : RD pB [(G, true), (G + 1, false)] [1, 5, 7] [aObj A, nObj] (KH n i) [.bit true, .bit true, .bit true, .bit true, .reck 35, .bit true, .reck 1, .row #[.int .i64 x], .reck 0, .bit false, .reck 15] .normal [aObj A, nObj] (nx n i) ([decide (x > leftM 0) = false, celC A i x, inC n i] ++ headC n i) [plainC A] := by unfold RD; kernel_rfl
theorem r_n_end (n i : Nat) (A : Array Value) : RD pB [] [] [aObj A, nObj] (KH n i) [.bit false, .bit false, .bit false, .reck 0] (.exit 0) [] [] [ltC n i false, ltC n i false, ltC n i false] [] := by unfold RD; kernel_rfl
theorem r_n_top (n i : Nat) (A : Array Value) : RD pB [] [] [aObj A, nObj] (KH n i) [.bit true, .bit true, .bit true, .bit false] (.exit 0) [] [] [topC i false, ltC n i true, ltC n i true, ltC n i true] [] := by unfold RD; kernel_rfl
theorem r_n_go (n : Nat) (A : Array Value) : RD pR [(G, true), (G + 1, false)] [1, 5, 7] [aObj A, nObj] [(1, rA 0 n), (5, pt 1)] [] .normal [aObj A, nObj] (KH n 0) [] [plainC A] := by unfold RD; kernel_rfl
theorem r_0_go : RD pR [] [1, 7] [] [(1, nl)] [] .normal [] [(1, nl), (7, .int .i64 0)] [] [] := by unfold RD; kernel_rfl
theorem r_0_end : RD pB [] [] [] [(1, nl), (7, .int .i64 0)] [.reck 3] (.exit 0) [] [] [] [] := by unfold RD; kernel_rfl
theorem fin : piece Try.prog noEnv 6 500 G (nav pE B) NT [] [4] [] [] = some (.ret, [], [(4, .bool true)]) := by kernel_rfl
theorem shape : Try.f6.body = some (nest pre (.seq (.seq (nav pR B) (.block 0 (.loop (nav pB B)))) (nav pE B))) := by kernel_rfl
theorem okPre : pre.all okCode = true := by kernel_rfl
theorem okB : okCode (nav pB B) = true := by kernel_rfl
theorem okR : okCode (nav pR B) = true := by kernel_rfl
theorem okE : okCode (nav pE B) = true := by kernel_rfl
end WireLk
end Go.Proofs.Ytddlejbcnjmfmaa
