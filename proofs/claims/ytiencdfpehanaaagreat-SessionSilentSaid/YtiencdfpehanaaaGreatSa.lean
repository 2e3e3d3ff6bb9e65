/- P12.2: who is not there yet ends when the clock has run; without a hold time nothing ever does: its ways. -/
import Derived.Test.YtiencdfpehanaaaGreatWa
import Derived.Test.YtiencdfpehanaaaGreatEvY
namespace Go.Proofs.YtiencdfpehanaaaGreat
open Go Go.Ev Go.RowKit
set_option maxRecDepth 100000
namespace SessS
noncomputable abbrev G : Nat := Tryz.prog.globals.size
noncomputable abbrev B : Code := bodyOf Tryz.f4
noncomputable abbrev NT : Nat := Tryz.f4.ntmps
noncomputable abbrev pc (p : List Nat) (m ks : List Nat) (L : List AObj) (K : List (Nat × Value)) : Option (AExit × List AObj × List (Nat × Value)) := piece Tryz.prog SessW.E 4 5000 G (nav p B) NT m ks L K
def RD (p : List Nat) (m : List (Nat × Bool)) (ks : List Nat) (L : List AObj) (K : List (Nat × Value)) (π : List Ans) (e : AExit) (L' : List AObj) (K' : List (Nat × Value)) (cs : List Prop) : Prop :=
  pieceS Tryz.prog SessW.E 4 500 G (nav p B) NT m ks L K π = some (e, L', K', cs, [])
noncomputable def L0 : List AObj := []
noncomputable def K0 (a : Int) : List (Nat × Value) := [(0, .int .i64 a)]
noncomputable def o0 : AObj := { cells := #[.int .i64 65000, .int .i64 65001, .int .u32 1, .int .i64 90, .int .i64 1, .int .u32 0, .int .i64 0, .slice none 0 0, .int .i64 0, .int .i64 0], esz := 0, st := 1, prev := [] }
noncomputable def L1 : List AObj := [o0]
noncomputable def K1 (a : Int) : List (Nat × Value) := [(0, .int .i64 a), (3, .pointer (some ⟨G + 0, 0, none⟩)), (4, .int .i64 0)]
noncomputable def o1 : AObj := { cells := #[.int .i64 65000, .int .i64 65001, .int .u32 1, .int .i64 0, .int .i64 1, .int .u32 0, .int .i64 0, .slice none 0 0, .int .i64 0, .int .i64 0], esz := 0, st := 1, prev := [] }
noncomputable def L2 : List AObj := [o0, o1]
noncomputable def K2 (a : Int) : List (Nat × Value) := [(0, .int .i64 a), (3, .pointer (some ⟨G + 0, 0, none⟩)), (4, .int .i64 0), (5, .pointer (some ⟨G + 1, 0, none⟩)), (6, .int .i64 0)]
noncomputable def K3 (a : Int) : List (Nat × Value) := [(0, .int .i64 a), (3, .pointer (some ⟨G + 0, 0, none⟩)), (5, .pointer (some ⟨G + 1, 0, none⟩))]
noncomputable def o2 : AObj := { cells := #[.int .i64 65000, .int .i64 65001, .int .u32 1, .int .i64 90, .int .i64 2, .int .u32 0, .int .i64 0, .slice none 0 0, .int .i64 0, .int .i64 0], esz := 0, st := 1, prev := [], ver := 2 }
noncomputable def L3 : List AObj := [o2, o1]
noncomputable def o3 : AObj := { cells := #[.int .i64 65000, .int .i64 65001, .int .u32 1, .int .i64 0, .int .i64 2, .int .u32 0, .int .i64 0, .slice none 0 0, .int .i64 0, .int .i64 0], esz := 0, st := 1, prev := [], ver := 2 }
noncomputable def L4 : List AObj := [o2, o3]
noncomputable def o4 : AObj := { cells := #[.int .i64 65000, .int .i64 65001, .int .u32 1, .int .i64 0, .int .i64 3, .int .u32 7, .int .i64 0, .slice (some ⟨G + 2, 0, none⟩) 0 0, .int .i64 0, .int .i64 0], esz := 0, st := 1, prev := [], ver := 9 }
noncomputable def o5 : AObj := { cells := #[], esz := 1, st := 1, prev := [] }
noncomputable def L5 : List AObj := [o2, o4, o5]
noncomputable def o6 : AObj := { cells := #[.int .i64 65000, .int .i64 65001, .int .u32 1, .int .i64 0, .int .i64 4, .int .u32 7, .int .i64 0, .slice (some ⟨G + 2, 0, none⟩) 0 0, .int .i64 0, .int .i64 0], esz := 0, st := 1, prev := [], ver := 13 }
noncomputable def L6 : List AObj := [o2, o6, o5]
theorem p0 (a : Int) : pc [0] [] [0] L0 (K0 a) = some (.normal, L0, (K0 a)) := by kernel_rfl
theorem p1 (a : Int) : pc [1, 0] [G + 0] [0, 3, 4] L0 (K0 a) = some (.normal, L1, (K1 a)) := by kernel_rfl
theorem p2 (a : Int) : pc [1, 1, 0] [G + 0, G + 1] [0, 3, 4, 5, 6] L1 (K1 a) = some (.normal, L2, (K2 a)) := by kernel_rfl
theorem p3 (a : Int) : pc [1, 1, 1, 0] [G + 0, G + 1] [0, 3, 5] L2 (K2 a) = some (.normal, L2, (K3 a)) := by kernel_rfl
theorem p4 (a : Int) : pc [1, 1, 1, 1, 0] [G + 0, G + 1] [0, 3, 5] L2 (K3 a) = some (.normal, L3, (K3 a)) := by kernel_rfl
theorem p5 (a : Int) : pc [1, 1, 1, 1, 1, 0] [G + 0, G + 1] [0, 3, 5] L3 (K3 a) = some (.normal, L4, (K3 a)) := by kernel_rfl
theorem p6 (a : Int) : pc [1, 1, 1, 1, 1, 1, 0] [G + 0, G + 1, G + 106] [0, 3, 5] L4 (K3 a) = some (.normal, L5, (K3 a)) := by kernel_rfl
theorem p7 (a : Int) : pc [1, 1, 1, 1, 1, 1, 1, 0] [G + 0, G + 1, G + 43] [0, 3, 5] L5 (K3 a) = some (.normal, L6, (K3 a)) := by kernel_rfl
abbrev pW : List Nat := [1, 1, 1, 1, 1, 1, 1, 1, 0]
abbrev pR : List Nat := [1, 1, 1, 1, 1, 1, 1, 1, 1, 0, 0]
abbrev pB : List Nat := [1, 1, 1, 1, 1, 1, 1, 1, 1, 0, 1, 0, 0]
abbrev pE : List Nat := [1, 1, 1, 1, 1, 1, 1, 1, 1, 1]
def sV (v : Int) : AObj := { cells := #[.int .i64 65000, .int .i64 65001, .int .u32 1, .int .i64 90, .int .i64 2, .int .u32 0, .int .i64 0, .slice none 0 0, .int .i64 v, .int .i64 v], esz := 0, st := 1, prev := [] }
def sO (c : Nat) : AObj := sV (Int.ofNat c)
def dO : AObj := { cells := #[.int .i64 65000, .int .i64 65001, .int .u32 1, .int .i64 90, .int .i64 1, .int .u32 0, .int .i64 0, .slice none 0 0, .int .i64 240, .int .i64 240], esz := 0, st := 1, prev := [] }
noncomputable def tO : AObj := { cells := #[.int .i64 65000, .int .i64 65001, .int .u32 1, .int .i64 0, .int .i64 4, .int .u32 7, .int .i64 0, .slice (some ⟨G + 2, 0, none⟩) 0 0, .int .i64 0, .int .i64 0], esz := 0, st := 1, prev := [] }
def eO : AObj := { cells := #[], esz := 1, st := 1, prev := [] }
noncomputable def KW (n : Nat) : List (Nat × Value) := [(3, .pointer (some ⟨G, 0, none⟩)), (5, .pointer (some ⟨G + 1, 0, none⟩)), (7, .int .i64 (Int.ofNat n))]
noncomputable def KV (n : Nat) (v : Int) : List (Nat × Value) := [(3, .pointer (some ⟨G, 0, none⟩)), (5, .pointer (some ⟨G + 1, 0, none⟩)), (7, .int .i64 (Int.ofNat n)), (8, .int .i64 v)]
noncomputable def KH (n i : Nat) : List (Nat × Value) := KV n (Int.ofNat i)
noncomputable abbrev M3 : List (Nat × Bool) := [(G, false), (G + 1, false), (G + 2, false)]
def leC (i n : Nat) (b : Bool) : Prop := decide (Int.ofNat i ≤ Int.ofNat n) = b
def idC (st : Int) (i : Nat) : Prop := (!(decide (st = 1) == decide (Int.ofNat i ≥ 240))) = false
def ouC (i : Nat) : Prop := (!(decide (((0 : Nat) : Int) > 0) == decide (Int.ofNat i = 240))) = false
def heC (c : Nat) : Prop := decide (wrapF .i64 (Int.ofNat c + 1) ≥ 240) = false
def inW (a : Int) (n : Nat) : Prop := Value.int .i64 (withinV a 1 600) = Value.int .i64 (Int.ofNat n)
theorem r_w (a : Int) (n : Nat) : RD pW M3 [3, 5, 7] L6 (K3 a) [.reck 0, .as (.int .i64 (Int.ofNat n))] .normal [sO 0, tO, eO] (KW n) [inW a n] := by unfold RD; kernel_rfl
theorem r_go (n : Nat) : RD pR M3 [3, 5, 7, 8] [sO 0, tO, eO] (KW n) [] .normal [sO 0, tO, eO] (KH n 1) [] := by unfold RD; kernel_rfl
theorem r_low (n c : Nat) : RD pB M3 [3, 5, 7, 8] [sO c, tO, eO] (KH n (c + 1)) [.bit true, .reck 10, .bit false, .reck 26, .bit false, .bit false, .bit false, .bit false, .bit false, .bit false, .bit false, .bit false, .bit false, .bit false, .bit false, .bit false, .bit false, .bit false, .reck 4]
    .normal [sV (wrapF .i64 (Int.ofNat c + 1)), tO, eO] (KV n (wrapF .i64 (Int.ofNat (c + 1) + 1)))
    [idC 2 (c + 1), idC 2 (c + 1), idC 2 (c + 1), idC 2 (c + 1), idC 2 (c + 1), idC 2 (c + 1), idC 2 (c + 1), ouC (c + 1), ouC (c + 1), ouC (c + 1), ouC (c + 1), ouC (c + 1), ouC (c + 1), ouC (c + 1), heC c, leC (c + 1) n true] := by unfold RD; kernel_rfl
theorem r_at (n : Nat) : RD pB M3 [3, 5, 7, 8] [sO 239, tO, eO] (KH n 240) [.bit true, .reck 256] .normal [dO, tO, eO] (KH n 241) [leC 240 n true] := by unfold RD; kernel_rfl
theorem r_dead (n i : Nat) : RD pB M3 [3, 5, 7, 8] [dO, tO, eO] (KH n i) [.bit true, .reck 15, .bit false, .bit false, .bit false, .bit false, .bit false, .bit false, .bit false, .bit false, .bit false, .bit false, .bit false, .bit false, .bit false, .bit false, .reck 4]
    .normal [dO, tO, eO] (KV n (wrapF .i64 (Int.ofNat i + 1))) [idC 1 i, idC 1 i, idC 1 i, idC 1 i, idC 1 i, idC 1 i, idC 1 i, ouC i, ouC i, ouC i, ouC i, ouC i, ouC i, ouC i, leC i n true] := by unfold RD; kernel_rfl
theorem r_lend (n c : Nat) : RD pB [] [] [sO c, tO, eO] (KH n (c + 1)) [.bit false] (.exit 0) [] [] [leC (c + 1) n false] := by unfold RD; kernel_rfl
theorem r_dend (n i : Nat) : RD pB [] [] [dO, tO, eO] (KH n i) [.bit false] (.exit 0) [] [] [leC i n false] := by unfold RD; kernel_rfl
theorem fin : pc pE [] [2] [] [] = some (.ret, [], [(2, .bool true)]) := by kernel_rfl
theorem shape : Tryz.f4.body = some (nest [nav [0] B, nav [1, 0] B, nav [1, 1, 0] B, nav [1, 1, 1, 0] B, nav [1, 1, 1, 1, 0] B, nav [1, 1, 1, 1, 1, 0] B, nav [1, 1, 1, 1, 1, 1, 0] B, nav [1, 1, 1, 1, 1, 1, 1, 0] B, nav pW B]
  (.seq (.seq (nav pR B) (.block 0 (.loop (nav pB B)))) (nav pE B))) := by kernel_rfl
theorem okW : okCode (nav pW B) = true := by kernel_rfl
theorem okR : okCode (nav pR B) = true := by kernel_rfl
theorem okB : okCode (nav pB B) = true := by kernel_rfl
theorem okE : okCode (nav pE B) = true := by kernel_rfl
end SessS
end Go.Proofs.YtiencdfpehanaaaGreat
