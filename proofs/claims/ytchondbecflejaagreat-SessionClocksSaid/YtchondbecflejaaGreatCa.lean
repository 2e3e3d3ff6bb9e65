/- P12.2: who hears nothing for the hold time ends; until then it says a KEEPALIVE each third of it; who hears in time stays: its ways. -/
import Derived.Test.YtchondbecflejaaGreatBa
import Derived.Test.YtchondbecflejaaGreatEvY
namespace Go.Proofs.YtchondbecflejaaGreat
open Go Go.Ev Go.RowKit
set_option maxRecDepth 100000
namespace SessC
theorem known_run : runTrue Tryz.prog noEnv 300 10 #[] Tryz.prog.globals.size = true := by kernel_rfl
theorem known_sum : PureSum Tryz.prog 10 trueG := .of_calls Tryz.func10 (by kernel_rfl) rfl fun args p v h _ _ => by
  obtain ⟨rfl, rfl⟩ := trueG_args h
  exact ⟨rfl, fun W => calls_true noEnv_sound good Tryz.func10 rfl known_run rfl W⟩
def E : Env := pureEnv [(4, withinG), (10, trueG)]
theorem E_sound : E.Sound Tryz.prog := pureEnv_sound (P := Tryz.prog) (l := [(4, withinG), (10, trueG)]) ⟨within_sum, known_sum, trivial⟩
noncomputable abbrev G : Nat := Tryz.prog.globals.size
noncomputable abbrev B : Code := bodyOf Tryz.f3
noncomputable abbrev NT : Nat := Tryz.f3.ntmps
def RD (p : List Nat) (m : List (Nat × Bool)) (ks : List Nat) (L : List AObj) (K : List (Nat × Value)) (π : List Ans) (e : AExit) (L' : List AObj) (K' : List (Nat × Value)) (cs : List Prop) : Prop :=
  pieceS Tryz.prog E 3 5000 G (nav p B) NT m ks L K π = some (e, L', K', cs, [])
abbrev nI (x : Int) : Value := .int .i64 x
def eO : AObj := { cells := #[], esz := 1, st := 1, prev := [] }
noncomputable def sO (L m h d : Int) : AObj := { cells := #[.int .i64 65000, .int .i64 65001, .int .u32 1, .int .i64 L, .int .i64 4, .int .u32 7, .int .i64 m, .slice (some ⟨G + 1, 0, none⟩) 0 0, .int .i64 h, .int .i64 d], esz := 0, st := 1, prev := [] }
def K0 (a b : Int) : List (Nat × Value) := [(0, nI a), (1, nI b)]
def K1 (a b t : Int) : List (Nat × Value) := [(1, nI b), (5, nI t)]
noncomputable def K2 (b t : Int) : List (Nat × Value) := [(1, nI b), (5, nI t), (6, .pointer (some ⟨G, 0, none⟩))]
noncomputable def K3 (t q tu : Int) : List (Nat × Value) := [(1, nI q), (5, nI t), (6, .pointer (some ⟨G, 0, none⟩)), (7, nI tu)]
noncomputable def KI (t q tu i : Int) : List (Nat × Value) := [(1, nI q), (5, nI t), (6, .pointer (some ⟨G, 0, none⟩)), (7, nI tu), (8, nI i)]
noncomputable def K4 (t : Int) : List (Nat × Value) := [(5, nI t), (6, .pointer (some ⟨G, 0, none⟩))]
noncomputable def K5 (t sd : Int) : List (Nat × Value) := [(5, nI t), (6, .pointer (some ⟨G, 0, none⟩)), (11, nI sd)]
noncomputable def KC (t sd i : Int) : List (Nat × Value) := [(5, nI t), (6, .pointer (some ⟨G, 0, none⟩)), (11, nI sd), (12, nI i)]
noncomputable abbrev M2 : List (Nat × Bool) := [(G, false), (G + 1, false)]
noncomputable abbrev LS (L m h d : Int) : List AObj := [sO L m h d, eO]
abbrev pBB : List Nat := [1, 1, 1, 1, 1, 0, 1, 0, 0]
abbrev pIB : List Nat := [1, 1, 1, 1, 1, 0, 1, 0, 0, 1, 0, 0, 0, 1, 0, 0]
abbrev pCB : List Nat := [1, 1, 1, 1, 1, 1, 1, 0, 1, 0, 0]
def inW (x lo hi v : Int) : Prop := nI (withinV x lo hi) = nI v
def isW (x y : Int) : Prop := nI (wrapF .i64 x) = nI y
def geC (x y : Int) (b : Bool) : Prop := decide (wrapF .i64 (x + 1) ≥ y) = b
def thC (d m : Int) (b : Bool) : Prop := decide (wrapF .i64 (d + 1) ≥ wrapF .i64 (m.tdiv 3)) = b
def m0 (m : Int) : Prop := decide (m = 0) = false
def ltC (i q : Int) (b : Bool) : Prop := decide (i < q) = b
def upC (L : Int) : List Prop := [(!decide (L ≤ 65535)) = false, (!decide (L ≤ 65535)) = false, (!decide (L ≤ 65535)) = false, (!decide (L ≤ 65535)) = false, decide (L = 0) = false, decide (L ≥ 3) = true, decide (L = 0) = false, decide (L ≥ 3) = true, decide (L ≥ 3) = true,
  decide (L = 0) = false, decide (L = 0) = false, decide (L = 0) = false, decide (L > 65535) = false, decide (L < 3) = false, decide (L < 3) = false, decide (L < 3) = false, (!decide (L = 0)) = true, (!decide (L = 0)) = true, (!decide (L = 0)) = true]
def minV (L : Int) : Int := if (90 : Int) < L then 90 else L
theorem r_0 (a b : Int) : RD [0] [] [0, 1] [] (K0 a b) [] .normal [] (K0 a b) [] := by unfold RD; kernel_rfl
theorem r_t (a b n t : Int) : RD [1, 0] [] [1, 5] [] (K0 a b) [.reck 0, .as (nI n), .nm 0 (nI t)] .normal [] (K1 a b t) [isW (1 + n) t, inW a 0 29 n] := by unfold RD; kernel_rfl
theorem r_up (a b t L : Int) : RD [1, 1, 0] [(G, false), (G + 212, false)] [1, 5, 6] [] (K1 a b t) [.nm 0 (nI L), .reck 12, .bit true, .bit true, .bit true, .bit false, .bit false, .bit false, .bit false, .reck 13, .bit false, .bit false, .bit false, .bit true, .bit true, .bit false, .bit true, .bit false, .reck 1, .bit false, .bit false, .bit false, .bit false, .reck 1086] .normal (LS L (minV L) 0 0) (K2 b t) (upC L ++ [isW (3 * t) L]) := by unfold RD; kernel_rfl
theorem r_nil (b t L m : Int) : RD [1, 1, 1, 0] M2 [1, 5, 6] (LS L m 0 0) (K2 b t) [.reck 0] .normal (LS L m 0 0) (K2 b t) [] := by unfold RD; kernel_rfl
theorem r_q (b t L m u q : Int) : RD [1, 1, 1, 1, 0] M2 [1, 5, 6] (LS L m 0 0) (K2 b t) [.nm 0 (nI L), .nm 0 (nI u), .bit true, .as (nI q)] .normal (LS L m 0 0) (K2 q t) [inW b 0 u q, withinB 0 u = true, isW (L - 1) u, isW (3 * t) L] := by unfold RD; kernel_rfl
theorem r_tu (q t L m : Int) : RD [1, 1, 1, 1, 1, 0, 0] M2 [1, 5, 6, 7] (LS L m 0 0) (K2 q t) [] .normal (LS L m 0 0) (K3 t q 0) [] := by unfold RD; kernel_rfl
theorem r_tu0 (q t L m h d : Int) : RD [1, 1, 1, 1, 1, 0, 1, 0, 0, 0] M2 [1, 5, 6, 7] (LS L m h d) (K3 t q 0) [.reck 0] .normal (LS L m h d) (K3 t q 0) [] := by unfold RD; kernel_rfl
theorem r_nx0 (q t L m h d : Int) : RD [1, 1, 1, 1, 1, 0, 1, 0, 0, 1, 1] M2 [1, 5, 6, 7] (LS L m h d) (K3 t q 0) [] .normal (LS L m h d) (K3 t q 1) [] := by unfold RD; kernel_rfl
theorem r_fd0 (q t L m h d i : Int) : RD [1, 1, 1, 1, 1, 0, 1, 0, 0, 1, 0, 0, 1] [(G, false), (G + 40, false)] [1, 5, 6, 7] (LS L m h d) (KI t q 0 i) [.reck 246] .normal (LS L m 0 d) (K3 t q 0) [] := by unfold RD; kernel_rfl
theorem r_tu1 (q t L m h d : Int) : RD [1, 1, 1, 1, 1, 0, 1, 0, 0, 0] M2 [1, 5, 6, 7] (LS L m h d) (K3 t q 1) [.reck 0] .normal (LS L m h d) (K3 t q 1) [] := by unfold RD; kernel_rfl
theorem r_nx1 (q t L m h d : Int) : RD [1, 1, 1, 1, 1, 0, 1, 0, 0, 1, 1] M2 [1, 5, 6, 7] (LS L m h d) (K3 t q 1) [] .normal (LS L m h d) (K3 t q 2) [] := by unfold RD; kernel_rfl
theorem r_fd1 (q t L m h d i : Int) : RD [1, 1, 1, 1, 1, 0, 1, 0, 0, 1, 0, 0, 1] [(G, false), (G + 40, false)] [1, 5, 6, 7] (LS L m h d) (KI t q 1 i) [.reck 246] .normal (LS L m 0 d) (K3 t q 1) [] := by unfold RD; kernel_rfl
theorem r_tu2 (q t L m h d : Int) : RD [1, 1, 1, 1, 1, 0, 1, 0, 0, 0] M2 [5, 6] (LS L m h d) (K3 t q 2) [.reck 0] (.exit 0) (LS L m h d) (K4 t) [] := by unfold RD; kernel_rfl
theorem r_i0 (q t L m h d tu : Int) : RD [1, 1, 1, 1, 1, 0, 1, 0, 0, 1, 0, 0, 0, 0] M2 [1, 5, 6, 7, 8] (LS L m h d) (K3 t q tu) [] .normal (LS L m h d) (KI t q tu 0) [] := by unfold RD; kernel_rfl
theorem i_no (q t L m h d tu i : Int) : RD pIB M2 [1, 5, 6, 7, 8] (LS L m h d) (KI t q tu i) [.bit true, .reck 6, .bit false, .reck 2, .bit false, .reck 11, .bit false, .reck 4] .normal (LS L m (wrapF .i64 (h + 1)) (wrapF .i64 (d + 1))) (KI t q tu (wrapF .i64 (i + 1))) [thC d m false, geC h m false, m0 m, ltC i q true] := by unfold RD; kernel_rfl
theorem i_say (q t L m h d tu i : Int) : RD pIB M2 [1, 5, 6, 7, 8] (LS L m h d) (KI t q tu i) [.bit true, .reck 6, .bit false, .reck 2, .bit false, .reck 11, .bit true, .reck 184] .normal (LS L m (wrapF .i64 (h + 1)) 0) (KI t q tu (wrapF .i64 (i + 1))) [thC d m true, geC h m false, m0 m, ltC i q true] := by unfold RD; kernel_rfl
theorem i_end (q t L m h d tu i : Int) : RD pIB M2 [1, 5, 6, 7, 8] (LS L m h d) (KI t q tu i) [.bit false] (.exit 2) (LS L m h d) (KI t q tu i) [ltC i q false] := by unfold RD; kernel_rfl
theorem r_sd (t L m h d : Int) : RD [1, 1, 1, 1, 1, 1, 0] M2 [5, 6, 11] (LS L m h d) (K4 t) [] .normal (LS L m h d) (K5 t 0) [] := by unfold RD; kernel_rfl
theorem r_c1 (t L m h d : Int) : RD [1, 1, 1, 1, 1, 1, 1, 0, 0] M2 [5, 6, 11, 12] (LS L m h d) (K5 t 0) [] .normal (LS L m h d) (KC t 0 1) [] := by unfold RD; kernel_rfl
theorem c_no (t L m h d sd i : Int) : RD pCB M2 [5, 6, 11, 12] (LS L m h d) (KC t sd i) [.nm 0 (nI L), .bit true, .reck 6, .bit false, .reck 2, .bit false, .reck 11, .bit false, .reck 1] .normal (LS L m (wrapF .i64 (h + 1)) (wrapF .i64 (d + 1))) (KC t sd (wrapF .i64 (i + 1))) [thC d m false, geC h m false, m0 m, ltC i L true, isW (3 * t) L] := by unfold RD; kernel_rfl
theorem c_say (t L m h d sd i : Int) : RD pCB M2 [5, 6, 11, 12] (LS L m h d) (KC t sd i) [.nm 0 (nI L), .bit true, .reck 6, .bit false, .reck 2, .bit false, .reck 11, .bit true, .reck 181] .normal (LS L m (wrapF .i64 (h + 1)) 0) (KC t (wrapF .i64 (sd + 1)) (wrapF .i64 (i + 1))) [thC d m true, geC h m false, m0 m, ltC i L true, isW (3 * t) L] := by unfold RD; kernel_rfl
theorem c_end (t L m h d sd i : Int) : RD pCB M2 [5, 6, 11, 12] (LS L m h d) (KC t sd i) [.nm 0 (nI L), .bit false] (.exit 4) (LS L m h d) (KC t sd i) [ltC i L false, isW (3 * t) L] := by unfold RD; kernel_rfl
theorem r_end (t L m h d sd i : Int) : RD [1, 1, 1, 1, 1, 1, 1, 1] [] [4] (LS L m h d) (KC t sd i) [.reck 6, .bit false, .reck 2, .bit true, .reck 210, .bit true, .bit true, .bit true, .bit true, .reck 28] .ret [] [(4, .bool true)] [decide (sd ≥ 2) = true, decide (sd ≥ 2) = true, decide (sd ≥ 2) = true, decide (sd ≥ 2) = true, geC h m true, m0 m] := by unfold RD; kernel_rfl
end SessC
end Go.Proofs.YtchondbecflejaaGreat
